/-
  Layer 3, the laws: the law of sums of lists. (Written by a script of wip/tools.)
-/
import Derived.Test.YtknomchkfamajaaGreatDoorDyLZ
import Derived.Test.YtknomchkfamajaaGreatDoorDyNH
namespace Go.Proofs.YtknomchkfamajaaGreatDoor
open Go.RowKit Go.Sort Go.Bw
set_option linter.unusedVariables false
set_option linter.unusedSimpArgs false

section
variable {n c n2 c2 : Nat} {A A2 : Option Addr} {w : World} {P Q : Int} {es fs : List De}

theorem De.N_in {e : De} (h : Lv w e.A e.l.length e.c e.l) (ho : e.ok) : e.N.In (-2000) 2256 := by
  obtain ⟨h1, h2, h3⟩ := ho
  have h4 := h.less (k := 4) h1
  rw [pow64] at h4
  refine (nfl_in (b := e.b) (e := e.x) (q := e.x + 256) (lim_val h.lim) (by omega) ?_).mono (by omega) (by omega)
  rw [show (e.x + 256 - e.x).toNat = 256 by omega]
  exact h4
theorem at0_in (h : Dl w A n c es) (ho : ∀ e ∈ es, e.ok) (i : Nat) : (at0 es i).In (-2000) 2256 := by
  unfold at0
  split
  · rename_i e he
    have hm := List.mem_of_getElem? he
    exact De.N_in (h.2.2.1 e hm).1 (ho e hm)
  · exact zeroN_in _ _
theorem De.okE {e : De} (ho : e.ok) : okE e.x = true := okE_true (by have := ho.2.1; omega) (by have := ho.2.2; omega)
theorem sums_R (h : Dl w A n c es) (ho : ∀ e ∈ es, e.ok) (hn : n ≤ 30) :
    ∃ R : Nf, (∀ W, Below w.heap.size w W → Tab W → Calls Tryz.prog 47 #[.slice A n c] W (DyK R 0 W)) ∧ (∀ W, Below w.heap.size w W → Calls Tryz.prog 48 #[.slice A n c] W (DyK R 0 W)) := by
  have HI : Hid (∀ k, k ≤ n → (sumTo (at0 es) k).In (-2000) 2286) := Lib.hid fun k hk => (sumTo_in (at0 es) n (by omega) (fun i _ => at0_ok es i) (fun i _ => at0_in h ho i) k hk).mono (by omega) (by omega)
  have HF : Hid (∀ k, k < n → (at0 es k).In (-2000) 2286) := Lib.hid fun k _ => (at0_in h ho k).mono (by omega) (by omega)
  have o1 : ∀ e ∈ es, okE e.x = true := fun e he => De.okE (ho e he)
  have o2 : ∀ e ∈ es, e.l.length ≤ 4096 := fun e he => by have := (ho e he).1; omega
  exact ⟨_, fun W hb hT => dSum_in (h.on hb) hT o1 o2 HI HF (by omega) (by omega) (by omega) (by omega), fun W hb => rSum_in (h.on hb) o1 o2 HI HF (by omega) (by omega) (by omega) (by omega)⟩
theorem dots_R (h : Dl w A n c es) (ho : ∀ e ∈ es, e.ok) (hn : n ≤ 30) (h2 : Dl w A2 n2 c2 fs) (ho2 : ∀ e ∈ fs, e.ok) :
    ∃ (R : Nf) (K : Int), (∀ W, Below w.heap.size w W → Tab W → Calls Tryz.prog 49 #[.slice A n c, .slice A2 n2 c2] W (DyK R K W)) ∧ (∀ W, Below w.heap.size w W → Calls Tryz.prog 50 #[.slice A n c, .slice A2 n2 c2] W (DyK R K W)) := by
  by_cases e : n = n2
  · subst e
    have hin := fun k => mulN_in (at0_in h ho k) (at0_in h2 ho2 k)
    have HI : Hid (∀ k, k ≤ n → (sumTo (fun i => mulN (at0 es i) (at0 fs i)) k).In (-4000) 4542) := Lib.hid fun k hk => (sumTo_in (fun i => mulN (at0 es i) (at0 fs i)) n (by omega) (fun i _ => mulN_ok _ _) (fun i _ => hin i) k hk).mono (by omega) (by omega)
    have HF : Hid (∀ k, k < n → (mulN (at0 es k) (at0 fs k)).In (-4000) 4542) := Lib.hid fun k _ => (hin k).mono (by omega) (by omega)
    have HM : Hid (∀ k, k < n → okE (mulN (at0 es k) (at0 fs k)).exp = true) := Lib.hid fun k _ => in_okE (mulN_ok _ _) (hin k) (by omega) (by omega)
    have o1 : ∀ e ∈ es, okE e.x = true := fun e he => De.okE (ho e he)
    have o2 : ∀ e ∈ es, e.l.length ≤ 2048 := fun e he => by have := (ho e he).1; omega
    have o3 : ∀ e ∈ fs, okE e.x = true := fun e he => De.okE (ho2 e he)
    have o4 : ∀ e ∈ fs, e.l.length ≤ 2048 := fun e he => by have := (ho2 e he).1; omega
    exact ⟨_, _, fun W hb hT => dDot_in (h.on hb) (h2.on hb) hT o1 o2 o3 o4 HM HI HF (by omega) (by omega) (by omega) (by omega), fun W hb => rDot_in (h.on hb) (h2.on hb) o1 o2 o3 o4 HM HI HF (by omega) (by omega) (by omega) (by omega)⟩
  · exact ⟨_, _, fun W hb hT => dDot_ne e, fun W hb => rDot_ne e⟩
set_option maxRecDepth 100000 in
set_option maxHeartbeats 8000000 in
theorem sums_noa (s1 : Calls Tryz.prog 46 #[.slice A n c] w (Ret (.bool false) w)) (hT : Tab w) (hP : PowT w) :
    Calls Tryz.prog 10 #[.slice A n c, .slice A2 n2 c2] w fun e w' => e = .returned (.bool true) ∧ Below w.heap.size w w' := by
  have bw : Below w.heap.size w w := Below.refl _ _
  go_enter Tryz.func10, Tryz.ntmps10
  go_wp2_with fail
  with_reducible refine (s1).mono ?_
  rintro e v0 ⟨rfl, rfl⟩
  go_wp2_with fail
  with_reducible refine (dknown_any _ (hT.onD (by go_grown)) (hP.on (by go_grown))).mono ?_
  rintro e w1 ⟨rfl, hb⟩
  have hs1 := hb.size
  try simp only [World.size_alloc, World.size_setCell] at hs1
  replace bw : Below w.heap.size w w1 := dy_end (by go_grown) hb
  clear hb
  go_wp2_with fail
  go_ret
  exact ⟨rfl, by go_grown⟩

set_option maxRecDepth 100000 in
set_option maxHeartbeats 8000000 in
theorem sums_nob (s1 : Calls Tryz.prog 46 #[.slice A n c] w (Ret (.bool true) w)) (s2 : Calls Tryz.prog 46 #[.slice A2 n2 c2] w (Ret (.bool false) w)) (hT : Tab w) (hP : PowT w) :
    Calls Tryz.prog 10 #[.slice A n c, .slice A2 n2 c2] w fun e w' => e = .returned (.bool true) ∧ Below w.heap.size w w' := by
  have bw : Below w.heap.size w w := Below.refl _ _
  go_enter Tryz.func10, Tryz.ntmps10
  go_wp2_with fail
  with_reducible refine (s1).mono ?_
  rintro e v0 ⟨rfl, rfl⟩
  go_wp2_with fail
  with_reducible refine (s2).mono ?_
  rintro e v0 ⟨rfl, rfl⟩
  go_wp2_with fail
  with_reducible refine (dknown_any _ (hT.onD (by go_grown)) (hP.on (by go_grown))).mono ?_
  rintro e w1 ⟨rfl, hb⟩
  have hs1 := hb.size
  try simp only [World.size_alloc, World.size_setCell] at hs1
  replace bw : Below w.heap.size w w1 := dy_end (by go_grown) hb
  clear hb
  go_wp2_with fail
  go_ret
  exact ⟨rfl, by go_grown⟩

set_option maxRecDepth 100000 in
set_option maxHeartbeats 8000000 in
theorem sums_main (s1 : Calls Tryz.prog 46 #[.slice A n c] w (Ret (.bool true) w)) (s2 : Calls Tryz.prog 46 #[.slice A2 n2 c2] w (Ret (.bool true) w)) {R R2 : Nf} {K : Int} (p2 : (∀ W, Below w.heap.size w W → Tab W → Calls Tryz.prog 47 #[.slice A n c] W (DyK R 0 W))) (p3 : (∀ W, Below w.heap.size w W → Calls Tryz.prog 48 #[.slice A n c] W (DyK R 0 W))) (p4 : (∀ W, Below w.heap.size w W → Tab W → Calls Tryz.prog 49 #[.slice A n c, .slice A2 n2 c2] W (DyK R2 K W))) (p5 : (∀ W, Below w.heap.size w W → Calls Tryz.prog 50 #[.slice A n c, .slice A2 n2 c2] W (DyK R2 K W))) (hT : Tab w) (hP : PowT w) :
    Calls Tryz.prog 10 #[.slice A n c, .slice A2 n2 c2] w fun e w' => e = .returned (.bool true) ∧ Below w.heap.size w w' := by
  have bw : Below w.heap.size w w := Below.refl _ _
  go_enter Tryz.func10, Tryz.ntmps10
  go_wp2_with fail
  with_reducible refine (s1).mono ?_
  rintro e v0 ⟨rfl, rfl⟩
  go_wp2_with fail
  with_reducible refine (s2).mono ?_
  rintro e v0 ⟨rfl, rfl⟩
  go_wp2_with fail
  with_reducible refine (p2 _ (by go_grown) (hT.onD (by go_grown))).mono ?_
  rintro e w1 ⟨b2, q2, A2, c2, x2, rfl, hd2, m2, hb⟩
  have hs1 := hb.size
  try simp only [World.size_alloc, World.size_setCell] at hs1
  replace bw : Below w.heap.size w w1 := dy_end (by go_grown) hb
  clear hb
  replace m2 := Lv.alloc m2 (.cells #[.bool b2, .slice A2 q2.length c2, .int .i64 x2] 24)
  have HB := Blk.new w1 [.bool b2, .slice A2 q2.length c2, .int .i64 x2] 24
  obtain ⟨HB_0, HB_1, HB_2, HB_f0, HB_f1, HB_f2⟩ := Dbx.cells HB
  go_wp2_with fail
  with_reducible refine (p3 _ (by go_grown)).mono ?_
  rintro e w2 ⟨b3, q3, A3, c3, x3, rfl, hd3, m3, hb⟩
  clear HB_0 HB_1 HB_2 HB_f0 HB_f1 HB_f2
  have hs2 := hb.size
  try simp only [World.size_alloc, World.size_setCell] at hs2
  replace bw : Below w.heap.size w w2 := dy_end (by go_grown) hb
  replace m2 := Lv.on m2 hb
  replace HB := Blk.on HB hb
  clear hb
  obtain ⟨HB_0, HB_1, HB_2, HB_f0, HB_f1, HB_f2⟩ := Dbx.cells HB
  replace m2 := Lv.alloc m2 (.cells #[.bool b3, .slice A3 q3.length c3, .int .i64 x3] 24)
  replace m3 := Lv.alloc m3 (.cells #[.bool b3, .slice A3 q3.length c3, .int .i64 x3] 24)
  replace HB := Blk.alloc HB (.cells #[.bool b3, .slice A3 q3.length c3, .int .i64 x3] 24)
  have IB := Blk.new w2 [.bool b3, .slice A3 q3.length c3, .int .i64 x3] 24
  obtain ⟨HB_v0_0, HB_v0_1, HB_v0_2, HB_v0_f0, HB_v0_f1, HB_v0_f2⟩ := Dbx.cells HB
  obtain ⟨IB_0, IB_1, IB_2, IB_f0, IB_f1, IB_f2⟩ := Dbx.cells IB
  go_wp2_with fail
  with_reducible refine (p4 _ (by go_grown) (hT.onD (by go_grown))).mono ?_
  rintro e w3 ⟨b4, q4, A4, c4, x4, rfl, hd4, m4, hb⟩
  clear HB_0 HB_1 HB_2 HB_f0 HB_f1 HB_f2 HB_v0_0 HB_v0_1 HB_v0_2 HB_v0_f0 HB_v0_f1 HB_v0_f2
  clear IB_0 IB_1 IB_2 IB_f0 IB_f1 IB_f2
  have hs3 := hb.size
  try simp only [World.size_alloc, World.size_setCell] at hs3
  replace bw : Below w.heap.size w w3 := dy_end (by go_grown) hb
  replace m2 := Lv.on m2 hb
  replace m3 := Lv.on m3 hb
  replace HB := Blk.on HB hb
  replace IB := Blk.on IB hb
  clear hb
  obtain ⟨HB_0, HB_1, HB_2, HB_f0, HB_f1, HB_f2⟩ := Dbx.cells HB
  obtain ⟨IB_0, IB_1, IB_2, IB_f0, IB_f1, IB_f2⟩ := Dbx.cells IB
  replace m2 := Lv.alloc m2 (.cells #[.bool b4, .slice A4 q4.length c4, .int .i64 x4] 24)
  replace m3 := Lv.alloc m3 (.cells #[.bool b4, .slice A4 q4.length c4, .int .i64 x4] 24)
  replace m4 := Lv.alloc m4 (.cells #[.bool b4, .slice A4 q4.length c4, .int .i64 x4] 24)
  replace HB := Blk.alloc HB (.cells #[.bool b4, .slice A4 q4.length c4, .int .i64 x4] 24)
  replace IB := Blk.alloc IB (.cells #[.bool b4, .slice A4 q4.length c4, .int .i64 x4] 24)
  have JB := Blk.new w3 [.bool b4, .slice A4 q4.length c4, .int .i64 x4] 24
  obtain ⟨HB_v1_0, HB_v1_1, HB_v1_2, HB_v1_f0, HB_v1_f1, HB_v1_f2⟩ := Dbx.cells HB
  obtain ⟨IB_v2_0, IB_v2_1, IB_v2_2, IB_v2_f0, IB_v2_f1, IB_v2_f2⟩ := Dbx.cells IB
  obtain ⟨JB_0, JB_1, JB_2, JB_f0, JB_f1, JB_f2⟩ := Dbx.cells JB
  go_wp2_with fail
  with_reducible refine (p5 _ (by go_grown)).mono ?_
  rintro e w4 ⟨b5, q5, A5, c5, x5, rfl, hd5, m5, hb⟩
  clear HB_0 HB_1 HB_2 HB_f0 HB_f1 HB_f2 HB_v1_0 HB_v1_1 HB_v1_2 HB_v1_f0 HB_v1_f1 HB_v1_f2
  clear IB_0 IB_1 IB_2 IB_f0 IB_f1 IB_f2 IB_v2_0 IB_v2_1 IB_v2_2 IB_v2_f0 IB_v2_f1 IB_v2_f2
  clear JB_0 JB_1 JB_2 JB_f0 JB_f1 JB_f2
  have hs4 := hb.size
  try simp only [World.size_alloc, World.size_setCell] at hs4
  replace bw : Below w.heap.size w w4 := dy_end (by go_grown) hb
  replace m2 := Lv.on m2 hb
  replace m3 := Lv.on m3 hb
  replace m4 := Lv.on m4 hb
  replace HB := Blk.on HB hb
  replace IB := Blk.on IB hb
  replace JB := Blk.on JB hb
  clear hb
  obtain ⟨HB_0, HB_1, HB_2, HB_f0, HB_f1, HB_f2⟩ := Dbx.cells HB
  obtain ⟨IB_0, IB_1, IB_2, IB_f0, IB_f1, IB_f2⟩ := Dbx.cells IB
  obtain ⟨JB_0, JB_1, JB_2, JB_f0, JB_f1, JB_f2⟩ := Dbx.cells JB
  replace m2 := Lv.alloc m2 (.cells #[.bool b5, .slice A5 q5.length c5, .int .i64 x5] 24)
  replace m3 := Lv.alloc m3 (.cells #[.bool b5, .slice A5 q5.length c5, .int .i64 x5] 24)
  replace m4 := Lv.alloc m4 (.cells #[.bool b5, .slice A5 q5.length c5, .int .i64 x5] 24)
  replace m5 := Lv.alloc m5 (.cells #[.bool b5, .slice A5 q5.length c5, .int .i64 x5] 24)
  replace HB := Blk.alloc HB (.cells #[.bool b5, .slice A5 q5.length c5, .int .i64 x5] 24)
  replace IB := Blk.alloc IB (.cells #[.bool b5, .slice A5 q5.length c5, .int .i64 x5] 24)
  replace JB := Blk.alloc JB (.cells #[.bool b5, .slice A5 q5.length c5, .int .i64 x5] 24)
  have KB := Blk.new w4 [.bool b5, .slice A5 q5.length c5, .int .i64 x5] 24
  obtain ⟨HB_v3_0, HB_v3_1, HB_v3_2, HB_v3_f0, HB_v3_f1, HB_v3_f2⟩ := Dbx.cells HB
  obtain ⟨IB_v4_0, IB_v4_1, IB_v4_2, IB_v4_f0, IB_v4_f1, IB_v4_f2⟩ := Dbx.cells IB
  obtain ⟨JB_v5_0, JB_v5_1, JB_v5_2, JB_v5_f0, JB_v5_f1, JB_v5_f2⟩ := Dbx.cells JB
  obtain ⟨KB_0, KB_1, KB_2, KB_f0, KB_f1, KB_f2⟩ := Dbx.cells KB
  go_wp2_with fail
  obtain ⟨z1, z2, z3⟩ := Dn.uniq hd3 hd2 m3.lim m2.lim
  subst z1 z2 z3
  go_wp2_with fail
  with_reducible refine (rSame_any m2 m3).mono ?_
  rintro e w6 ⟨rfl, hb⟩
  clear HB_0 HB_1 HB_2 HB_f0 HB_f1 HB_f2 HB_v3_0 HB_v3_1 HB_v3_2 HB_v3_f0 HB_v3_f1 HB_v3_f2
  clear IB_0 IB_1 IB_2 IB_f0 IB_f1 IB_f2 IB_v4_0 IB_v4_1 IB_v4_2 IB_v4_f0 IB_v4_f1 IB_v4_f2
  clear JB_0 JB_1 JB_2 JB_f0 JB_f1 JB_f2 JB_v5_0 JB_v5_1 JB_v5_2 JB_v5_f0 JB_v5_f1 JB_v5_f2
  clear KB_0 KB_1 KB_2 KB_f0 KB_f1 KB_f2
  have hs6 := hb.size
  try simp only [World.size_alloc, World.size_setCell] at hs6
  replace bw : Below w.heap.size w w6 := dy_end (by go_grown) hb
  replace m2 := Lv.on m2 hb
  replace m3 := Lv.on m3 hb
  replace m4 := Lv.on m4 hb
  replace m5 := Lv.on m5 hb
  replace HB := Blk.on HB hb
  replace IB := Blk.on IB hb
  replace JB := Blk.on JB hb
  replace KB := Blk.on KB hb
  clear hb
  obtain ⟨HB_0, HB_1, HB_2, HB_f0, HB_f1, HB_f2⟩ := Dbx.cells HB
  obtain ⟨IB_0, IB_1, IB_2, IB_f0, IB_f1, IB_f2⟩ := Dbx.cells IB
  obtain ⟨JB_0, JB_1, JB_2, JB_f0, JB_f1, JB_f2⟩ := Dbx.cells JB
  obtain ⟨KB_0, KB_1, KB_2, KB_f0, KB_f1, KB_f2⟩ := Dbx.cells KB
  go_wp2_with fail
  with_reducible refine (lnum_any (0) _).mono ?_
  rintro e v7 ⟨rfl, rfl⟩
  go_wp2_with fail
  obtain ⟨z1, z2, z3⟩ := Dn.uniq hd5 hd4 m5.lim m4.lim
  subst z1 z2 z3
  go_wp2_with fail
  with_reducible refine (rSame_any m4 m5).mono ?_
  rintro e w9 ⟨rfl, hb⟩
  clear HB_0 HB_1 HB_2 HB_f0 HB_f1 HB_f2
  clear IB_0 IB_1 IB_2 IB_f0 IB_f1 IB_f2
  clear JB_0 JB_1 JB_2 JB_f0 JB_f1 JB_f2
  clear KB_0 KB_1 KB_2 KB_f0 KB_f1 KB_f2
  have hs9 := hb.size
  try simp only [World.size_alloc, World.size_setCell] at hs9
  replace bw : Below w.heap.size w w9 := dy_end (by go_grown) hb
  replace m2 := Lv.on m2 hb
  replace m3 := Lv.on m3 hb
  replace m4 := Lv.on m4 hb
  replace m5 := Lv.on m5 hb
  replace HB := Blk.on HB hb
  replace IB := Blk.on IB hb
  replace JB := Blk.on JB hb
  replace KB := Blk.on KB hb
  clear hb
  obtain ⟨HB_0, HB_1, HB_2, HB_f0, HB_f1, HB_f2⟩ := Dbx.cells HB
  obtain ⟨IB_0, IB_1, IB_2, IB_f0, IB_f1, IB_f2⟩ := Dbx.cells IB
  obtain ⟨JB_0, JB_1, JB_2, JB_f0, JB_f1, JB_f2⟩ := Dbx.cells JB
  obtain ⟨KB_0, KB_1, KB_2, KB_f0, KB_f1, KB_f2⟩ := Dbx.cells KB
  go_wp2_with fail
  with_reducible refine (lnum_any (K) _).mono ?_
  rintro e v10 ⟨rfl, rfl⟩
  go_wp2_with fail
  with_reducible refine (dknown_any _ (hT.onD (by go_grown)) (hP.on (by go_grown))).mono ?_
  rintro e w11 ⟨rfl, hb⟩
  clear HB_0 HB_1 HB_2 HB_f0 HB_f1 HB_f2
  clear IB_0 IB_1 IB_2 IB_f0 IB_f1 IB_f2
  clear JB_0 JB_1 JB_2 JB_f0 JB_f1 JB_f2
  clear KB_0 KB_1 KB_2 KB_f0 KB_f1 KB_f2
  have hs11 := hb.size
  try simp only [World.size_alloc, World.size_setCell] at hs11
  replace bw : Below w.heap.size w w11 := dy_end (by go_grown) hb
  replace m2 := Lv.on m2 hb
  replace m3 := Lv.on m3 hb
  replace m4 := Lv.on m4 hb
  replace m5 := Lv.on m5 hb
  replace HB := Blk.on HB hb
  replace IB := Blk.on IB hb
  replace JB := Blk.on JB hb
  replace KB := Blk.on KB hb
  clear hb
  obtain ⟨HB_0, HB_1, HB_2, HB_f0, HB_f1, HB_f2⟩ := Dbx.cells HB
  obtain ⟨IB_0, IB_1, IB_2, IB_f0, IB_f1, IB_f2⟩ := Dbx.cells IB
  obtain ⟨JB_0, JB_1, JB_2, JB_f0, JB_f1, JB_f2⟩ := Dbx.cells JB
  obtain ⟨KB_0, KB_1, KB_2, KB_f0, KB_f1, KB_f2⟩ := Dbx.cells KB
  go_wp2_with fail
  go_ret
  exact ⟨rfl, by go_grown⟩


theorem sums_law (A : Option Addr) (n c : Nat) (es : List De) (A2 : Option Addr) (n2 c2 : Nat) (fs : List De) (w : World) (h : Dl w A n c es) (h2 : Dl w A2 n2 c2 fs) (hT : Tab w) (hP : PowT w) :
    Calls Tryz.prog 10 #[.slice A n c, .slice A2 n2 c2] w fun e w' => e = .returned (.bool true) ∧ Below w.heap.size w w' := by
  rcases small_any h with s1 | ⟨ho, hn, s1⟩
  · exact sums_noa s1 hT hP
  · rcases small_any h2 with s2 | ⟨ho2, hn2, s2⟩
    · exact sums_nob s1 s2 hT hP
    · obtain ⟨R, p2, p3⟩ := sums_R h ho hn
      obtain ⟨R2, K, p4, p5⟩ := dots_R h ho hn h2 ho2
      exact sums_main s1 s2 p2 p3 p4 p5 hT hP
end
end Go.Proofs.YtknomchkfamajaaGreatDoor
