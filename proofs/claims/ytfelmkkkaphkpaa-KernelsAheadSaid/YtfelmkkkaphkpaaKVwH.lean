/-
  Layer 7, walks: parts, rows, columns, whole. (Written by wip/tools/gen_vwh.py.)
-/
import Derived.Test.YtfelmkkkaphkpaaKVwG
namespace Go.Proofs.Ytfelmkkkaphkpaa
open Go.RowKit Go.Bw Go.Sort
set_option linter.unusedVariables false
set_option linter.unusedSimpArgs false

section
variable {w : World} {v : Vu} {K : Int}
theorem Part_any (hv : Bd v K) {i j r n : Int} (hi : i ≤ 9223372036854775807) (hj : j ≤ 9223372036854775807) (w : World) :
    Calls Try.prog 91 #[v.V, .int .i64 i, .int .i64 j, .int .i64 r, .int .i64 n] w (Ans w (v.partO i j r n).V) := by
  cases h1 : withinB i r v.R
  · have e : v.partO i j r n = Vu.zero := by unfold Vu.partO; rw [h1]; cases (v.p == none) <;> rfl
    rw [e]
    refine part_one (fun W => ?_) (fun W hW => cut_no (.inr rfl))
    have := within_any i r v.R hi hv.R.1 hv.R.2 W
    rwa [h1] at this
  · have w1 : ∀ W, Calls Try.prog 107 #[.int .i64 i, .int .i64 r, .int .i64 v.R] W fun e w' => e = .returned (.bool true) ∧ w' = W := fun W => by
      have := within_any i r v.R hi hv.R.1 hv.R.2 W
      rwa [h1] at this
    have w2 := within_any j n v.C hj hv.C.1 hv.C.2
    cases h2 : withinB j n v.C
    · have e : v.partO i j r n = Vu.zero := by unfold Vu.partO; rw [h1, h2]; cases (v.p == none) <;> rfl
      rw [e]
      rw [h2] at w2
      exact part_two w1 w2 (fun W hW => cut_no (.inr rfl))
    · rw [h2] at w2
      cases hz : (v.p == none)
      · have e : v.partO i j r n = v.part i j r n := by unfold Vu.partO; rw [h1, h2, hz]; rfl
        rw [e]
        obtain ⟨i0, i1, r0, r1⟩ := within_bd h1 hv.R.2
        obtain ⟨j0, j1, n0, n1⟩ := within_bd h2 hv.C.2
        exact part_two w1 w2 (fun W ⟨m0, m1, m2, m3, m4⟩ => cutP hz hv i0 i1 j0 j1 m0 m1 m2 m3 m4)
      · have e : v.partO i j r n = Vu.zero := by unfold Vu.partO; rw [hz]; rfl
        rw [e]
        exact part_two w1 w2 (fun W hW => cut_no (.inl hz))

set_option maxHeartbeats 1000000 in
theorem Row_any (hv : Bd v K) {i : Int} (hi : i ≤ 9223372036854775807) (w : World) : Calls Try.prog 50 #[v.V, .int .i64 i] w (Ans w (v.partO i 0 1 v.C).V) := by
  have DB := (Blk.new w v.L 30).alloc (.cells Vu.zero.L.toArray 30)
  have DZ := Blk.new (w.alloc (.cells v.L.toArray 30)) Vu.zero.L 30
  rw [World.size_alloc] at DZ
  have bz := ((Below.refl _ w).alloc (Nat.le_refl _) (.cells v.L.toArray 30)).alloc (by simp) (.cells Vu.zero.L.toArray 30)
  have pc := fun W => Part_any hv (r := 1) (n := v.C) (i := i) (j := 0) (by omega) (by omega) W
  obtain ⟨V2, hV2⟩ : ∃ V2, v.partO i 0 1 v.C = V2 := ⟨_, rfl⟩
  rw [hV2]
  simp only [hV2] at pc
  clear hV2 hv
  obtain ⟨p2, t0, t1, t2, t3, t4, t5, t6, t7⟩ := V2
  obtain ⟨p, f0, f1, d0, d1, r0, r1, R, C⟩ := v
  go_enter Try.func50, Try.ntmps50
  go_wp2_with fail
  with_reducible refine (pc _).mono ?_
  rintro e w1 ⟨rfl, hb⟩
  replace DZ := DZ.on hb
  replace bz := bz.trans (hb.mono (by simp; omega))
  obtain ⟨k0, k1, k2, k3, k4, k5, k6, k7, k8⟩ := Vbx.cells DZ
  obtain ⟨z0, z1, z2, z3, z4, z5, z6, z7, z8⟩ := Vbx.free DZ
  go_wp2_with fail
  refine bodyPost_ret (v := (.agg #[.pointer p2, .int .i64 t0, .int .i64 t1, .int .i64 t2, .int .i64 t3, .int .i64 t4, .int .i64 t5, .int .i64 t6, .int .i64 t7])) (by simp [results, Try.results50, go_sem, k0, k1, k2, k3, k4, k5, k6, k7, k8]) rfl ?_
  exact ⟨rfl, by go_grown⟩

set_option maxHeartbeats 1000000 in
theorem Col_any (hv : Bd v K) {i : Int} (hi : i ≤ 9223372036854775807) (w : World) : Calls Try.prog 52 #[v.V, .int .i64 i] w (Ans w (v.partO 0 i v.R 1).V) := by
  have DB := (Blk.new w v.L 30).alloc (.cells Vu.zero.L.toArray 30)
  have DZ := Blk.new (w.alloc (.cells v.L.toArray 30)) Vu.zero.L 30
  rw [World.size_alloc] at DZ
  have bz := ((Below.refl _ w).alloc (Nat.le_refl _) (.cells v.L.toArray 30)).alloc (by simp) (.cells Vu.zero.L.toArray 30)
  have pc := fun W => Part_any hv (r := v.R) (n := 1) (i := 0) (j := i) (by omega) (by omega) W
  obtain ⟨V2, hV2⟩ : ∃ V2, v.partO 0 i v.R 1 = V2 := ⟨_, rfl⟩
  rw [hV2]
  simp only [hV2] at pc
  clear hV2 hv
  obtain ⟨p2, t0, t1, t2, t3, t4, t5, t6, t7⟩ := V2
  obtain ⟨p, f0, f1, d0, d1, r0, r1, R, C⟩ := v
  go_enter Try.func52, Try.ntmps52
  go_wp2_with fail
  with_reducible refine (pc _).mono ?_
  rintro e w1 ⟨rfl, hb⟩
  replace DZ := DZ.on hb
  replace bz := bz.trans (hb.mono (by simp; omega))
  obtain ⟨k0, k1, k2, k3, k4, k5, k6, k7, k8⟩ := Vbx.cells DZ
  obtain ⟨z0, z1, z2, z3, z4, z5, z6, z7, z8⟩ := Vbx.free DZ
  go_wp2_with fail
  refine bodyPost_ret (v := (.agg #[.pointer p2, .int .i64 t0, .int .i64 t1, .int .i64 t2, .int .i64 t3, .int .i64 t4, .int .i64 t5, .int .i64 t6, .int .i64 t7])) (by simp [results, Try.results52, go_sem, k0, k1, k2, k3, k4, k5, k6, k7, k8]) rfl ?_
  exact ⟨rfl, by go_grown⟩

/-- a new store of c columns over the floats at g, and the view of all of it -/
abbrev Vu.all (s : Nat) (R C : Int) : Vu := ⟨some ⟨s, 0, none⟩, 0, 0, 1, 0, 0, 1, R, C⟩
set_option maxHeartbeats 1000000 in
theorem whole_any (R C : Int) (A : Option Addr) (n cap : Nat) (w : World) :
    Calls Try.prog 96 #[.int .i64 R, .int .i64 C, .slice A n cap] w fun e w' => ∃ s, e = .returned (Vu.all s R C).V ∧ w.heap.size ≤ s ∧ Blk w' s [.int .i64 C, .slice A n cap] ∧ Below w.heap.size w w' := by
  have DZ := Blk.new w Vu.zero.L 30
  have bz := (Below.refl _ w).alloc (Nat.le_refl _) (.cells Vu.zero.L.toArray 30)
  have DS := Blk.new (w.alloc (.cells Vu.zero.L.toArray 30)) [.int .i64 C, .slice A n cap] 123
  rw [World.size_alloc] at DS
  replace DZ := DZ.alloc (.cells #[.int .i64 C, .slice A n cap] 123)
  replace bz := bz.alloc (by simp) (.cells #[.int .i64 C, .slice A n cap] 123)
  go_enter Try.func96, Try.ntmps96
  obtain ⟨k0, k1, k2, k3, k4, k5, k6, k7, k8⟩ := Vbx.cells DZ
  obtain ⟨z0, z1, z2, z3, z4, z5, z6, z7, z8⟩ := Vbx.free DZ
  go_wp2_with fail
  refine bodyPost_ret (v := (.agg #[.pointer (some ⟨w.heap.size + 1, 0, none⟩), .int .i64 0, .int .i64 0, .int .i64 1, .int .i64 0, .int .i64 0, .int .i64 1, .int .i64 R, .int .i64 C])) (by simp [results, Try.results96, go_sem]) rfl ?_
  refine ⟨_, rfl, by omega, ?_, by go_grown⟩
  have DS := Blk.new (w.alloc (.cells #[.pointer (some ⟨w.heap.size + 1, 0, none⟩), .int .i64 0, .int .i64 0, .int .i64 1, .int .i64 0, .int .i64 0, .int .i64 1, .int .i64 R, .int .i64 C] 30)) [.int .i64 C, .slice A n cap] 123
  rwa [World.size_alloc] at DS

def szB (m n : Int) : Bool := decide (0 ≤ m ∧ m ≤ 512 ∧ 0 ≤ n ∧ n ≤ 512)
theorem szB_bd {m n : Int} (h : szB m n = true) : (0 ≤ m ∧ m ≤ 512 ∧ 0 ≤ n ∧ n ≤ 512) ∧ 0 ≤ m * n ∧ m * n ≤ 262144 := by
  unfold szB at h
  have h := of_decide_eq_true h
  have h1 := Int.mul_nonneg h.1 h.2.2.1
  have h2 : m * n ≤ 512 * 512 := Int.mul_le_mul h.2.1 h.2.2.2 h.2.2.1 (by omega)
  exact ⟨h, h1, h2⟩
set_option maxHeartbeats 400000 in
theorem sized_any (m n : Int) (w : World) :
    Calls Try.prog 95 #[.int .i64 m, .int .i64 n] w fun e w' => e = .returned (.bool (szB m n)) ∧ w' = w := by
  obtain ⟨B, hB⟩ : ∃ B, szB m n = B := ⟨_, rfl⟩
  have HB := Lib.hid hB
  rw [hB]
  clear hB
  have close : ∀ b : Bool, b = decide (0 ≤ m ∧ m ≤ 512 ∧ 0 ≤ n ∧ n ≤ 512) → b = B := fun b h => by rw [h, ← HB.out]; rfl
  have C := Lib.hid close
  clear close
  by_cases c1 : 0 ≤ m
  · by_cases c2 : m ≤ 512
    · by_cases c3 : 0 ≤ n
      · go_enter Try.func95, Try.ntmps95
        go_wp2
        go_ret
        exact ⟨ret_bool (C.out _ (by simp [c1, c2, c3])), rfl⟩
      · go_enter Try.func95, Try.ntmps95
        go_wp2
        go_ret
        exact ⟨ret_bool (C.out _ (by simp; omega)), rfl⟩
    · go_enter Try.func95, Try.ntmps95
      go_wp2
      go_ret
      exact ⟨ret_bool (C.out _ (by simp; omega)), rfl⟩
  · go_enter Try.func95, Try.ntmps95
    go_wp2
    go_ret
    exact ⟨ret_bool (C.out _ (by simp; omega)), rfl⟩

/-- what 'make' lays -/
theorem made_F (n : Nat) : madeCells #[Value.float .f64 0] n = (LF (List.replicate n 0)).toArray := by
  apply Array.ext'
  rw [toList_madeCells_one]
  simp [LF]
theorem run_makeF (n : Nat) (hn : n ≤ 4000000) (w : World) :
    (Instr.makeSlice 22 (.int .i64 (n : Int)) (.int .i64 (n : Int))).run Try.prog w = .ok (.slice (some ⟨w.heap.size, 0, none⟩) n n) (w.alloc (.cells (LF (List.replicate n 0)).toArray 32)) := by
  obtain ⟨i, hi, hz0, hz1, hz2⟩ := info_parts info39F
  have hr := Go.run_make (P := Try.prog) w 22 32 i (.float .f64 0) Try.underlying22 hi hz0 .i64 .i64 n n (by omega) (by omega) (by rw [hz2]; omega) (by omega)
  simp only [Int.toNat_natCast, hz1, Nat.mul_one] at hr
  rw [show (Value.float .f64 0).cells = #[Value.float .f64 0] from rfl, made_F] at hr
  exact hr
theorem run_makeF0 (n : Nat) (hn : n ≤ 4000000) (w : World) :
    (Instr.makeSlice 22 (.int .i64 0) (.int .i64 (n : Int))).run Try.prog w = .ok (.slice (some ⟨w.heap.size, 0, none⟩) 0 n) (w.alloc (.cells (LF (List.replicate n 0)).toArray 32)) := by
  obtain ⟨i, hi, hz0, hz1, hz2⟩ := info_parts info39F
  have hr := Go.run_make (P := Try.prog) w 22 32 i (.float .f64 0) Try.underlying22 hi hz0 .i64 .i64 0 n (by omega) (by omega) (by rw [hz2]; omega) (by omega)
  simp only [Int.toNat_natCast, hz1, Nat.mul_one] at hr
  rw [show (Value.float .f64 0).cells = #[Value.float .f64 0] from rfl, made_F] at hr
  exact hr
theorem wd_zeros (n : Nat) : Wd (List.replicate n 0) := fun x hx => by rw [List.eq_of_mem_replicate hx]; decide
/-- the call answers no view, and a code -/
theorem own_new (w : World) (l : List Int) (hl : l.length ≤ 4000000) {B : Nat} (hB : B ≤ w.heap.size) : OwnF (w.alloc (.cells (LF l).toArray 32)) B (some ⟨w.heap.size, 0, none⟩) l.length l := by
  have := (RowF.new w l).own (B := B) l.length (Nat.le_refl _) (by unfold maxLen; omega) hB
  rwa [List.take_length] at this
theorem OwnF.farG {w : World} {B cap g : Nat} {l : List Int} (h : OwnF w B (some ⟨g, 0, none⟩) cap l) {p : Addr} (hp : g ≠ p.block) (u : Value) : OwnF (w.setCell p u) B (some ⟨g, 0, none⟩) cap l := by
  rcases h with ⟨h1, h2⟩
  refine ⟨h1, h2.imp id fun ⟨g', cap', cur, hv, hg, hh, r⟩ => ⟨g', cap', cur, hv, hg, (Below.heap_setCell w p u g' (fun e => ?_)).trans hh, r⟩⟩
  injection hv with e1
  injection e1 with e1
  injection e1 with e1
  exact hp (e1.trans e)
theorem OwnF.far9 {w : World} {B cap g b : Nat} {l : List Int} (h : OwnF w B (some ⟨g, 0, none⟩) cap l) (hne : g ≠ b) (x0 x1 x2 x3 x4 x5 x6 x7 x8 : Value) : OwnF (((((((((w.setCell ⟨b, 0, none⟩ x0).setCell ⟨b, 1, none⟩ x1).setCell ⟨b, 2, none⟩ x2).setCell ⟨b, 3, none⟩ x3).setCell ⟨b, 4, none⟩ x4).setCell ⟨b, 5, none⟩ x5).setCell ⟨b, 6, none⟩ x6).setCell ⟨b, 7, none⟩ x7).setCell ⟨b, 8, none⟩ x8) B (some ⟨g, 0, none⟩) cap l :=
  ((((((((h.farG (p := ⟨b, 0, none⟩) hne x0).farG (p := ⟨b, 1, none⟩) hne x1).farG (p := ⟨b, 2, none⟩) hne x2).farG (p := ⟨b, 3, none⟩) hne x3).farG (p := ⟨b, 4, none⟩) hne x4).farG (p := ⟨b, 5, none⟩) hne x5).farG (p := ⟨b, 6, none⟩) hne x6).farG (p := ⟨b, 7, none⟩) hne x7).farG (p := ⟨b, 8, none⟩) hne x8
theorem St.farG {w : World} {B s g cap c : Nat} {l : List Int} (h : St w B s g cap c l) {p : Addr} (h1 : s ≠ p.block) (h2 : g ≠ p.block) (u : Value) : St (w.setCell p u) B s g cap c l := ⟨h.box.far h1 u, h.own.farG h2 u, h.ne, h.wd, h.lo, h.len, h.col⟩
theorem St.far9 {w : World} {B s g cap c b : Nat} {l : List Int} (h : St w B s g cap c l) (h1 : s ≠ b) (h2 : g ≠ b) (x0 x1 x2 x3 x4 x5 x6 x7 x8 : Value) : St (((((((((w.setCell ⟨b, 0, none⟩ x0).setCell ⟨b, 1, none⟩ x1).setCell ⟨b, 2, none⟩ x2).setCell ⟨b, 3, none⟩ x3).setCell ⟨b, 4, none⟩ x4).setCell ⟨b, 5, none⟩ x5).setCell ⟨b, 6, none⟩ x6).setCell ⟨b, 7, none⟩ x7).setCell ⟨b, 8, none⟩ x8) B s g cap c l :=
  ⟨Blk.far9 h.box h1 _ _ _ _ _ _ _ _ _, h.own.far9 h2 _ _ _ _ _ _ _ _ _, h.ne, h.wd, h.lo, h.len, h.col⟩
def NoV (w : World) (code : Int) (e : Ending) (w' : World) : Prop := e = .returned (.tuple #[Vu.zero.V, .int .i64 code]) ∧ Below w.heap.size w w'
def NewV (w : World) (R C : Int) (l : List Int) (e : Ending) (w' : World) : Prop := ∃ s g cap, e = .returned (.tuple #[(Vu.all s R C).V, .int .i64 0]) ∧ St w' w.heap.size s g cap C.toNat l ∧ Below w.heap.size w w'

set_option maxHeartbeats 2000000 in
theorem New_no {R C : Int} (hs : szB R C = false) (w : World) : Calls Try.prog 56 #[.int .i64 R, .int .i64 C] w (NoV w 2) := by
  have ps := sized_any R C
  rw [hs] at ps
  have DZ := Blk.new w Vu.zero.L 30
  obtain ⟨k0, k1, k2, k3, k4, k5, k6, k7, k8⟩ := Vbx.cells DZ
  obtain ⟨z0, z1, z2, z3, z4, z5, z6, z7, z8⟩ := Vbx.free DZ
  go_enter Try.func56, Try.ntmps56
  go_wp2_with fail
  with_reducible refine (ps _).mono ?_
  rintro e w1 ⟨rfl, rfl⟩
  go_wp2_with fail
  refine bodyPost_ret (v := .tuple #[(.agg #[.pointer none, .int .i64 0, .int .i64 0, .int .i64 0, .int .i64 0, .int .i64 0, .int .i64 0, .int .i64 0, .int .i64 0]), .int .i64 2]) (by simp [results, Try.results56, go_sem, k0, k1, k2, k3, k4, k5, k6, k7, k8]) rfl ?_
  exact ⟨rfl, by go_grown⟩

set_option maxHeartbeats 2000000 in
theorem New_yes {R C : Int} (hs : szB R C = true) (w : World) : Calls Try.prog 56 #[.int .i64 R, .int .i64 C] w (NewV w R C (List.replicate (R * C).toNat 0)) := by
  have ps := sized_any R C
  rw [hs] at ps
  obtain ⟨⟨R0, R1, C0, C1⟩, p0, p1⟩ := szB_bd hs
  obtain ⟨n, hn⟩ := Int.eq_ofNat_of_zero_le p0
  have hn2 : n ≤ 262144 := by omega
  have hmk := run_makeF n (by omega)
  rw [hn, Int.toNat_natCast]
  have pw := whole_any R C
  have DZ := Blk.new w Vu.zero.L 30
  have bz := (Below.refl _ w).alloc (Nat.le_refl _) (.cells Vu.zero.L.toArray 30)
  have hown := own_new (w.alloc (.cells Vu.zero.L.toArray 30)) (List.replicate n 0) (by simp; omega) (B := w.heap.size) (by simp)
  rw [World.size_alloc, List.length_replicate] at hown
  replace DZ := DZ.alloc (.cells (LF (List.replicate n 0)).toArray 32)
  replace bz := bz.alloc (by simp) (.cells (LF (List.replicate n 0)).toArray 32)
  go_enter Try.func56, Try.ntmps56
  go_wp2_with fail
  with_reducible refine (ps _).mono ?_
  rintro e w1 ⟨rfl, rfl⟩
  go_wp2_with fail
  with_reducible refine (pw _ _ _ _).mono ?_
  rintro e w1 ⟨s, rfl, hsl, hst, hb⟩
  replace hown := hown.on_ hb
  replace DZ := DZ.on hb
  replace bz := bz.trans (hb.mono (by simp; omega))
  rw [World.size_alloc, World.size_alloc] at hsl
  obtain ⟨k0, k1, k2, k3, k4, k5, k6, k7, k8⟩ := Vbx.cells DZ
  obtain ⟨z0, z1, z2, z3, z4, z5, z6, z7, z8⟩ := Vbx.free DZ
  clear hmk
  go_wp2_with fail
  refine bodyPost_ret (v := .tuple #[(.agg #[.pointer (some ⟨s, 0, none⟩), .int .i64 0, .int .i64 0, .int .i64 1, .int .i64 0, .int .i64 0, .int .i64 1, .int .i64 R, .int .i64 C]), .int .i64 0]) (by simp [results, Try.results56, go_sem, k0, k1, k2, k3, k4, k5, k6, k7, k8]) rfl ?_
  have hS : St w1 w.heap.size s (w.heap.size + 1) n C.toNat (List.replicate n 0) := ⟨by rw [List.length_replicate, Int.toNat_of_nonneg C0]; exact hst, hown, by omega, wd_zeros n, by omega, by simp; omega, by omega⟩
  exact ⟨s, _, _, rfl, hS.far9 (by omega) (by omega) _ _ _ _ _ _ _ _ _, by go_grown⟩

end
end Go.Proofs.Ytfelmkkkaphkpaa
