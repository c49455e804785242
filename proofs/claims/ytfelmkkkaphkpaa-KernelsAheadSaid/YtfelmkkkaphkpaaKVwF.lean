/-
  Layer 7, walks: views cut of views. (Written by wip/tools/gen_vwf.py.)
-/
import Derived.Test.YtfelmkkkaphkpaaKVwE
namespace Go.Proofs.Ytfelmkkkaphkpaa
open Go.RowKit Go.Bw Go.Sort
set_option linter.unusedVariables false
set_option linter.unusedSimpArgs false
attribute [local go_sem] run_store_float

/-- n places from the place at on are all among the first size ones -/
def withinB (i n m : Int) : Bool := decide (0 ≤ i ∧ 0 ≤ n ∧ n ≤ m - i)
set_option maxHeartbeats 400000 in
theorem within_any (i n m : Int) (i1 : i ≤ 9223372036854775807) (m0 : 0 ≤ m) (m1 : m ≤ 512) (w : World) :
    Calls Try.prog 107 #[.int .i64 i, .int .i64 n, .int .i64 m] w fun e w' => e = .returned (.bool (withinB i n m)) ∧ w' = w := by
  obtain ⟨B, hB⟩ : ∃ B, withinB i n m = B := ⟨_, rfl⟩
  have HB := Lib.hid hB
  rw [hB]
  clear hB
  have close : ∀ b : Bool, b = decide (0 ≤ i ∧ 0 ≤ n ∧ n ≤ m - i) → b = B := fun b h => by rw [h, ← HB.out]; rfl
  have C := Lib.hid close
  clear close HB
  by_cases c1 : 0 ≤ i
  · by_cases c2 : 0 ≤ n
    · go_enter Try.func107, Try.ntmps107
      go_wp2
      go_ret
      exact ⟨ret_bool (C.out _ (by simp [c1, c2])), rfl⟩
    · go_enter Try.func107, Try.ntmps107
      go_wp2
      go_ret
      exact ⟨ret_bool (C.out _ (by simp; omega)), rfl⟩
  · go_enter Try.func107, Try.ntmps107
    go_wp2
    go_ret
    exact ⟨ret_bool (C.out _ (by simp; omega)), rfl⟩

section
variable {w : World} {v : Vu} {K : Int}
set_option maxHeartbeats 2000000 in
theorem cut_no {fv : Value} {b : Bool} (hz : (v.p == none) = true ∨ b = false) :
    Calls Try.prog 89 #[v.V, .bool b, fv] w (Ans w Vu.zero.V) := by
  have pn := none_any v
  have DZ := Blk.new (w.alloc (.cells v.L.toArray 30)) Vu.zero.L 30
  rw [World.size_alloc] at DZ
  have bz := ((Below.refl _ w).alloc (Nat.le_refl _) (.cells v.L.toArray 30)).alloc (by simp) (.cells Vu.zero.L.toArray 30)
  obtain ⟨B, hB⟩ : ∃ B, (v.p == none) = B := ⟨_, rfl⟩
  rw [hB] at pn hz
  clear hB
  obtain ⟨p, f0, f1, d0, d1, r0, r1, R, C⟩ := v
  cases B
  · obtain rfl : b = false := by rcases hz with h | h; cases h; exact h
    go_enter Try.func89, Try.ntmps89
    go_wp2_with fail
    with_reducible refine (pn _).mono ?_
    rintro e w1 ⟨rfl, hb⟩
    replace DZ := DZ.on hb
    replace bz := bz.trans (hb.mono (by simp; omega))
    obtain ⟨c0, c1, c2, c3, c4, c5, c6, c7, c8⟩ := Vbx.cells DZ
    obtain ⟨z0, z1, z2, z3, z4, z5, z6, z7, z8⟩ := Vbx.free DZ
    go_wp2_with fail
    refine bodyPost_ret (v := (.agg #[.pointer none, .int .i64 0, .int .i64 0, .int .i64 0, .int .i64 0, .int .i64 0, .int .i64 0, .int .i64 0, .int .i64 0])) (by simp [results, Try.results89, go_sem, c0, c1, c2, c3, c4, c5, c6, c7, c8]) rfl ?_
    exact ⟨rfl, by go_grown⟩
  · go_enter Try.func89, Try.ntmps89
    go_wp2_with fail
    with_reducible refine (pn _).mono ?_
    rintro e w1 ⟨rfl, hb⟩
    replace DZ := DZ.on hb
    replace bz := bz.trans (hb.mono (by simp; omega))
    obtain ⟨c0, c1, c2, c3, c4, c5, c6, c7, c8⟩ := Vbx.cells DZ
    obtain ⟨z0, z1, z2, z3, z4, z5, z6, z7, z8⟩ := Vbx.free DZ
    go_wp2_with fail
    refine bodyPost_ret (v := (.agg #[.pointer none, .int .i64 0, .int .i64 0, .int .i64 0, .int .i64 0, .int .i64 0, .int .i64 0, .int .i64 0, .int .i64 0])) (by simp [results, Try.results89, go_sem, c0, c1, c2, c3, c4, c5, c6, c7, c8]) rfl ?_
    exact ⟨rfl, by go_grown⟩
set_option maxHeartbeats 2000000 in
theorem cutT (hz : (v.p == none) = false) {b1 : Nat} (h1 : Vbx w b1 v) :
    Calls Try.prog 89 #[v.V, .bool true, .func (.func 90) #[] #[.pointer (some ⟨b1, 0, none⟩)]] w (Ans w (v.T).V) := by
  have pn := none_any v
  rw [hz] at pn
  have DB := Blk.new w v.L 30
  have bw := (Below.refl _ w).alloc (Nat.le_refl _) (.cells v.L.toArray 30)
  have DZ := Blk.new (w.alloc (.cells v.L.toArray 30)) Vu.zero.L 30
  replace DB := DB.alloc (.cells Vu.zero.L.toArray 30)
  have bz := bw.alloc (by simp) (.cells Vu.zero.L.toArray 30)
  rw [World.size_alloc] at DZ
  clear bw hz
  have pc : ∀ W, Below w.heap.size w W → Vbx W (W.heap.size - 1) v → w.heap.size + 2 < W.heap.size → Calls Try.prog 90 #[.pointer (some ⟨W.heap.size - 1, 0, none⟩), .pointer (some ⟨b1, 0, none⟩)] W fun e w' => e = .returned (.tuple #[]) ∧ Vbx w' (W.heap.size - 1) (v.T) ∧ W.grownBy w' (some (W.heap.size - 1)) := fun W hb hv2 hlt => by
    have h2 := h1.below hb h1.lt
    have h3 := h1.lt
    exact T1_any hv2 h2 (by omega)
  obtain ⟨V2, hV2⟩ : ∃ V2, v.T = V2 := ⟨_, rfl⟩
  rw [hV2]
  rw [hV2] at pc
  clear hV2
  obtain ⟨p2, t0, t1, t2, t3, t4, t5, t6, t7⟩ := V2
  obtain ⟨p, f0, f1, d0, d1, r0, r1, R, C⟩ := v
  go_enter Try.func89, Try.ntmps89
  go_wp2_with fail
  with_reducible refine (pn _).mono ?_
  rintro e w1 ⟨rfl, hb⟩
  replace DB := DB.on hb
  replace DZ := DZ.on hb
  replace bz := bz.trans (hb.mono (by simp; omega))
  have hsz := hb.size
  simp only [World.size_alloc] at hsz
  obtain ⟨c0, c1, c2, c3, c4, c5, c6, c7, c8⟩ := Vbx.cells DB
  go_wp2_with fail
  have PB := Blk.new w1 (Vu.L ⟨p, f0, f1, d0, d1, r0, r1, R, C⟩) 30
  have pc1 := pc _ (bz.alloc (by omega) (.cells (Vu.L ⟨p, f0, f1, d0, d1, r0, r1, R, C⟩).toArray 30)) (by simpa using PB) (by simp; omega)
  replace DZ := DZ.alloc (.cells (Vu.L ⟨p, f0, f1, d0, d1, r0, r1, R, C⟩).toArray 30)
  replace bz := bz.alloc (by omega) (.cells (Vu.L ⟨p, f0, f1, d0, d1, r0, r1, R, C⟩).toArray 30)
  simp only [World.size_alloc, Nat.add_sub_cancel] at pc1
  clear pc PB DB c0 c1 c2 c3 c4 c5 c6 c7 c8
  with_reducible refine pc1.mono ?_
  rintro e w2 ⟨rfl, PB, hg⟩
  replace DZ := DZ.grown hg (fun e => by injection e with e; omega)
  replace bz : Below w.heap.size w w2 := bz.grown hg (by simp; omega) (fun k e => by cases e; omega)
  obtain ⟨c0, c1, c2, c3, c4, c5, c6, c7, c8⟩ := Vbx.cells PB
  obtain ⟨k0, k1, k2, k3, k4, k5, k6, k7, k8⟩ := Vbx.cells DZ
  obtain ⟨z0, z1, z2, z3, z4, z5, z6, z7, z8⟩ := Vbx.free DZ
  go_wp2_with fail
  refine bodyPost_ret (v := (.agg #[.pointer p2, .int .i64 t0, .int .i64 t1, .int .i64 t2, .int .i64 t3, .int .i64 t4, .int .i64 t5, .int .i64 t6, .int .i64 t7])) (by simp [results, Try.results89, go_sem, k0, k1, k2, k3, k4, k5, k6, k7, k8]) rfl ?_
  exact ⟨rfl, by go_grown⟩

set_option maxHeartbeats 2000000 in
theorem cutP (hz : (v.p == none) = false) (hv : Bd v K) {i j r n : Int} (i0 : 0 ≤ i) (i1 : i ≤ 512) (j0 : 0 ≤ j) (j1 : j ≤ 512) {b1 a2 a3 a4 a5 : Nat} (h1 : Vbx w b1 v) (h2 : Blk w a2 [.int .i64 i]) (h3 : Blk w a3 [.int .i64 j]) (h4 : Blk w a4 [.int .i64 r]) (h5 : Blk w a5 [.int .i64 n]) :
    Calls Try.prog 89 #[v.V, .bool true, .func (.func 108) #[] #[.pointer (some ⟨b1, 0, none⟩), .pointer (some ⟨a2, 0, none⟩), .pointer (some ⟨a3, 0, none⟩), .pointer (some ⟨a4, 0, none⟩), .pointer (some ⟨a5, 0, none⟩)]] w (Ans w (v.part i j r n).V) := by
  have pn := none_any v
  rw [hz] at pn
  have DB := Blk.new w v.L 30
  have bw := (Below.refl _ w).alloc (Nat.le_refl _) (.cells v.L.toArray 30)
  have DZ := Blk.new (w.alloc (.cells v.L.toArray 30)) Vu.zero.L 30
  replace DB := DB.alloc (.cells Vu.zero.L.toArray 30)
  have bz := bw.alloc (by simp) (.cells Vu.zero.L.toArray 30)
  rw [World.size_alloc] at DZ
  clear bw hz
  have pc : ∀ W, Below w.heap.size w W → Vbx W (W.heap.size - 1) v → w.heap.size + 2 < W.heap.size → Calls Try.prog 108 #[.pointer (some ⟨W.heap.size - 1, 0, none⟩), .pointer (some ⟨b1, 0, none⟩), .pointer (some ⟨a2, 0, none⟩), .pointer (some ⟨a3, 0, none⟩), .pointer (some ⟨a4, 0, none⟩), .pointer (some ⟨a5, 0, none⟩)] W fun e w' => e = .returned (.tuple #[]) ∧ Vbx w' (W.heap.size - 1) (v.part i j r n) ∧ W.grownBy w' (some (W.heap.size - 1)) := fun W hb hv2 hlt => by
    have e1 := h1.below hb h1.lt
    have e2 := h2.below hb h2.lt
    have e3 := h3.below hb h3.lt
    have e4 := h4.below hb h4.lt
    have e5 := h5.below hb h5.lt
    have l1 := h1.lt
    have l4 := h4.lt
    have l5 := h5.lt
    exact Part1_any hv i0 i1 j0 j1 hv2 e1 (by omega) e2 e3 e4 e5 (by omega) (by omega)
  obtain ⟨V2, hV2⟩ : ∃ V2, v.part i j r n = V2 := ⟨_, rfl⟩
  rw [hV2]
  rw [hV2] at pc
  clear hV2
  obtain ⟨p2, t0, t1, t2, t3, t4, t5, t6, t7⟩ := V2
  obtain ⟨p, f0, f1, d0, d1, r0, r1, R, C⟩ := v
  go_enter Try.func89, Try.ntmps89
  go_wp2_with fail
  with_reducible refine (pn _).mono ?_
  rintro e w1 ⟨rfl, hb⟩
  replace DB := DB.on hb
  replace DZ := DZ.on hb
  replace bz := bz.trans (hb.mono (by simp; omega))
  have hsz := hb.size
  simp only [World.size_alloc] at hsz
  obtain ⟨c0, c1, c2, c3, c4, c5, c6, c7, c8⟩ := Vbx.cells DB
  go_wp2_with fail
  have PB := Blk.new w1 (Vu.L ⟨p, f0, f1, d0, d1, r0, r1, R, C⟩) 30
  have pc1 := pc _ (bz.alloc (by omega) (.cells (Vu.L ⟨p, f0, f1, d0, d1, r0, r1, R, C⟩).toArray 30)) (by simpa using PB) (by simp; omega)
  replace DZ := DZ.alloc (.cells (Vu.L ⟨p, f0, f1, d0, d1, r0, r1, R, C⟩).toArray 30)
  replace bz := bz.alloc (by omega) (.cells (Vu.L ⟨p, f0, f1, d0, d1, r0, r1, R, C⟩).toArray 30)
  simp only [World.size_alloc, Nat.add_sub_cancel] at pc1
  clear pc PB DB c0 c1 c2 c3 c4 c5 c6 c7 c8
  with_reducible refine pc1.mono ?_
  rintro e w2 ⟨rfl, PB, hg⟩
  replace DZ := DZ.grown hg (fun e => by injection e with e; omega)
  replace bz : Below w.heap.size w w2 := bz.grown hg (by simp; omega) (fun k e => by cases e; omega)
  obtain ⟨c0, c1, c2, c3, c4, c5, c6, c7, c8⟩ := Vbx.cells PB
  obtain ⟨k0, k1, k2, k3, k4, k5, k6, k7, k8⟩ := Vbx.cells DZ
  obtain ⟨z0, z1, z2, z3, z4, z5, z6, z7, z8⟩ := Vbx.free DZ
  go_wp2_with fail
  refine bodyPost_ret (v := (.agg #[.pointer p2, .int .i64 t0, .int .i64 t1, .int .i64 t2, .int .i64 t3, .int .i64 t4, .int .i64 t5, .int .i64 t6, .int .i64 t7])) (by simp [results, Try.results89, go_sem, k0, k1, k2, k3, k4, k5, k6, k7, k8]) rfl ?_
  exact ⟨rfl, by go_grown⟩

end
end Go.Proofs.Ytfelmkkkaphkpaa
