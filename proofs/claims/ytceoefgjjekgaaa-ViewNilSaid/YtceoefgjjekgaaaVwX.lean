/-
  Layer 7, walks: Eye. (Eye_no, Eye_yes.)
-/
import Derived.Test.YtceoefgjjekgaaaVwV
namespace Go.Proofs.Ytceoefgjjekgaaa
open Go.RowKit Go.Bw Go.Sort Go.Shelf
set_option linter.unusedVariables false
set_option linter.unusedSimpArgs false

theorem zero_diagO : Vu.zero.diagO = Vu.zero := rfl
/-- ones on the diagonal -/
def eyeL (n : Int) : List Int := (Vu.all 0 n n).diag.fillL n.toNat (List.replicate (n * n).toNat 0) 4607182418800017408

section
variable {w : World} {n : Int}
set_option maxHeartbeats 2000000 in
theorem Eye_no (hs : szB n n = false) (w : World) : Calls Try.prog 24 #[.int .i64 n] w (NoV w 2) := by
  have pn := fun W => New_no hs W
  have pd := fun W => Diag_any (v := Vu.zero) (zero_vk 0 0 0 (K := 1) (by omega)).bd W
  simp only [zero_diagO] at pd
  have pf := fun W => Fill_none (v := Vu.zero) rfl 4607182418800017408 W
  have DZ := Blk.new w Vu.zero.L 30
  have bz := (Below.refl _ w).alloc (Nat.le_refl _) (.cells Vu.zero.L.toArray 30)
  clear hs
  go_enter Try.func24, Try.ntmps24
  go_wp2_with fail
  with_reducible refine (pn _).mono ?_
  rintro e w1 ⟨rfl, hb⟩
  replace DZ := DZ.on hb
  replace bz := bz.trans (hb.mono (by simp))
  have hl := DZ.lt
  have D4 := Blk.new w1 Vu.zero.L 30
  obtain ⟨H, hH⟩ : ∃ H, w1.heap.size = H := ⟨_, rfl⟩
  rw [hH] at D4 hl
  replace DZ := DZ.alloc (.cells Vu.zero.L.toArray 30)
  replace bz := bz.alloc (by omega) (.cells Vu.zero.L.toArray 30)
  clear hb
  obtain ⟨m0, m1, m2, m3, m4, m5, m6, m7, m8⟩ := Vbx.cells D4
  go_wp2_with fail
  with_reducible refine (pd _).mono ?_
  rintro e w2 ⟨rfl, hb⟩
  clear m0 m1 m2 m3 m4 m5 m6 m7 m8
  replace DZ := DZ.on hb
  replace D4 := D4.on hb
  replace bz := bz.trans (hb.mono (by simp; omega))
  clear hb
  go_wp2_with fail
  with_reducible refine (pf _).mono ?_
  rintro e w3 ⟨rfl, hb⟩
  replace DZ := DZ.on hb
  replace D4 := D4.on hb
  replace bz := bz.trans (hb.mono bz.size)
  clear hb
  obtain ⟨m0, m1, m2, m3, m4, m5, m6, m7, m8⟩ := Vbx.cells D4
  obtain ⟨k0, k1, k2, k3, k4, k5, k6, k7, k8⟩ := Vbx.cells DZ
  obtain ⟨z0, z1, z2, z3, z4, z5, z6, z7, z8⟩ := Vbx.free DZ
  go_wp2_with fail
  refine bodyPost_ret (v := .tuple #[(.agg #[.pointer none, .int .i64 0, .int .i64 0, .int .i64 0, .int .i64 0, .int .i64 0, .int .i64 0, .int .i64 0, .int .i64 0]), .int .i64 2]) (by simp [results, Try.results24, go_sem, k0, k1, k2, k3, k4, k5, k6, k7, k8, z0, z1, z2, z3, z4, z5, z6, z7, z8]) rfl ?_
  exact ⟨rfl, by go_grown⟩

set_option maxHeartbeats 2000000 in
theorem Eye_yes (hs : szB n n = true) (w : World) : Calls Try.prog 24 #[.int .i64 n] w (NewV w n n (eyeL n)) := by
  have pn := fun W => New_yes hs W
  obtain ⟨⟨R0, R1, C0, C1⟩, p0, p1⟩ := szB_bd hs
  have hv : ∀ s, Vk (Vu.all s n n) s n.toNat (n * n).toNat 1 := fun s => all_vk s R0 R1 C0 C1 (by omega)
  have pd := fun s W => Diag_any (v := Vu.all s n n) (hv s).bd W
  have hv2 : ∀ s, Vk (Vu.all s n n).diagO s n.toNat (n * n).toNat 2 := fun s => by have := diag_vk (hv s) (by omega); exact this
  have pf := fun s W (B g cap : Nat) (l : List Int) (h : St W B s g cap n.toNat l) (hl : l.length = (n * n).toNat) => Fill_yes (x := 4607182418800017408) (hv2 s) h hl (by simp [Vu.diagO, Vu.diag]) (by omega) (by omega)
  have heL : ∀ s, (Vu.all s n n).diagO.fillL n.toNat (List.replicate (n * n).toNat 0) 4607182418800017408 = eyeL n := fun s => rfl
  have hll : Hid ((List.replicate (n * n).toNat (0 : Int)).length = (n * n).toNat) := Lib.hid (by simp)
  obtain ⟨L0, hL0⟩ : ∃ L, List.replicate (n * n).toNat (0 : Int) = L := ⟨_, rfl⟩
  obtain ⟨EL, hEL⟩ : ∃ L, eyeL n = L := ⟨_, rfl⟩
  simp only [hL0, hEL] at pn heL hll ⊢
  obtain ⟨N2, hN2⟩ : ∃ N, (n * n).toNat = N := ⟨_, rfl⟩
  simp only [hN2] at pf hll
  clear hL0 hEL hN2 hv hv2 hs p0 p1
  have HR := Lib.hid (And.intro R0 R1)
  have HeL := Lib.hid heL
  clear R0 R1 C0 C1 heL
  have DZ := Blk.new w Vu.zero.L 30
  have bz := (Below.refl _ w).alloc (Nat.le_refl _) (.cells Vu.zero.L.toArray 30)
  go_enter Try.func24, Try.ntmps24
  go_wp2_with fail
  with_reducible refine (pn _).mono ?_
  rintro e w1 ⟨s, g, cap, rfl, hst, hb⟩
  replace DZ := DZ.on hb
  replace bz := bz.trans (hb.mono (by simp))
  have hl := DZ.lt
  rw [World.size_alloc] at hst
  have hst0 := And.intro hst.lo hst.gt
  replace hst : St w1 w.heap.size s g cap n.toNat L0 := ⟨hst.box, hst.own.less (by omega), hst.ne, hst.wd, by have := hst.lo; omega, hst.len, hst.col⟩
  have hlo : w.heap.size < s ∧ w.heap.size < g := by have h1 := hst0.1; have h2 := hst0.2; omega
  have HLO := Lib.hid hlo
  have D4 := Blk.new w1 (Vu.all s n n).L 30
  obtain ⟨H, hH⟩ : ∃ H, w1.heap.size = H := ⟨_, rfl⟩
  rw [hH] at D4 hl
  have hsg : s < H ∧ g < H := by have := hst.lt; have := hst.gt; omega
  have HSG := Lib.hid hsg
  replace DZ := DZ.alloc (.cells (Vu.all s n n).L.toArray 30)
  replace hst := hst.on ((Below.refl _ w1).alloc (Nat.le_refl _) (.cells (Vu.all s n n).L.toArray 30))
  replace bz := bz.alloc (by omega) (.cells (Vu.all s n n).L.toArray 30)
  clear hb
  obtain ⟨m0, m1, m2, m3, m4, m5, m6, m7, m8⟩ := Vbx.cells D4
  go_wp2_with fail
  with_reducible refine (pd s _).mono ?_
  rintro e w2 ⟨rfl, hb⟩
  clear m0 m1 m2 m3 m4 m5 m6 m7 m8
  replace DZ := DZ.on hb
  replace D4 := D4.on hb
  replace hst := hst.on hb
  replace bz := bz.trans (hb.mono (by simp; omega))
  clear hb
  have pg := pf s _ _ _ _ _ hst hll.out
  rw [HeL.out, show ((4607182418800017408 : Int)).toNat = 4607182418800017408 from rfl] at pg
  obtain ⟨V2, hV2⟩ : ∃ V, (Vu.all s n n).diagO = V := ⟨_, rfl⟩
  rw [hV2] at pg ⊢
  clear hV2 pf pd pn hst
  go_wp2_with fail
  with_reducible refine pg.mono ?_
  rintro e w3 ⟨rfl, hst, hg⟩
  replace DZ := DZ.grown hg (by have := HLO.out; simp; omega)
  replace D4 := D4.grown hg (by have := HSG.out; simp; omega)
  replace bz := bz.grown hg bz.size (fun j e => by cases e; have := HLO.out; omega)
  clear hg pg
  obtain ⟨m0, m1, m2, m3, m4, m5, m6, m7, m8⟩ := Vbx.cells D4
  obtain ⟨k0, k1, k2, k3, k4, k5, k6, k7, k8⟩ := Vbx.cells DZ
  obtain ⟨z0, z1, z2, z3, z4, z5, z6, z7, z8⟩ := Vbx.free DZ
  go_wp2_with fail
  refine bodyPost_ret (v := .tuple #[(.agg #[.pointer (some ⟨s, 0, none⟩), .int .i64 0, .int .i64 0, .int .i64 1, .int .i64 0, .int .i64 0, .int .i64 1, .int .i64 n, .int .i64 n]), .int .i64 0]) (by simp [results, Try.results24, go_sem, k0, k1, k2, k3, k4, k5, k6, k7, k8, z0, z1, z2, z3, z4, z5, z6, z7, z8]) rfl ?_
  exact ⟨s, g, cap, rfl, hst.far9 (by have := HLO.out; omega) (by have := HLO.out; omega) _ _ _ _ _ _ _ _ _, by go_grown⟩
end
end Go.Proofs.Ytceoefgjjekgaaa
