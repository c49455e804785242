/-
  Layer 7, walks: parts cut by closures: turned.
-/
import Derived.Test.YtfelmkkkaphkpaaKVwD
import Derived.RegionTactic
import Derived.BigRegion
namespace Go.Proofs.Ytfelmkkkaphkpaa
open Go.RowKit Go.Bw Go.Sort
set_option linter.unusedVariables false
set_option linter.unusedSimpArgs false
attribute [local go_sem] run_store_float

section
variable {w : World} {v : Vu} {K : Int} {B s g cap c : Nat} {l : List Int}
def Vu.T (v : Vu) : Vu := ⟨v.p, v.f0, v.f1, v.r0, v.r1, v.d0, v.d1, v.C, v.R⟩
set_option maxHeartbeats 2000000 in
theorem T1_any {b b1 : Nat} (h : Vbx w b v) (h1 : Vbx w b1 v) (hne : b ≠ b1) :
    Calls Try.prog 90 #[.pointer (some ⟨b, 0, none⟩), .pointer (some ⟨b1, 0, none⟩)] w fun e w' => e = .returned (.tuple #[]) ∧ Vbx w' b v.T ∧ w.grownBy w' (some b) := by
  obtain ⟨p, f0, f1, d0, d1, r0, r1, R, C⟩ := v
  obtain ⟨c0, c1, c2, c3, c4, c5, c6, c7, c8⟩ := Vbx.cells h
  obtain ⟨z0, z1, z2, z3, z4, z5, z6, z7, z8⟩ := Vbx.free h
  obtain ⟨k0, k1, k2, k3, k4, k5, k6, k7, k8⟩ := Vbx.cells h1
  have hne' : b1 ≠ b := fun e => hne e.symm
  go_enter Try.func90, Try.ntmps90
  go_wp2_with fail
  go_region
  have g1 := (setb_grown (World.grownBy.refl w (some b)) 7 (.int .i64 C))
  replace g1 := setb_grown g1 8 (.int .i64 R)
  have m1 := (Blk.set_ h 7 (.int .i64 C)).set_ 8 (.int .i64 R)
  have m2 := (Blk.far h1 (p := ⟨b, 7, none⟩) hne' (.int .i64 C)).far (p := ⟨b, 8, none⟩) hne' (.int .i64 R)
  replace m1 : Vbx _ b ⟨p, f0, f1, d0, d1, r0, r1, C, R⟩ := m1.drew
  replace m2 : Vbx _ b1 ⟨p, f0, f1, d0, d1, r0, r1, R, C⟩ := m2.drew
  replace g1 := drew_grown g1
  clear c0 c1 c2 c3 c4 c5 c6 c7 c8 z0 z1 z2 z3 z4 z5 z6 z7 z8 k0 k1 k2 k3 k4 k5 k6 k7 k8 h h1
  generalize ((w.setCell ⟨b, 7, none⟩ (.int .i64 C)).setCell ⟨b, 8, none⟩ (.int .i64 R)).drew = W at g1 m1 m2 ⊢
  obtain ⟨c0, c1, c2, c3, c4, c5, c6, c7, c8⟩ := Vbx.cells m1
  obtain ⟨z0, z1, z2, z3, z4, z5, z6, z7, z8⟩ := Vbx.free m1
  obtain ⟨k0, k1, k2, k3, k4, k5, k6, k7, k8⟩ := Vbx.cells m2
  go_wp2_with fail
  go_region
  replace g1 := setb_grown (setb_grown (setb_grown (setb_grown g1 3 (.int .i64 r0)) 4 (.int .i64 r1)) 5 (.int .i64 d0)) 6 (.int .i64 d1)
  have m3 := (((Blk.set_ m1 3 (.int .i64 r0)).set_ 4 (.int .i64 r1)).set_ 5 (.int .i64 d0)).set_ 6 (.int .i64 d1)
  go_wp2_with fail
  go_end0
  exact ⟨rfl, m3.drew, drew_grown g1⟩

/-- a part -/
def Vu.part (v : Vu) (i j r n : Int) : Vu := ⟨v.p, v.p0 i j, v.p1 i j, v.d0, v.d1, v.r0, v.r1, r, n⟩
set_option maxHeartbeats 2000000 in
theorem Part1_any (hv : Bd v K) {b b1 a2 a3 a4 a5 : Nat} {i j r n : Int} (i0 : 0 ≤ i) (i1 : i ≤ 512) (j0 : 0 ≤ j) (j1 : j ≤ 512) (h : Vbx w b v) (h1 : Vbx w b1 v) (hne : b1 ≠ b)
    (h2 : Blk w a2 [.int .i64 i]) (h3 : Blk w a3 [.int .i64 j]) (h4 : Blk w a4 [.int .i64 r]) (h5 : Blk w a5 [.int .i64 n]) (n4 : a4 ≠ b) (n5 : a5 ≠ b) :
    Calls Try.prog 108 #[.pointer (some ⟨b, 0, none⟩), .pointer (some ⟨b1, 0, none⟩), .pointer (some ⟨a2, 0, none⟩), .pointer (some ⟨a3, 0, none⟩), .pointer (some ⟨a4, 0, none⟩), .pointer (some ⟨a5, 0, none⟩)] w fun e w' => e = .returned (.tuple #[]) ∧ Vbx w' b (v.part i j r n) ∧ w.grownBy w' (some b) := by
  have pp := place_any hv i0 i1 j0 j1
  have HP : Hid (v.part i j r n = ⟨v.p, v.p0 i j, v.p1 i j, v.d0, v.d1, v.r0, v.r1, r, n⟩) := Lib.hid rfl
  obtain ⟨P0, hP0⟩ : ∃ P, v.p0 i j = P := ⟨_, rfl⟩
  obtain ⟨P1, hP1⟩ : ∃ P, v.p1 i j = P := ⟨_, rfl⟩
  rw [hP0, hP1] at pp HP
  clear hP0 hP1 hv
  rw [HP.out]
  have bb := Blk.lt h
  obtain ⟨p, f0, f1, d0, d1, r0, r1, R, C⟩ := v
  obtain ⟨k0, k1, k2, k3, k4, k5, k6, k7, k8⟩ := Vbx.cells h1
  have e2 := Blk.cell h2 0 rfl
  have e3 := Blk.cell h3 0 rfl
  go_enter Try.func108, Try.ntmps108
  go_wp2_with fail
  with_reducible refine (pp _).mono ?_
  rintro e w1 ⟨rfl, hb⟩
  have m1 := Blk.on h hb
  replace h4 := Blk.on h4 hb
  replace h5 := Blk.on h5 hb
  obtain ⟨c0, c1, c2, c3, c4, c5, c6, c7, c8⟩ := Vbx.cells m1
  obtain ⟨z0, z1, z2, z3, z4, z5, z6, z7, z8⟩ := Vbx.free m1
  clear k0 k1 k2 k3 k4 k5 k6 k7 k8 h h1 h2 h3 e2 e3
  have g1 := setb_grown (setb_grown (grown_below hb (some b)) 1 (.int .i64 P0)) 2 (.int .i64 P1)
  replace m1 : Vbx _ b ⟨p, P0, P1, d0, d1, r0, r1, R, C⟩ := (Blk.set_ m1 1 (.int .i64 P0)).set_ 2 (.int .i64 P1)
  replace h4 := (Blk.far h4 (p := ⟨b, 1, none⟩) n4 (.int .i64 P0)).far (p := ⟨b, 2, none⟩) n4 (.int .i64 P1)
  replace h5 := (Blk.far h5 (p := ⟨b, 1, none⟩) n5 (.int .i64 P0)).far (p := ⟨b, 2, none⟩) n5 (.int .i64 P1)
  clear hb
  go_upto_region 1 with fail
  clear c0 c1 c2 c3 c4 c5 c6 c7 c8 z0 z1 z2 z3 z4 z5 z6 z7 z8
  generalize (w1.setCell ⟨b, 1, none⟩ (.int .i64 P0)).setCell ⟨b, 2, none⟩ (.int .i64 P1) = W at g1 m1 h4 h5 ⊢
  obtain ⟨c0, c1, c2, c3, c4, c5, c6, c7, c8⟩ := Vbx.cells m1
  obtain ⟨z0, z1, z2, z3, z4, z5, z6, z7, z8⟩ := Vbx.free m1
  have e4 := Blk.cell h4 0 rfl
  have e5 := Blk.cell h5 0 rfl
  go_region
  replace g1 := setb_grown (setb_grown g1 7 (.int .i64 r)) 8 (.int .i64 n)
  replace m1 := (Blk.set_ m1 7 (.int .i64 r)).set_ 8 (.int .i64 n)
  go_wp2_with fail
  go_end0
  exact ⟨rfl, m1.drew, drew_grown g1⟩

/-- the diagonal -/
def Vu.diag (v : Vu) : Vu := ⟨v.p, v.f0, v.f1, v.d0 + v.r0, v.d1 + v.r1, v.r0, v.r1, min v.R v.C, 1⟩
end
end Go.Proofs.Ytfelmkkkaphkpaa
