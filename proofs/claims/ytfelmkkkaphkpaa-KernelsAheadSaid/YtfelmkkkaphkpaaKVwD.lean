/-
  Layer 7, walks: a vector's float read; a float set.
-/
import Derived.Test.YtfelmkkkaphkpaaKVwC
import Derived.Lib.QuietBelow
namespace Go.Proofs.Ytfelmkkkaphkpaa
open Go.RowKit Go.Bw Go.Sort
set_option linter.unusedVariables false
set_option linter.unusedSimpArgs false
theorem run_store_float {P : Program} {w : World} {a : Addr} {m : Mode} (k : FloatKind) (n : Nat) : (store a (.float k n) m).run P w = stored P w a (.float k n) m := run_store P w a _ m rfl
attribute [local go_sem] run_store_float
theorem mixed : Try.prog.follows .mixedOrders = true := by kernel_rfl

section
variable {w : World} {v : Vu} {K : Int} {B s g cap c : Nat} {l : List Int}
/-- the row and the column of a vector's place -/
def Vu.ai (v : Vu) (i : Int) : Int := if v.C = 1 then i else 0
def Vu.aj (v : Vu) (i : Int) : Int := if v.C = 1 then 0 else i
/-- a vector's float -/
def Vu.get (v : Vu) (c : Nat) (l : List Int) (i : Int) : Int := if v.vec then v.at_ c l (v.ai i) (v.aj i) else 0
set_option maxHeartbeats 1000000 in
theorem Get_any (h : St w B s g cap c l) (hv : Vk v s c l.length K) (i : Int) :
    Calls Try.prog 59 #[v.V, .int .i64 i] w (Ans w (.float .f64 (v.get c l i).toNat)) := by
  have ph := Vector_any v
  cases hh : v.vec
  · have e : v.get c l i = 0 := by unfold Vu.get; rw [hh]; rfl
    rw [hh] at ph
    rw [e]
    clear e hh hv
    obtain ⟨p, f0, f1, d0, d1, r0, r1, R, C⟩ := v
    go_enter Try.func59, Try.ntmps59
    go_wp2_with fail
    with_reducible refine (ph _).mono ?_
    rintro e w1 ⟨rfl, hb⟩
    go_wp2_with fail
    go_ret
    exact ⟨rfl, below_step hb⟩
  · have e : v.get c l i = v.at_ c l (v.ai i) (v.aj i) := by unfold Vu.get; rw [hh]; rfl
    rw [hh] at ph
    rw [e]
    clear e hh
    have pa : ∀ W, Calls Try.prog 97 #[v.V, .int .i64 i] W (Ans W (.tuple #[.int .i64 (v.ai i), .int .i64 (v.aj i)])) := fun W => along_any v i W
    obtain ⟨I, hI⟩ : ∃ I, v.ai i = I := ⟨_, rfl⟩
    obtain ⟨J, hJ⟩ : ∃ J, v.aj i = J := ⟨_, rfl⟩
    rw [hI, hJ] at pa ⊢
    clear hI hJ
    have pt := fun W (h : St W B s g cap c l) => At_any (w := W) h hv I J
    obtain ⟨X, hX⟩ : ∃ X, v.at_ c l I J = X := ⟨_, rfl⟩
    rw [hX] at pt ⊢
    clear hX hv
    have DB := Blk.new w v.L 30
    have hs1 := h.on ((Below.refl _ w).alloc (Nat.le_refl _) (.cells v.L.toArray 30))
    clear h
    obtain ⟨p, f0, f1, d0, d1, r0, r1, R, C⟩ := v
    go_enter Try.func59, Try.ntmps59
    go_wp2_with fail
    with_reducible refine (ph _).mono ?_
    rintro e w1 ⟨rfl, hb⟩
    replace DB := DB.on hb
    replace hs1 := hs1.on hb
    go_wp2_with fail
    obtain ⟨c0, c1, c2, c3, c4, c5, c6, c7, c8⟩ := Vbx.cells DB
    have k0 := cell_regrown c0
    have k1 := cell_regrown c1
    have k2 := cell_regrown c2
    have k3 := cell_regrown c3
    have k4 := cell_regrown c4
    have k5 := cell_regrown c5
    have k6 := cell_regrown c6
    have k7 := cell_regrown c7
    have k8 := cell_regrown c8
    have qA := fun d os => Calls.regrown_of (w := w1) (d := d) (os := os) (pa _)
    have qB := fun d os => Calls.regrown_of (w := w1) (d := d) (os := os) (pt _ (hs1.on (below_regrown w1 d os)))
    refine wp_region_quiet_below mixed (by kernel_rfl) ?_
    repeat (quiet_step (first | (with_reducible exact qA _ _) | (with_reducible exact qB _ _)))
    refine wpQuiet_nil ?_
    intro _ hw'
    obtain ⟨⟨dq, osq⟩, hw''⟩ := hw'
    subst hw''
    have hb2 := below_regrown w1 dq osq
    generalize grow (redrawn w1 dq) osq = w2 at hb2 ⊢
    go_wp2_with fail
    go_ret
    exact ⟨rfl, below_step (hb.trans (hb2.mono hb.size))⟩

/-- what Set answers -/
def Vu.setE (v : Vu) (i j : Int) : Int := if v.p == none then 1 else if v.has i j then 0 else 2
/-- and the floats behind it -/
def Vu.setL (v : Vu) (c : Nat) (l : List Int) (i j x : Int) : List Int := if v.has i j then l.set (v.ix c i j).toNat x else l
/-- the call answers code and writes the store -/
def Wrote (w : World) (B s g cap c : Nat) (code : Int) (l : List Int) (e : Ending) (w' : World) : Prop := e = .returned (.int .i64 code) ∧ St w' B s g cap c l ∧ w.grownBy w' (some g)
theorem grown_below {w w' : World} (h : Below w.heap.size w w') (row : Option Nat) : w.grownBy w' row := ⟨h.os, h.tape, h.output, h.size, fun k hk _ => h.block k hk⟩
theorem set_len (v : Vu) (i j x : Int) : (v.setL c l i j x).length = l.length := by unfold Vu.setL; split <;> simp

set_option maxHeartbeats 1000000 in
theorem Set_any (h : St w B s g cap c l) (hv : Vk v s c l.length K) (i j : Int) {x : Int} (x0 : 0 ≤ x) (x1 : x ≤ 18446744073709551615) :
    Calls Try.prog 85 #[v.V, .int .i64 i, .int .i64 j, .float .f64 x.toNat] w (Wrote w B s g cap c (v.setE i j) (v.setL c l i j x)) := by
  have ph := has_any v i j
  have pn := none_any v
  have bw := (Below.refl _ w).alloc (Nat.le_refl _) (.cells v.L.toArray 30)
  have DB := Blk.new w v.L 30
  have hs1 := h.on bw
  have hlt := h.gt.2
  cases hz : (v.p == none)
  · cases hh : v.has i j
    · have e : v.setE i j = 2 := by unfold Vu.setE; rw [hz, hh]; rfl
      have e2 : v.setL c l i j x = l := by unfold Vu.setL; rw [hh]; rfl
      rw [e, e2]
      rw [hh] at ph
      rw [hz] at pn
      clear e e2 hh hz hv h
      obtain ⟨p, f0, f1, d0, d1, r0, r1, R, C⟩ := v
      go_enter Try.func85, Try.ntmps85
      go_wp2_with fail
      with_reducible refine (pn _).mono ?_
      rintro e w1 ⟨rfl, hb⟩
      replace DB := DB.on hb
      replace hs1 := hs1.on hb
      obtain ⟨c0, c1, c2, c3, c4, c5, c6, c7, c8⟩ := Vbx.cells DB
      go_wp2_with fail
      with_reducible refine (ph _).mono ?_
      rintro e w2 ⟨rfl, hb2⟩
      replace hs1 := hs1.on hb2
      go_wp2_with fail
      go_ret
      exact ⟨rfl, hs1, grown_below (below_step (hb.trans (hb2.mono hb.size))) _⟩
    · obtain ⟨k, hk, hl, _⟩ := hv.ins i j hh
      have hz2 : v.p = some ⟨s, 0, none⟩ := by
        rcases hv.p with rfl | h
        · rw [Vu.has_zero] at hh; cases hh
        · exact h
      obtain ⟨⟨i0, i1⟩, j0, j1⟩ := has_bd hv.bd hh
      have pc := fun W (h : St W B s g cap c l) => cell_any (w := W) hv.bd h hz2 i0 i1 j0 j1 hk hl
      have e : v.setE i j = 0 := by unfold Vu.setE; rw [hz, hh]; rfl
      have e2 : v.setL c l i j x = l.set k x := by unfold Vu.setL; rw [hh, hk]; rfl
      rw [e, e2]
      rw [hh] at ph
      rw [hz] at pn
      clear e e2 hh hz hz2 hv h hk i0 i1 j0 j1
      obtain ⟨p, f0, f1, d0, d1, r0, r1, R, C⟩ := v
      go_enter Try.func85, Try.ntmps85
      go_wp2_with fail
      with_reducible refine (pn _).mono ?_
      rintro e w1 ⟨rfl, hb⟩
      replace DB := DB.on hb
      replace hs1 := hs1.on hb
      obtain ⟨c0, c1, c2, c3, c4, c5, c6, c7, c8⟩ := Vbx.cells DB
      go_wp2_with fail
      with_reducible refine (ph _).mono ?_
      rintro e w2 ⟨rfl, hb2⟩
      replace DB := DB.on hb2
      replace hs1 := hs1.on hb2
      replace bw := (below_step (hb.trans (hb2.mono hb.size)))
      clear hb hb2 c0 c1 c2 c3 c4 c5 c6 c7 c8
      obtain ⟨c0, c1, c2, c3, c4, c5, c6, c7, c8⟩ := Vbx.cells DB
      go_wp2_with fail
      with_reducible refine (pc _ hs1).mono ?_
      rintro e w3 ⟨rfl, hb⟩
      replace hs1 := hs1.on hb
      have bw2 := bw.trans (hb.mono bw.size)
      obtain ⟨hc, hf⟩ := hs1.at_ hl
      clear hb bw DB c0 c1 c2 c3 c4 c5 c6 c7 c8
      go_wp2_with fail
      go_ret
      exact ⟨rfl, hs1.set_ x0 x1 k, set_grown bw2 hlt _ _⟩
  · have hp : v = Vu.zero := by
      rcases hv.p with h | h
      · exact h
      · rw [h] at hz; cases hz
    have e : v.setE i j = 1 := by unfold Vu.setE; rw [hz]; rfl
    have e2 : v.setL c l i j x = l := by unfold Vu.setL; rw [hp, Vu.has_zero]; rfl
    rw [e, e2]
    rw [hz] at pn
    clear e e2 hz hp hv h ph
    obtain ⟨p, f0, f1, d0, d1, r0, r1, R, C⟩ := v
    go_enter Try.func85, Try.ntmps85
    go_wp2_with fail
    with_reducible refine (pn _).mono ?_
    rintro e w1 ⟨rfl, hb⟩
    replace hs1 := hs1.on hb
    go_wp2_with fail
    go_ret
    exact ⟨rfl, hs1, grown_below (below_step hb) _⟩
end
end Go.Proofs.Ytfelmkkkaphkpaa
