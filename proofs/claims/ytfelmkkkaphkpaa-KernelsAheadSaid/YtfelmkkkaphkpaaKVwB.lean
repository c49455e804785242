/-
  Layer 7, walks: views in memory; what a view is, and where its places lie.
-/
import Derived.Handy
import Derived.Test.YtfelmkkkaphkpaaKVwI
namespace Go.Proofs.Ytfelmkkkaphkpaa
open Go.RowKit Go.Bw
set_option linter.unusedVariables false
set_option linter.unusedSimpArgs false

theorem ret_int {k : IntKind} {a b : Int} (h : a = b) : Ending.returned (.int k a) = .returned (.int k b) := by rw [h]
theorem ret_bool {a b : Bool} (h : a = b) : Ending.returned (.bool a) = .returned (.bool b) := by rw [h]
theorem ret_float {a b : Nat} (h : a = b) : Ending.returned (.float .f64 a) = .returned (.float .f64 b) := by rw [h]
/-- the call answers v, and lays no more than new blocks -/
def Ans (w : World) (v : Value) (e : Ending) (w' : World) : Prop := e = .returned v ∧ Below w.heap.size w w'

theorem below_step {w w' : World} {o : Obj} (h : Below (w.alloc o).heap.size (w.alloc o) w') : Below w.heap.size w w' :=
  ((Below.refl _ w).alloc (Nat.le_refl _) o).trans (h.mono (by simp))

theorem below_drewN {B : Nat} {w w' : World} (h : Below B w w') (k : Nat) : Below B w (w'.drewN k) := ⟨h.os, h.tape, h.output, h.size, h.block⟩
theorem below_drew_l {B : Nat} {w w' : World} (h : Below B w.drew w') : Below B w w' := ⟨h.os, h.tape, h.output, h.size, h.block⟩

theorem set_grown {w w' : World} (h : Below w.heap.size w w') {g : Nat} (hg : g < w.heap.size) (k : Nat) (u : Value) : w.grownBy (w'.setCell ⟨g, k, none⟩ u) (some g) :=
  ⟨h.os, h.tape, h.output, by rw [World.size_setCell]; exact h.size, fun b hb hne => by
    rw [Below.heap_setCell w' ⟨g, k, none⟩ u b (fun e => hne (by rw [e]))]
    exact h.block b hb⟩

theorem setb_grown {w w' : World} {g : Nat} (h : w.grownBy w' (some g)) (k : Nat) (u : Value) : w.grownBy (w'.setCell ⟨g, k, none⟩ u) (some g) :=
  ⟨h.os, h.tape, h.output, by rw [World.size_setCell]; exact h.size, fun b hb hne => by
    rw [Below.heap_setCell w' ⟨g, k, none⟩ u b (fun e => hne (by rw [e]))]
    exact h.block b hb hne⟩
theorem drew_grown {w w' : World} {row : Option Nat} (h : w.grownBy w' row) : w.grownBy w'.drew row := ⟨h.os, h.tape, h.output, h.size, h.block⟩
theorem Blk.drew {w : World} {g : Nat} {vs : List Value} (h : Blk w g vs) : Blk w.drew g vs := h
theorem Blk.grown {w w' : World} {g : Nat} {vs : List Value} {row : Option Nat} (h : Blk w g vs) (hb : w.grownBy w' row) (hg : some g ≠ row) : Blk w' g vs := by
  obtain ⟨T, h⟩ := h
  exact ⟨T, (hb.block g (lt_of_block h) hg).trans h⟩

/-- a view as Go has it: where its store is; the first place; the steps down and right; rows and columns -/
structure Vu where
  p : Option Addr
  f0 : Int
  f1 : Int
  d0 : Int
  d1 : Int
  r0 : Int
  r1 : Int
  R : Int
  C : Int
abbrev Vu.zero : Vu := ⟨none, 0, 0, 0, 0, 0, 0, 0, 0⟩
abbrev Vu.L (v : Vu) : List Value := [.pointer v.p, .int .i64 v.f0, .int .i64 v.f1, .int .i64 v.d0, .int .i64 v.d1, .int .i64 v.r0, .int .i64 v.r1, .int .i64 v.R, .int .i64 v.C]
abbrev Vu.V (v : Vu) : Value := .agg #[.pointer v.p, .int .i64 v.f0, .int .i64 v.f1, .int .i64 v.d0, .int .i64 v.d1, .int .i64 v.r0, .int .i64 v.r1, .int .i64 v.R, .int .i64 v.C]
/-- a block that holds a view -/
abbrev Vbx (w : World) (g : Nat) (v : Vu) : Prop := Blk w g v.L
theorem Vbx.cells {w : World} {g : Nat} {v : Vu} (h : Vbx w g v) :
    w.cell? ⟨g, 0, none⟩ = some (.pointer v.p) ∧ w.cell? ⟨g, 1, none⟩ = some (.int .i64 v.f0) ∧ w.cell? ⟨g, 2, none⟩ = some (.int .i64 v.f1) ∧ w.cell? ⟨g, 3, none⟩ = some (.int .i64 v.d0) ∧ w.cell? ⟨g, 4, none⟩ = some (.int .i64 v.d1) ∧ w.cell? ⟨g, 5, none⟩ = some (.int .i64 v.r0) ∧ w.cell? ⟨g, 6, none⟩ = some (.int .i64 v.r1) ∧ w.cell? ⟨g, 7, none⟩ = some (.int .i64 v.R) ∧ w.cell? ⟨g, 8, none⟩ = some (.int .i64 v.C) :=
  ⟨Blk.cell h 0 rfl, Blk.cell h 1 rfl, Blk.cell h 2 rfl, Blk.cell h 3 rfl, Blk.cell h 4 rfl, Blk.cell h 5 rfl, Blk.cell h 6 rfl, Blk.cell h 7 rfl, Blk.cell h 8 rfl⟩
theorem Vbx.free {w : World} {g : Nat} {v : Vu} (h : Vbx w g v) :
    w.frozen? ⟨g, 0, none⟩ = false ∧ w.frozen? ⟨g, 1, none⟩ = false ∧ w.frozen? ⟨g, 2, none⟩ = false ∧ w.frozen? ⟨g, 3, none⟩ = false ∧ w.frozen? ⟨g, 4, none⟩ = false ∧ w.frozen? ⟨g, 5, none⟩ = false ∧ w.frozen? ⟨g, 6, none⟩ = false ∧ w.frozen? ⟨g, 7, none⟩ = false ∧ w.frozen? ⟨g, 8, none⟩ = false :=
  ⟨Blk.free h 0, Blk.free h 1, Blk.free h 2, Blk.free h 3, Blk.free h 4, Blk.free h 5, Blk.free h 6, Blk.free h 7, Blk.free h 8⟩

/-- where the place i, j lies -/
def Vu.p0 (v : Vu) (i j : Int) : Int := v.f0 + i * v.d0 + j * v.r0
def Vu.p1 (v : Vu) (i j : Int) : Int := v.f1 + i * v.d1 + j * v.r1
/-- the numbers of a view are small -/
structure Bd (v : Vu) (K : Int) : Prop where
  f0 : 0 ≤ v.f0 ∧ v.f0 ≤ 4096 * K
  f1 : 0 ≤ v.f1 ∧ v.f1 ≤ 4096 * K
  d0 : 0 ≤ v.d0 ∧ v.d0 ≤ K
  d1 : 0 ≤ v.d1 ∧ v.d1 ≤ K
  r0 : 0 ≤ v.r0 ∧ v.r0 ≤ K
  r1 : 0 ≤ v.r1 ∧ v.r1 ≤ K
  R : 0 ≤ v.R ∧ v.R ≤ 512
  C : 0 ≤ v.C ∧ v.C ≤ 512
  K : 1 ≤ K ∧ K ≤ 1099511627776
theorem prod_bd {i d K : Int} (h0 : 0 ≤ i) (h1 : i ≤ 512) (d0 : 0 ≤ d) (d1 : d ≤ K) : 0 ≤ i * d ∧ i * d ≤ 512 * K :=
  ⟨Int.mul_nonneg h0 d0, Int.mul_le_mul h1 d1 d0 (by omega)⟩

section
variable {w : World} {v : Vu} {K : Int}
set_option maxHeartbeats 1000000 in
theorem none_any (v : Vu) (w : World) : Calls Try.prog 92 #[v.V] w (Ans w (.bool (v.p == none))) := by
  have DB := Blk.new w v.L 30
  obtain ⟨p, f0, f1, d0, d1, r0, r1, R, C⟩ := v
  obtain ⟨c0, c1, c2, c3, c4, c5, c6, c7, c8⟩ := Vbx.cells DB
  clear DB
  go_enter Try.func92, Try.ntmps92
  go_wp2_with fail
  go_ret
  exact ⟨by cases p <;> rfl, by go_grown⟩

set_option maxHeartbeats 1000000 in
theorem Rows_any (v : Vu) (w : World) : Calls Try.prog 73 #[v.V] w (Ans w (.int .i64 v.R)) := by
  have DB := Blk.new w v.L 30
  obtain ⟨p, f0, f1, d0, d1, r0, r1, R, C⟩ := v
  obtain ⟨c0, c1, c2, c3, c4, c5, c6, c7, c8⟩ := Vbx.cells DB
  clear DB
  go_enter Try.func73, Try.ntmps73
  go_wp2_with fail
  go_ret
  exact ⟨rfl, by go_grown⟩

set_option maxHeartbeats 1000000 in
theorem Cols_any (v : Vu) (w : World) : Calls Try.prog 74 #[v.V] w (Ans w (.int .i64 v.C)) := by
  have DB := Blk.new w v.L 30
  obtain ⟨p, f0, f1, d0, d1, r0, r1, R, C⟩ := v
  obtain ⟨c0, c1, c2, c3, c4, c5, c6, c7, c8⟩ := Vbx.cells DB
  clear DB
  go_enter Try.func74, Try.ntmps74
  go_wp2_with fail
  go_ret
  exact ⟨rfl, by go_grown⟩

/-- is the place i, j one of it? -/
def Vu.has (v : Vu) (i j : Int) : Bool := decide (0 ≤ i ∧ i < v.R ∧ 0 ≤ j ∧ j < v.C)
set_option maxHeartbeats 1000000 in
theorem has_any (v : Vu) (i j : Int) (w : World) : Calls Try.prog 105 #[v.V, .int .i64 i, .int .i64 j] w (Ans w (.bool (v.has i j))) := by
  have DB := Blk.new w v.L 30
  obtain ⟨B, hB⟩ : ∃ B, v.has i j = B := ⟨_, rfl⟩
  have HB := Lib.hid hB
  rw [hB]
  clear hB
  obtain ⟨p, f0, f1, d0, d1, r0, r1, R, C⟩ := v
  have close : ∀ b : Bool, b = decide (0 ≤ i ∧ i < R ∧ 0 ≤ j ∧ j < C) → b = B := fun b h => by rw [h, ← HB.out]; rfl
  have CL := Lib.hid close
  clear close HB
  obtain ⟨c0, c1, c2, c3, c4, c5, c6, c7, c8⟩ := Vbx.cells DB
  clear DB
  by_cases h1 : 0 ≤ i
  · by_cases h2 : i < R
    · by_cases h3 : 0 ≤ j
      · go_enter Try.func105, Try.ntmps105
        go_wp2_with fail
        go_ret
        exact ⟨ret_bool (CL.out _ (by simp [h1, h2, h3])), by go_grown⟩
      · go_enter Try.func105, Try.ntmps105
        go_wp2_with fail
        go_ret
        exact ⟨ret_bool (CL.out _ (by simp; omega)), by go_grown⟩
    · go_enter Try.func105, Try.ntmps105
      go_wp2_with fail
      go_ret
      exact ⟨ret_bool (CL.out _ (by simp; omega)), by go_grown⟩
  · go_enter Try.func105, Try.ntmps105
    go_wp2_with fail
    go_ret
    exact ⟨ret_bool (CL.out _ (by simp; omega)), by go_grown⟩

set_option maxHeartbeats 1000000 in
theorem place_any (hv : Bd v K) {i j : Int} (i0 : 0 ≤ i) (i1 : i ≤ 512) (j0 : 0 ≤ j) (j1 : j ≤ 512) (w : World) :
    Calls Try.prog 103 #[v.V, .int .i64 i, .int .i64 j] w (Ans w (.agg #[.int .i64 (v.p0 i j), .int .i64 (v.p1 i j)])) := by
  have DB := (Blk.new w v.L 30).alloc (.cells #[.int .i64 0, .int .i64 0] 28)
  have a1 := prod_bd i0 i1 hv.d0.1 hv.d0.2
  have a2 := prod_bd j0 j1 hv.r0.1 hv.r0.2
  have a3 := prod_bd i0 i1 hv.d1.1 hv.d1.2
  have a4 := prod_bd j0 j1 hv.r1.1 hv.r1.2
  have b1 := hv.f0
  have b2 := hv.f1
  have b3 := hv.K
  have HP : Hid (v.p0 i j = v.f0 + i * v.d0 + j * v.r0 ∧ v.p1 i j = v.f1 + i * v.d1 + j * v.r1) := Lib.hid ⟨rfl, rfl⟩
  obtain ⟨P0, hP0⟩ : ∃ P, v.p0 i j = P := ⟨_, rfl⟩
  obtain ⟨P1, hP1⟩ : ∃ P, v.p1 i j = P := ⟨_, rfl⟩
  rw [hP0, hP1]
  rw [hP0, hP1] at HP
  clear hv hP0 hP1
  obtain ⟨p, f0, f1, d0, d1, r0, r1, R, C⟩ := v
  obtain ⟨X1, hX1⟩ : ∃ X, i * d0 = X := ⟨_, rfl⟩
  obtain ⟨X2, hX2⟩ : ∃ X, j * r0 = X := ⟨_, rfl⟩
  obtain ⟨X3, hX3⟩ : ∃ X, i * d1 = X := ⟨_, rfl⟩
  obtain ⟨X4, hX4⟩ : ∃ X, j * r1 = X := ⟨_, rfl⟩
  simp only at a1 a2 a3 a4 b1 b2
  simp only [hX1, hX2, hX3, hX4] at a1 a2 a3 a4 HP
  obtain ⟨c0, c1, c2, c3, c4, c5, c6, c7, c8⟩ := Vbx.cells DB
  clear DB
  go_enter Try.func103, Try.ntmps103
  go_wp2_with fail
  refine bodyPost_ret (v := .agg #[.int .i64 (f0 + X1 + X2), .int .i64 (f1 + X3 + X4)]) (by simp [results, Try.results103, go_sem]) rfl ?_
  exact ⟨by rw [HP.out.1, HP.out.2], by go_grown⟩

set_option maxHeartbeats 1000000 in
theorem along_any (v : Vu) (i : Int) (w : World) : Calls Try.prog 97 #[v.V, .int .i64 i] w (Ans w (.tuple #[.int .i64 (if v.C = 1 then i else 0), .int .i64 (if v.C = 1 then 0 else i)])) := by
  obtain ⟨p, f0, f1, d0, d1, r0, r1, R, C⟩ := v
  by_cases h : C = 1
  · subst h
    go_enter Try.func97, Try.ntmps97
    go_wp2_with fail
    go_ret2
    exact ⟨by simp, by go_grown⟩
  · have hb : (C == 1) = false := by simp [h]
    go_enter Try.func97, Try.ntmps97
    go_wp2_with fail
    go_ret2
    exact ⟨by simp [h], by go_grown⟩

/-- is it a vector? -/
def Vu.vec (v : Vu) : Bool := v.R == 1 || v.C == 1 || v.R == 0 && v.C == 0 && !(v.p == none)
set_option maxHeartbeats 1000000 in
theorem Vector_any (v : Vu) (w : World) : Calls Try.prog 65 #[v.V] w (Ans w (.bool v.vec)) := by
  obtain ⟨B, hB⟩ : ∃ B, v.vec = B := ⟨_, rfl⟩
  have HB := Lib.hid hB
  rw [hB]
  clear hB
  obtain ⟨p, f0, f1, d0, d1, r0, r1, R, C⟩ := v
  have close : ∀ b : Bool, b = (R == 1 || C == 1 || R == 0 && C == 0 && !(p == none)) → b = B := fun b h => by rw [h, ← HB.out]; rfl
  have CL := Lib.hid close
  clear close HB
  cases h1 : (R == 1)
  · cases h2 : (C == 1)
    · cases h3 : (R == 0)
      · go_enter Try.func65, Try.ntmps65
        go_wp2_with fail
        go_ret
        exact ⟨ret_bool (CL.out _ (by simp [h1, h2, h3])), by go_grown⟩
      · cases h4 : (C == 0)
        · go_enter Try.func65, Try.ntmps65
          go_wp2_with fail
          go_ret
          exact ⟨ret_bool (CL.out _ (by simp [h1, h2, h3, h4])), by go_grown⟩
        · have pn := none_any ⟨p, f0, f1, d0, d1, r0, r1, R, C⟩
          go_enter Try.func65, Try.ntmps65
          go_wp2_with fail
          with_reducible refine (pn _).mono ?_
          rintro e w1 ⟨rfl, hb⟩
          go_wp2_with fail
          go_ret
          exact ⟨ret_bool (CL.out _ (by simp [h1, h2, h3, h4])), below_step hb⟩
    · go_enter Try.func65, Try.ntmps65
      go_wp2_with fail
      go_ret
      exact ⟨ret_bool (CL.out _ (by simp [h1, h2])), by go_grown⟩
  · go_enter Try.func65, Try.ntmps65
    go_wp2_with fail
    go_ret
    exact ⟨ret_bool (CL.out _ (by simp [h1])), by go_grown⟩

def Vu.len (v : Vu) : Int := if v.vec then v.R * v.C else 0
set_option maxHeartbeats 1000000 in
theorem Len_any (hv : Bd v K) (w : World) : Calls Try.prog 78 #[v.V] w (Ans w (.int .i64 v.len)) := by
  have pv := Vector_any v
  have hp := prod_bd hv.R.1 hv.R.2 hv.C.1 hv.C.2
  cases h : v.vec
  · have e : v.len = 0 := by unfold Vu.len; rw [h]; rfl
    rw [h] at pv
    rw [e]
    clear e h hv hp
    obtain ⟨p, f0, f1, d0, d1, r0, r1, R, C⟩ := v
    go_enter Try.func78, Try.ntmps78
    go_wp2_with fail
    with_reducible refine (pv _).mono ?_
    rintro e w1 ⟨rfl, hb⟩
    go_wp2_with fail
    go_ret
    exact ⟨rfl, below_step hb⟩
  · have e : v.len = v.R * v.C := by unfold Vu.len; rw [h]; rfl
    rw [h] at pv
    rw [e]
    clear e h hv
    obtain ⟨p, f0, f1, d0, d1, r0, r1, R, C⟩ := v
    obtain ⟨X, hX⟩ : ∃ X, R * C = X := ⟨_, rfl⟩
    simp only [hX] at hp
    have DB := Blk.new w (Vu.L ⟨p, f0, f1, d0, d1, r0, r1, R, C⟩) 30
    go_enter Try.func78, Try.ntmps78
    go_wp2_with fail
    with_reducible refine (pv _).mono ?_
    rintro e w1 ⟨rfl, hb⟩
    replace DB := DB.on hb
    obtain ⟨c0, c1, c2, c3, c4, c5, c6, c7, c8⟩ := Vbx.cells DB
    clear DB
    go_wp2_with fail
    go_ret
    exact ⟨ret_int hX.symm, below_step hb⟩
end
end Go.Proofs.Ytfelmkkkaphkpaa
