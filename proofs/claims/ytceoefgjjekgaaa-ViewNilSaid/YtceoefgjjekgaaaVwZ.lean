/-
  Layer 7: the reference's view in plain words; its Vector, Len, Place, Get.
-/
import Derived.Test.YtceoefgjjekgaaaVwY
namespace Go.Proofs.Ytceoefgjjekgaaa
open Go.RowKit Go.Bw Go.Sort Go.Shelf
set_option linter.unusedVariables false
set_option linter.unusedSimpArgs false

/-- the reference's view, in plain words -/
structure Ru where
  A : Option Addr
  n : Nat
  c : Nat
  R : Int
  C : Int
  A2 : Option Addr
  n2 : Nat
  c2 : Nat
  b : Bool
abbrev Ru.zero : Ru := ⟨none, 0, 0, 0, 0, none, 0, 0, false⟩
abbrev Ru.L (r : Ru) : List Value := [.slice r.A r.n r.c, .int .i64 r.R, .int .i64 r.C, .slice r.A2 r.n2 r.c2, .bool r.b]
abbrev Ru.V (r : Ru) : Value := .agg #[.slice r.A r.n r.c, .int .i64 r.R, .int .i64 r.C, .slice r.A2 r.n2 r.c2, .bool r.b]
/-- a block that holds one -/
abbrev Rbx (w : World) (g : Nat) (r : Ru) : Prop := Blk w g r.L
theorem Rbx.cells {w : World} {g : Nat} {r : Ru} (h : Rbx w g r) :
    w.cell? ⟨g, 0, none⟩ = some (.slice r.A r.n r.c) ∧ w.cell? ⟨g, 1, none⟩ = some (.int .i64 r.R) ∧ w.cell? ⟨g, 2, none⟩ = some (.int .i64 r.C) ∧ w.cell? ⟨g, 3, none⟩ = some (.slice r.A2 r.n2 r.c2) ∧ w.cell? ⟨g, 4, none⟩ = some (.bool r.b) :=
  ⟨Blk.cell h 0 rfl, Blk.cell h 1 rfl, Blk.cell h 2 rfl, Blk.cell h 3 rfl, Blk.cell h 4 rfl⟩
theorem Rbx.free {w : World} {g : Nat} {r : Ru} (h : Rbx w g r) :
    w.frozen? ⟨g, 0, none⟩ = false ∧ w.frozen? ⟨g, 1, none⟩ = false ∧ w.frozen? ⟨g, 2, none⟩ = false ∧ w.frozen? ⟨g, 3, none⟩ = false ∧ w.frozen? ⟨g, 4, none⟩ = false :=
  ⟨Blk.free h 0, Blk.free h 1, Blk.free h 2, Blk.free h 3, Blk.free h 4⟩

/-- where a view's places lie, row by row -/
def Vu.ats (v : Vu) (c : Nat) : List Int := (List.range (v.R * v.C).toNat).map fun k => v.ix c (v.ei k) (v.ej k)
theorem ats_length (v : Vu) (c : Nat) : (v.ats c).length = (v.R * v.C).toNat := by simp [Vu.ats]
theorem ats_D (v : Vu) (c : Nat) {k : Nat} (hk : k < (v.R * v.C).toNat) : D (v.ats c) k = v.ix c (v.ei k) (v.ej k) := by
  rw [D_in (by rw [ats_length]; exact hk)]
  simp [Vu.ats]
theorem ats_at {v : Vu} (c : Nat) {i j : Nat} (hR : 0 ≤ v.R) (hC : 0 ≤ v.C) (hi : (i : Int) < v.R) (hj : (j : Int) < v.C) :
    i * v.C.toNat + j < (v.R * v.C).toNat ∧ D (v.ats c) (i * v.C.toNat + j) = v.ix c i j := by
  have hj' : j < v.C.toNat := by omega
  have hlt : i * v.C.toNat + j < (v.R * v.C).toNat := by
    rw [Int.toNat_mul hR hC]
    have := Nat.mul_le_mul_right v.C.toNat (show i + 1 ≤ v.R.toNat by omega)
    rw [Nat.succ_mul] at this
    omega
  refine ⟨hlt, ?_⟩
  rw [ats_D v c hlt]
  unfold Vu.ei Vu.ej
  have e1 : (i * v.C.toNat + j) / v.C.toNat = i := by rw [Nat.mul_comm, Nat.mul_add_div (by omega), Nat.div_eq_of_lt hj', Nat.add_zero]
  have e2 : (i * v.C.toNat + j) % v.C.toNat = j := by rw [Nat.mul_comm, Nat.mul_add_mod, Nat.mod_eq_of_lt hj']
  rw [e1, e2]

/-- numbers that lie apart from what is written -/
theorem NumI.far {w w' : World} {A : Option Addr} {c : Nat} {l : List Int} (h : NumI w w.heap.size A c l) {row : Option Nat} (hg : w.grownBy w' row) (hf : ∀ a, A = some a → some a.block ≠ row) : NumI w' w'.heap.size A c l :=
  ⟨h.1, h.2.1, fun hn => by
    obtain ⟨ad, e, hb, hc⟩ := h.2.2 hn
    have hbl : w'.heap[ad.block]? = w.heap[ad.block]? := hg.block _ hb (hf _ e)
    refine ⟨ad, e, Nat.lt_of_lt_of_le hb hg.size, fun k hk => ?_⟩
    rw [← hc k hk]
    unfold World.cell?
    rw [add_block, hbl]⟩

/-- the reference's store: its floats -/
structure Sr (w : World) (B : Nat) (A : Option Addr) (n c : Nat) (l : List Int) : Prop where
  own : OwnF w B A c l
  len : l.length = n
  wd : Wd l
theorem Sr.on {w w' : World} {B n c : Nat} {A : Option Addr} {l : List Int} (h : Sr w B A n c l) (hb : Below w.heap.size w w') : Sr w' B A n c l := ⟨h.own.below hb, h.len, h.wd⟩
theorem Sr.fl {w : World} {B n c : Nat} {A : Option Addr} {l : List Int} (h : Sr w B A n c l) : FL w A n c l := ⟨h.len, h.own.nums, h.wd⟩
/-- the reference's view r is the program's v: of the store A -/
structure Rk (w : World) (A : Option Addr) (n cd : Nat) (r : Ru) (v : Vu) (c : Nat) : Prop where
  R : r.R = v.R
  C : r.C = v.C
  b : r.b = !(v.p == none)
  num : NumI w w.heap.size r.A2 r.c2 (v.ats c)
  n2 : r.n2 = (v.ats c).length
  far : ∀ a a2, A = some a → r.A2 = some a2 → a2.block ≠ a.block
  data : r.b = true → r.A = A ∧ r.n = n ∧ r.c = cd
  zero : r.b = false → r = Ru.zero
theorem Rk.on {w w' : World} {A : Option Addr} {n cd : Nat} {r : Ru} {v : Vu} {c : Nat} (h : Rk w A n cd r v c) (hb : Below w.heap.size w w') : Rk w' A n cd r v c :=
  ⟨h.R, h.C, h.b, h.num.on hb (Nat.le_refl _), h.n2, h.far, h.data, h.zero⟩
/-- a store's float is written: the view stays -/
theorem Rk.put {w w' : World} {g n cd : Nat} {r : Ru} {v : Vu} {c : Nat} (h : Rk w (some ⟨g, 0, none⟩) n cd r v c) (hg : w.grownBy w' (some g)) : Rk w' (some ⟨g, 0, none⟩) n cd r v c :=
  ⟨h.R, h.C, h.b, h.num.far hg (fun a e => by have := h.far _ a rfl e; simpa using this), h.n2, h.far, h.data, h.zero⟩
/-- and where another block is written -/
theorem Rk.far_ {w w' : World} {A : Option Addr} {n cd : Nat} {r : Ru} {v : Vu} {c : Nat} {row : Option Nat} (h : Rk w A n cd r v c) (hg : w.grownBy w' row) (hf : ∀ a, r.A2 = some a → some a.block ≠ row) : Rk w' A n cd r v c :=
  ⟨h.R, h.C, h.b, h.num.far hg hf, h.n2, h.far, h.data, h.zero⟩

section
variable {w : World} {A : Option Addr} {n cd c s : Nat} {r : Ru} {v : Vu} {K : Int} {B : Nat} {l : List Int}
/-- does the reference call it a vector? -/
def Ru.vec (r : Ru) : Bool := r.b && (r.R == 1 || r.C == 1 || r.R == 0 && r.C == 0)
theorem Rk.vec (h : Rk w A n cd r v c) (hz : v.p = none → v = Vu.zero) : r.vec = v.vec := by
  unfold Ru.vec Vu.vec
  rw [h.R, h.C, h.b]
  by_cases hp : v.p = none
  · rw [hz hp]; rfl
  · have e : (v.p == none) = false := by cases hh : v.p; exact absurd hh hp; rfl
    rw [e]; simp
set_option maxHeartbeats 1000000 in
theorem rVector_any (r : Ru) (w : World) : Calls Try.prog 30 #[r.V] w (Ans w (.bool r.vec)) := by
  obtain ⟨B, hB⟩ : ∃ B, r.vec = B := ⟨_, rfl⟩
  have HB := Lib.hid hB
  rw [hB]
  clear hB
  obtain ⟨A, n, c, R, C, A2, n2, c2, b⟩ := r
  have close : ∀ x : Bool, x = (b && (R == 1 || C == 1 || R == 0 && C == 0)) → x = B := fun x h => by rw [h, ← HB.out]; rfl
  have CL := Lib.hid close
  clear close HB
  cases b
  · go_enter Try.func30, Try.ntmps30
    go_wp2_with fail
    go_ret
    exact ⟨ret_bool (CL.out _ (by simp)), by go_grown⟩
  · cases h1 : (R == 1)
    · cases h2 : (C == 1)
      · cases h3 : (R == 0)
        · go_enter Try.func30, Try.ntmps30
          go_wp2_with fail
          go_ret
          exact ⟨ret_bool (CL.out _ (by simp [h1, h2, h3])), by go_grown⟩
        · go_enter Try.func30, Try.ntmps30
          go_wp2_with fail
          go_ret
          exact ⟨ret_bool (CL.out _ (by simp [h1, h2, h3])), by go_grown⟩
      · go_enter Try.func30, Try.ntmps30
        go_wp2_with fail
        go_ret
        exact ⟨ret_bool (CL.out _ (by simp [h1, h2])), by go_grown⟩
    · go_enter Try.func30, Try.ntmps30
      go_wp2_with fail
      go_ret
      exact ⟨ret_bool (CL.out _ (by simp [h1])), by go_grown⟩

def Ru.len (r : Ru) : Int := if r.vec then r.R * r.C else 0
set_option maxHeartbeats 1000000 in
theorem rLen_any (r : Ru) (R0 : 0 ≤ r.R) (R1 : r.R ≤ 512) (C0 : 0 ≤ r.C) (C1 : r.C ≤ 512) (w : World) : Calls Try.prog 32 #[r.V] w (Ans w (.int .i64 r.len)) := by
  have pv := rVector_any r
  have p0 := Int.mul_nonneg R0 C0
  have p1 : r.R * r.C ≤ 512 * 512 := Int.mul_le_mul R1 C1 C0 (by omega)
  have DB := Blk.new w r.L 51
  cases h : r.vec
  · have e : r.len = 0 := by unfold Ru.len; rw [h]; rfl
    rw [h] at pv
    rw [e]
    clear e h p0 p1 R0 R1 C0 C1
    obtain ⟨A, n, c, R, C, A2, n2, c2, b⟩ := r
    go_enter Try.func32, Try.ntmps32
    go_wp2_with fail
    with_reducible refine (pv _).mono ?_
    rintro e w1 ⟨rfl, hb⟩
    go_wp2_with fail
    go_ret
    exact ⟨rfl, below_step hb⟩
  · have e : r.len = r.R * r.C := by unfold Ru.len; rw [h]; rfl
    rw [h] at pv
    rw [e]
    clear e h R0 R1 C0 C1
    obtain ⟨A, n, c, R, C, A2, n2, c2, b⟩ := r
    obtain ⟨X, hX⟩ : ∃ X, R * C = X := ⟨_, rfl⟩
    simp only [hX] at p0 p1 ⊢
    go_enter Try.func32, Try.ntmps32
    go_wp2_with fail
    with_reducible refine (pv _).mono ?_
    rintro e w1 ⟨rfl, hb⟩
    replace DB := DB.on hb
    obtain ⟨c0, c1, c2', c3, c4⟩ := Rbx.cells DB
    go_wp2_with fail
    go_ret
    exact ⟨rfl, below_step hb⟩
end
end Go.Proofs.Ytceoefgjjekgaaa
