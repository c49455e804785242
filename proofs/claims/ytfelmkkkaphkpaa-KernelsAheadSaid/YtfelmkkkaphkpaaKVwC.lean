/-
  Layer 7, walks: a store in memory; where a view's place lies in it; a float read, a float set.
-/
import Derived.Test.YtfelmkkkaphkpaaKVwB
namespace Go.Proofs.Ytfelmkkkaphkpaa
open Go.RowKit Go.Bw
set_option linter.unusedVariables false
set_option linter.unusedSimpArgs false

/-- the block s is a store of c columns, whose floats are l: in the block g, from B on -/
structure St (w : World) (B s g cap c : Nat) (l : List Int) : Prop where
  box : Blk w s [.int .i64 c, .slice (some ⟨g, 0, none⟩) l.length cap]
  own : OwnF w B (some ⟨g, 0, none⟩) cap l
  ne : g ≠ s
  wd : Wd l
  lo : B ≤ s
  len : l.length ≤ 262144
  col : c ≤ 512

section
variable {w w' : World} {B s g cap c : Nat} {A : Option Addr} {l : List Int}
theorem OwnF.on_ (h : OwnF w B A cap l) (hb : Below w.heap.size w w') : OwnF w' B A cap l := h.below hb
theorem St.on (h : St w B s g cap c l) (hb : Below w.heap.size w w') : St w' B s g cap c l := ⟨h.box.on hb, h.own.below hb, h.ne, h.wd, h.lo, h.len, h.col⟩
theorem St.lt (h : St w B s g cap c l) : s < w.heap.size := h.box.lt
theorem OwnF.gt (h : OwnF w B A cap l) {ad : Addr} (e : A = some ad) : B ≤ ad.block ∧ ad.block < w.heap.size := World.ownsRow.lt h ad.block (by rw [e]; rfl)
theorem OwnF.at_ {A : Option Addr} (h : OwnF w B A cap l) {k : Nat} (hk : k < l.length) : ∃ g, A = some ⟨g, 0, none⟩ ∧ w.cell? ⟨g, k, none⟩ = some (.float .f64 (D l k).toNat) ∧ w.frozen? ⟨g, k, none⟩ = false := by
  obtain ⟨g, rfl, _, _⟩ := h.form (by omega)
  refine ⟨g, rfl, ?_, World.ownsRow.frozenAt h k⟩
  have := World.ownsRow.cellAt h k (by simpa using hk)
  rw [this, LF_get hk]
theorem OwnF.set_ (h : OwnF w B (some ⟨g, 0, none⟩) cap l) (k : Nat) (x : Int) : OwnF (w.setCell ⟨g, k, none⟩ (fV x)) B (some ⟨g, 0, none⟩) cap (l.set k x) := by
  have := World.ownsRow.stored h k (fV x)
  unfold OwnF
  rw [List.length_set]
  simpa [LF, List.map_set] using this.1
theorem St.at_ (h : St w B s g cap c l) {k : Nat} (hk : k < l.length) : w.cell? ⟨g, k, none⟩ = some (.float .f64 (D l k).toNat) ∧ w.frozen? ⟨g, k, none⟩ = false := by
  obtain ⟨g', e, h1, h2⟩ := h.own.at_ hk
  cases e
  exact ⟨h1, h2⟩
theorem St.gt (h : St w B s g cap c l) : B ≤ g ∧ g < w.heap.size := OwnF.gt h.own rfl
theorem wd_set {l : List Int} (h : Wd l) {x : Int} (x0 : 0 ≤ x) (x1 : x ≤ 18446744073709551615) (k : Nat) : Wd (l.set k x) := by
  intro y hy
  rcases List.mem_or_eq_of_mem_set hy with h1 | rfl
  · exact h y h1
  · exact ⟨x0, x1⟩
theorem St.set_ (h : St w B s g cap c l) {x : Int} (x0 : 0 ≤ x) (x1 : x ≤ 18446744073709551615) (k : Nat) : St (w.setCell ⟨g, k, none⟩ (fV x)) B s g cap c (l.set k x) :=
  ⟨by rw [List.length_set]; exact h.box.far (p := ⟨g, k, none⟩) (fun e => h.ne e.symm) _, h.own.set_ k x, h.ne, wd_set h.wd x0 x1 k, h.lo, by rw [List.length_set]; exact h.len, h.col⟩
end

section
variable {w : World} {v : Vu} {K : Int} {B s g cap c : Nat} {l : List Int}
/-- the number of the place i, j in a store of c columns -/
def Vu.ix (v : Vu) (c : Nat) (i j : Int) : Int := v.p0 i j * c + v.p1 i j
theorem Bd.p (hv : Bd v K) {i j : Int} (i0 : 0 ≤ i) (i1 : i ≤ 512) (j0 : 0 ≤ j) (j1 : j ≤ 512) : (0 ≤ v.p0 i j ∧ v.p0 i j ≤ 5120 * K) ∧ 0 ≤ v.p1 i j ∧ v.p1 i j ≤ 5120 * K := by
  have a1 := prod_bd i0 i1 hv.d0.1 hv.d0.2
  have a2 := prod_bd j0 j1 hv.r0.1 hv.r0.2
  have a3 := prod_bd i0 i1 hv.d1.1 hv.d1.2
  have a4 := prod_bd j0 j1 hv.r1.1 hv.r1.2
  have b1 := hv.f0
  have b2 := hv.f1
  unfold Vu.p0 Vu.p1
  omega

set_option maxHeartbeats 2000000 in
theorem cell_any (hv : Bd v K) (h : St w B s g cap c l) (hp : v.p = some ⟨s, 0, none⟩) {i j : Int} (i0 : 0 ≤ i) (i1 : i ≤ 512) (j0 : 0 ≤ j) (j1 : j ≤ 512) {k : Nat} (hk : v.ix c i j = k) (hl : k < l.length) :
    Calls Try.prog 104 #[v.V, .int .i64 i, .int .i64 j] w (Ans w (.pointer (some ⟨g, k, none⟩))) := by
  have pp := place_any hv i0 i1 j0 j1
  obtain ⟨⟨a0, a1⟩, b0, b1⟩ := hv.p i0 i1 j0 j1
  unfold Vu.ix at hk
  obtain ⟨P0, hP0⟩ : ∃ P, v.p0 i j = P := ⟨_, rfl⟩
  obtain ⟨P1, hP1⟩ : ∃ P, v.p1 i j = P := ⟨_, rfl⟩
  rw [hP0, hP1] at hk pp
  rw [hP0] at a0
  rw [hP1] at b0
  have hk0 := Lib.hid hv.K
  clear hP0 hP1 a1 b1 hv
  obtain ⟨hc, hf⟩ := h.at_ hl
  have hn := h.len
  have hc0 : 0 ≤ P0 * (c : Int) := Int.mul_nonneg a0 (by omega)
  obtain ⟨X, hX⟩ : ∃ X, P0 * (c : Int) = X := ⟨_, rfl⟩
  rw [hX] at hk hc0
  have DB := Blk.new w v.L 30
  have hs1 := h.on ((Below.refl _ w).alloc (Nat.le_refl _) (.cells v.L.toArray 30))
  have bw : Below w.heap.size w (w.alloc (.cells v.L.toArray 30)) := by go_grown
  obtain ⟨p, f0, f1, d0, d1, r0, r1, R, C⟩ := v
  obtain rfl : p = some ⟨s, 0, none⟩ := hp
  clear h hc hf
  go_enter Try.func104, Try.ntmps104
  go_wp2_with fail
  with_reducible refine (pp _).mono ?_
  rintro e w1 ⟨rfl, hb⟩
  replace DB := (DB.on hb).alloc (.cells #[.int .i64 P0, .int .i64 P1] 28)
  have hs2 := (hs1.on hb).on ((Below.refl _ w1).alloc (Nat.le_refl _) (.cells #[.int .i64 P0, .int .i64 P1] 28))
  have DC := Blk.new w1 [.int .i64 P0, .int .i64 P1] 28
  have q0 := Blk.cell DC 0 rfl
  have q1 := Blk.cell DC 1 rfl
  have bz : Below w.heap.size w (w1.alloc (.cells #[.int .i64 P0, .int .i64 P1] 28)) := (bw.trans (hb.mono (by simp))).alloc (by have := hb.size; simp at this; omega) _
  clear hs1 bw pp hb
  go_upto_region 2 with fail
  generalize w1.alloc (.cells #[.int .i64 P0, .int .i64 P1] 28) = W at DB hs2 DC q0 q1 bz ⊢
  obtain ⟨c0, c1, c2, c3, c4, c5, c6, c7, c8⟩ := Vbx.cells DB
  have s0 := Blk.cell hs2.box 0 rfl
  have s1 := Blk.cell hs2.box 1 rfl
  have k0 : (0 : Int) ≤ k := by omega
  have k1 : (k : Int) < l.length := by omega
  clear c1 c2 c3 c4 c5 c6 c7 c8 DB DC hs2
  go_quiet (fail)
  go_wp2_with fail
  go_ret
  exact ⟨rfl, below_drewN bz _⟩

/-- all places of a view lie in its store -/
def Ins (v : Vu) (c n : Nat) : Prop := ∀ i j : Int, v.has i j = true → ∃ k : Nat, v.ix c i j = k ∧ k < n ∧ v.p1 i j < c
/-- a view of the store s, or none -/
structure Vk (v : Vu) (s c n : Nat) (K : Int) : Prop where
  bd : Bd v K
  p : v = Vu.zero ∨ v.p = some ⟨s, 0, none⟩
  ins : Ins v c n
/-- the float at i, j; 0, if there is none -/
def Vu.at_ (v : Vu) (c : Nat) (l : List Int) (i j : Int) : Int := if v.has i j then D l (v.ix c i j).toNat else 0
theorem Vu.has_zero (i j : Int) : Vu.zero.has i j = false := by unfold Vu.has Vu.zero; simp
theorem has_bd {v : Vu} {i j : Int} (hb : Bd v K) (h : v.has i j = true) : (0 ≤ i ∧ i ≤ 512) ∧ 0 ≤ j ∧ j ≤ 512 := by
  unfold Vu.has at h
  have h := of_decide_eq_true h
  have h1 := hb.R
  have h2 := hb.C
  omega

set_option maxHeartbeats 1000000 in
theorem At_out {i j : Int} (hh : v.has i j = false) (w : World) : Calls Try.prog 87 #[v.V, .int .i64 i, .int .i64 j] w (Ans w (.float .f64 0)) := by
  have ph := has_any v i j
  rw [hh] at ph
  clear hh
  obtain ⟨p, f0, f1, d0, d1, r0, r1, R, C⟩ := v
  go_enter Try.func87, Try.ntmps87
  go_wp2_with fail
  with_reducible refine (ph _).mono ?_
  rintro e w1 ⟨rfl, hb⟩
  go_wp2_with fail
  go_ret
  exact ⟨rfl, below_step hb⟩

set_option maxHeartbeats 1000000 in
theorem At_any (h : St w B s g cap c l) (hv : Vk v s c l.length K) (i j : Int) :
    Calls Try.prog 87 #[v.V, .int .i64 i, .int .i64 j] w (Ans w (.float .f64 (v.at_ c l i j).toNat)) := by
  have ph := has_any v i j
  cases hh : v.has i j
  · have e : v.at_ c l i j = 0 := by unfold Vu.at_; rw [hh]; rfl
    rw [e]
    exact At_out hh w
  · obtain ⟨k, hk, hl, _⟩ := hv.ins i j hh
    have hz : v.p = some ⟨s, 0, none⟩ := by
      rcases hv.p with rfl | h
      · rw [Vu.has_zero] at hh; cases hh
      · exact h
    obtain ⟨⟨i0, i1⟩, j0, j1⟩ := has_bd hv.bd hh
    have pc := fun W (h : St W B s g cap c l) => cell_any (w := W) hv.bd h hz i0 i1 j0 j1 hk hl
    have e : v.at_ c l i j = D l k := by unfold Vu.at_; rw [hh, hk]; rfl
    rw [hh] at ph
    rw [e]
    clear e hh hv hz i0 i1 j0 j1 hk
    have DB := Blk.new w v.L 30
    have hs1 := h.on ((Below.refl _ w).alloc (Nat.le_refl _) (.cells v.L.toArray 30))
    have hn := hs1.len
    obtain ⟨p, f0, f1, d0, d1, r0, r1, R, C⟩ := v
    go_enter Try.func87, Try.ntmps87
    go_wp2_with fail
    with_reducible refine (ph _).mono ?_
    rintro e w1 ⟨rfl, hb⟩
    replace DB := DB.on hb
    replace hs1 := hs1.on hb
    obtain ⟨c0, c1, c2, c3, c4, c5, c6, c7, c8⟩ := Vbx.cells DB
    go_wp2_with fail
    with_reducible refine (pc _ hs1).mono ?_
    rintro e w2 ⟨rfl, hb2⟩
    replace hs1 := hs1.on hb2
    obtain ⟨hc, hf⟩ := hs1.at_ hl
    go_wp2_with fail
    go_ret
    exact ⟨rfl, below_step (hb.trans (hb2.mono hb.size))⟩
theorem Vk.none_ {v : Vu} {s c n : Nat} {K : Int} (hv : Vk v s c n K) (h : v.p = none) : v = Vu.zero := by
  rcases hv.p with e | e
  · exact e
  · rw [e] at h; cases h
/-- where a store is asked for views alone that are not none -/
theorem At_sv (h : v.p ≠ none → St w B s g cap c l) (hv : Vk v s c l.length K) (i j : Int) :
    Calls Try.prog 87 #[v.V, .int .i64 i, .int .i64 j] w (Ans w (.float .f64 (v.at_ c l i j).toNat)) := by
  by_cases hp : v.p = none
  · have e := hv.none_ hp
    have e2 : v.at_ c l i j = 0 := by unfold Vu.at_; rw [e, Vu.has_zero]; rfl
    rw [e2]
    exact At_out (by rw [e, Vu.has_zero]) w
  · exact At_any (h hp) hv i j
end
end Go.Proofs.Ytfelmkkkaphkpaa
