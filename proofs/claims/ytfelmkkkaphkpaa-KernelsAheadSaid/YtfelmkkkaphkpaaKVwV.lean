/-
  Layer 7: views cut of views keep within their store (plain); Put.
-/
import Derived.Test.YtfelmkkkaphkpaaKVwU
namespace Go.Proofs.Ytfelmkkkaphkpaa
open Go.RowKit Go.Bw Go.Sort Go.Shelf
set_option linter.unusedVariables false
set_option linter.unusedSimpArgs false

theorem zero_vk (s c n : Nat) {K : Int} (h : 1 ≤ K ∧ K ≤ 1099511627776) : Vk Vu.zero s c n K where
  bd := ⟨by simp; omega, by simp; omega, by simp; omega, by simp; omega, by simp; omega, by simp; omega, by simp, by simp, h⟩
  p := .inl rfl
  ins := by intro i j hh; rw [Vu.has_zero] at hh; cases hh
theorem Bd.more {v : Vu} {K K2 : Int} (h : Bd v K) (hk : K ≤ K2) (h2 : K2 ≤ 1099511627776) : Bd v K2 := by
  obtain ⟨a, b, c, d, e, f, g, i, j⟩ := h
  exact ⟨by omega, by omega, by omega, by omega, by omega, by omega, g, i, by omega⟩
theorem Vk.more {v : Vu} {s c n : Nat} {K K2 : Int} (h : Vk v s c n K) (hk : K ≤ K2) (h2 : K2 ≤ 1099511627776) : Vk v s c n K2 := ⟨h.bd.more hk h2, h.p, h.ins⟩

section
variable {v : Vu} {s c n : Nat} {K : Int}
theorem T_p0 (i j : Int) : v.T.p0 i j = v.p0 j i := by unfold Vu.T Vu.p0; simp only; omega
theorem T_p1 (i j : Int) : v.T.p1 i j = v.p1 j i := by unfold Vu.T Vu.p1; simp only; omega
theorem T_ix (i j : Int) : v.T.ix c i j = v.ix c j i := by unfold Vu.ix; rw [T_p0, T_p1]
theorem T_has (i j : Int) : v.T.has i j = v.has j i := by unfold Vu.T Vu.has; simp only; congr 1; apply propext; constructor <;> (intro h; omega)
theorem turn_vk (hv : Vk v s c n K) : Vk v.turnO s c n K := by
  unfold Vu.turnO
  by_cases hz : (v.p == none) = true
  · rw [if_pos hz]; exact zero_vk s c n hv.bd.K
  · rw [if_neg hz]
    obtain ⟨a, b, c', d, e, f, g, i, j⟩ := hv.bd
    refine ⟨⟨a, b, e, f, c', d, i, g, j⟩, ?_, ?_⟩
    · rcases hv.p with h | h
      · rw [h] at hz; exact absurd rfl hz
      · exact .inr h
    · intro i j hh
      rw [T_has] at hh
      obtain ⟨k, h1, h2, h3⟩ := hv.ins j i hh
      exact ⟨k, by rw [T_ix]; exact h1, h2, by rw [T_p1]; exact h3⟩
theorem D_p0 (k : Int) : v.diag.p0 k 0 = v.p0 k k := by unfold Vu.diag Vu.p0; simp only; rw [Int.mul_add]; omega
theorem D_p1 (k : Int) : v.diag.p1 k 0 = v.p1 k k := by unfold Vu.diag Vu.p1; simp only; rw [Int.mul_add]; omega
theorem D_ix (k : Int) : v.diag.ix c k 0 = v.ix c k k := by unfold Vu.ix; rw [D_p0, D_p1]
theorem D_has {i j : Int} (h : v.diag.has i j = true) : j = 0 ∧ v.has i i = true := by
  have h := of_decide_eq_true h
  simp only [Vu.diag] at h
  exact ⟨by omega, decide_eq_true (by omega)⟩
theorem diag_vk (hv : Vk v s c n K) (hK : 2 * K ≤ 1099511627776) : Vk v.diagO s c n (2 * K) := by
  have hk := hv.bd.K
  unfold Vu.diagO
  by_cases hz : (v.p == none) = true
  · rw [if_pos hz]; exact zero_vk s c n (by omega)
  · rw [if_neg hz]
    obtain ⟨a, b, c', d, e, f, g, i, j⟩ := hv.bd
    refine ⟨⟨by unfold Vu.diag; simp only; omega, by unfold Vu.diag; simp only; omega, by unfold Vu.diag; simp only; omega, by unfold Vu.diag; simp only; omega, by unfold Vu.diag; simp only; omega, by unfold Vu.diag; simp only; omega, by unfold Vu.diag; simp only; omega, by unfold Vu.diag; simp only; omega, by omega⟩, ?_, ?_⟩
    · rcases hv.p with h | h
      · rw [h] at hz; exact absurd rfl hz
      · exact .inr h
    · intro i j hh
      obtain ⟨rfl, h1⟩ := D_has hh
      obtain ⟨k, h1, h2, h3⟩ := hv.ins i i h1
      exact ⟨k, by rw [D_ix]; exact h1, h2, by rw [D_p1]; exact h3⟩
theorem P_p0 (i j r m a b : Int) : (v.part i j r m).p0 a b = v.p0 (i + a) (j + b) := by unfold Vu.part Vu.p0; simp only; rw [Int.add_mul, Int.add_mul]; omega
theorem P_p1 (i j r m a b : Int) : (v.part i j r m).p1 a b = v.p1 (i + a) (j + b) := by unfold Vu.part Vu.p1; simp only; rw [Int.add_mul, Int.add_mul]; omega
theorem P_ix (i j r m a b : Int) : (v.part i j r m).ix c a b = v.ix c (i + a) (j + b) := by unfold Vu.ix; rw [P_p0, P_p1]
theorem P_has {i j r m a b : Int} (h1 : withinB i r v.R = true) (h2 : withinB j m v.C = true) (h : (v.part i j r m).has a b = true) : v.has (i + a) (j + b) = true := by
  have h := of_decide_eq_true h
  have h1 := of_decide_eq_true h1
  have h2 := of_decide_eq_true h2
  simp only [Vu.part] at h
  exact decide_eq_true (by omega)
theorem part_vk (hv : Vk v s c n K) (hK : 2 * K ≤ 1099511627776) (i j r m : Int) : Vk (v.partO i j r m) s c n (2 * K) := by
  have hk := hv.bd.K
  unfold Vu.partO
  by_cases hz : (v.p == none) = true
  · rw [if_pos hz]; exact zero_vk s c n (by omega)
  · rw [if_neg hz]
    by_cases hw : (withinB i r v.R && withinB j m v.C) = true
    · rw [if_pos hw]
      simp only [Bool.and_eq_true] at hw
      obtain ⟨i0, i1, r0, r1⟩ := within_bd hw.1 hv.bd.R.2
      obtain ⟨j0, j1, m0, m1⟩ := within_bd hw.2 hv.bd.C.2
      have hp := hv.bd.p i0 i1 j0 j1
      obtain ⟨a, b, c', d, e, f, g, i, j⟩ := hv.bd
      refine ⟨⟨by unfold Vu.part; simp only; omega, by unfold Vu.part; simp only; omega, by unfold Vu.part; simp only; omega, by unfold Vu.part; simp only; omega, by unfold Vu.part; simp only; omega, by unfold Vu.part; simp only; omega, by unfold Vu.part; simp only; omega, by unfold Vu.part; simp only; omega, by omega⟩, ?_, ?_⟩
      · rcases hv.p with h | h
        · rw [h] at hz; exact absurd rfl hz
        · exact .inr h
      · intro a b hh
        obtain ⟨k, h1, h2, h3⟩ := hv.ins _ _ (P_has hw.1 hw.2 hh)
        exact ⟨k, by rw [P_ix]; exact h1, h2, by rw [P_p1]; exact h3⟩
    · rw [if_neg hw]; exact zero_vk s c n (by omega)
end

/-- what Put answers -/
def Vu.putE (v : Vu) (i : Int) : Int := if !(v.p == none) && !v.vec then 8 else v.setE (v.ai i) (v.aj i)
/-- and the floats behind it -/
def Vu.putL (v : Vu) (c : Nat) (l : List Int) (i x : Int) : List Int := if !(v.p == none) && !v.vec then l else v.setL c l (v.ai i) (v.aj i) x

section
variable {w : World} {v : Vu} {K : Int} {B s g cap c : Nat} {l : List Int}
set_option maxHeartbeats 2000000 in
theorem Put_any (h : St w B s g cap c l) (hv : Vk v s c l.length K) (i : Int) {x : Int} (x0 : 0 ≤ x) (x1 : x ≤ 18446744073709551615) :
    Calls Try.prog 70 #[v.V, .int .i64 i, .float .f64 x.toNat] w (Wrote w B s g cap c (v.putE i) (v.putL c l i x)) := by
  have pn := none_any v
  have pv := Vector_any v
  have bw := (Below.refl _ w).alloc (Nat.le_refl _) (.cells v.L.toArray 30)
  have DB := Blk.new w v.L 30
  have hs1 := h.on bw
  have hlt := h.gt.2
  have pa : ∀ W, Calls Try.prog 97 #[v.V, .int .i64 i] W (Ans W (.tuple #[.int .i64 (v.ai i), .int .i64 (v.aj i)])) := fun W => along_any v i W
  have ps := fun W (h : St W B s g cap c l) => Set_any (w := W) h hv (v.ai i) (v.aj i) x0 x1
  obtain ⟨I, hI⟩ : ∃ I, v.ai i = I := ⟨_, rfl⟩
  obtain ⟨J, hJ⟩ : ∃ J, v.aj i = J := ⟨_, rfl⟩
  obtain ⟨E, hE⟩ : ∃ E, v.putE i = E := ⟨_, rfl⟩
  obtain ⟨L, hL⟩ : ∃ L, v.putL c l i x = L := ⟨_, rfl⟩
  obtain ⟨X, hX⟩ : ∃ X, x.toNat = X := ⟨_, rfl⟩
  have HE := Lib.hid hE
  have HL := Lib.hid hL
  have HI := Lib.hid hI
  have HJ := Lib.hid hJ
  rw [hE, hL, hX]
  rw [hI, hJ] at pa ps
  rw [hX] at ps
  clear hE hL hI hJ hX hv h
  cases hz : (v.p == none)
  · rw [hz] at pn
    cases hh : v.vec
    · rw [hh] at pv
      have e : E = 8 := by rw [← HE.out]; unfold Vu.putE; rw [hz, hh]; rfl
      have e2 : L = l := by rw [← HL.out]; unfold Vu.putL; rw [hz, hh]; rfl
      subst e e2
      clear HE HL HI HJ hz hh
      obtain ⟨p, f0, f1, d0, d1, r0, r1, R, C⟩ := v
      go_enter Try.func70, Try.ntmps70
      go_wp2_with fail
      with_reducible refine (pn _).mono ?_
      rintro e w1 ⟨rfl, hb⟩
      replace DB := DB.on hb
      replace hs1 := hs1.on hb
      obtain ⟨c0, c1, c2, c3, c4, c5, c6, c7, c8⟩ := Vbx.cells DB
      go_wp2_with fail
      with_reducible refine (pv _).mono ?_
      rintro e w2 ⟨rfl, hb2⟩
      replace hs1 := hs1.on hb2
      go_wp2_with fail
      go_ret
      exact ⟨rfl, hs1, grown_below (below_step (hb.trans (hb2.mono hb.size))) _⟩
    · rw [hh] at pv
      have e : E = v.setE I J := by rw [← HE.out, ← HI.out, ← HJ.out]; unfold Vu.putE; rw [hz, hh]; rfl
      have e2 : L = v.setL c l I J x := by rw [← HL.out, ← HI.out, ← HJ.out]; unfold Vu.putL; rw [hz, hh]; rfl
      rw [← e, ← e2] at ps
      clear HE HL HI HJ hz hh e e2
      obtain ⟨p, f0, f1, d0, d1, r0, r1, R, C⟩ := v
      go_enter Try.func70, Try.ntmps70
      go_wp2_with fail
      with_reducible refine (pn _).mono ?_
      rintro e w1 ⟨rfl, hb⟩
      replace DB := DB.on hb
      replace hs1 := hs1.on hb
      replace bw := bw.trans (hb.mono (by simp))
      obtain ⟨c0, c1, c2, c3, c4, c5, c6, c7, c8⟩ := Vbx.cells DB
      go_wp2_with fail
      with_reducible refine (pv _).mono ?_
      rintro e w2 ⟨rfl, hb2⟩
      clear c0 c1 c2 c3 c4 c5 c6 c7 c8
      replace bw := bw.trans (hb2.mono (by have := hb.size; simp at this; omega))
      replace hs1 := hs1.on hb2
      replace DB := DB.on hb2
      obtain ⟨c0, c1, c2, c3, c4, c5, c6, c7, c8⟩ := Vbx.cells DB
      go_wp2_with fail
      with_reducible refine (pa _).mono ?_
      rintro e w3 ⟨rfl, hb3⟩
      clear c0 c1 c2 c3 c4 c5 c6 c7 c8
      replace bw := bw.trans (hb3.mono bw.size)
      replace hs1 := hs1.on hb3
      replace DB := DB.on hb3
      obtain ⟨c0, c1, c2, c3, c4, c5, c6, c7, c8⟩ := Vbx.cells DB
      go_wp2_with fail
      with_reducible refine (ps _ hs1).mono ?_
      rintro e w4 ⟨rfl, hs4, hg4⟩
      go_wp2_with fail
      go_ret
      exact ⟨rfl, hs4, ⟨hg4.os.trans bw.os, hg4.tape.trans bw.tape, hg4.output.trans bw.output, Nat.le_trans bw.size hg4.size, fun j hj hne => (hg4.block j (Nat.lt_of_lt_of_le hj bw.size) hne).trans (bw.block j hj)⟩⟩
  · rw [hz] at pn
    have e : E = v.setE I J := by rw [← HE.out, ← HI.out, ← HJ.out]; unfold Vu.putE; rw [hz]; rfl
    have e2 : L = v.setL c l I J x := by rw [← HL.out, ← HI.out, ← HJ.out]; unfold Vu.putL; rw [hz]; rfl
    rw [← e, ← e2] at ps
    clear HE HL HI HJ hz e e2
    obtain ⟨p, f0, f1, d0, d1, r0, r1, R, C⟩ := v
    go_enter Try.func70, Try.ntmps70
    go_wp2_with fail
    with_reducible refine (pn _).mono ?_
    rintro e w1 ⟨rfl, hb⟩
    replace bw := bw.trans (hb.mono (by simp))
    replace DB := DB.on hb
    replace hs1 := hs1.on hb
    obtain ⟨c0, c1, c2, c3, c4, c5, c6, c7, c8⟩ := Vbx.cells DB
    go_wp2_with fail
    with_reducible refine (pa _).mono ?_
    rintro e w3 ⟨rfl, hb3⟩
    clear c0 c1 c2 c3 c4 c5 c6 c7 c8
    replace bw := bw.trans (hb3.mono bw.size)
    replace hs1 := hs1.on hb3
    replace DB := DB.on hb3
    obtain ⟨c0, c1, c2, c3, c4, c5, c6, c7, c8⟩ := Vbx.cells DB
    go_wp2_with fail
    with_reducible refine (ps _ hs1).mono ?_
    rintro e w4 ⟨rfl, hs4, hg4⟩
    go_wp2_with fail
    go_ret
    exact ⟨rfl, hs4, ⟨hg4.os.trans bw.os, hg4.tape.trans bw.tape, hg4.output.trans bw.output, Nat.le_trans bw.size hg4.size, fun j hj hne => (hg4.block j (Nat.lt_of_lt_of_le hj bw.size) hne).trans (bw.block j hj)⟩⟩
end
end Go.Proofs.Ytfelmkkkaphkpaa
