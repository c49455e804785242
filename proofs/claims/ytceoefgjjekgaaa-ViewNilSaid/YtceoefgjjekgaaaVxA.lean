/-
  Layer 7, walks: the reference's Place, Get.
-/
import Derived.Test.YtceoefgjjekgaaaVwZ
namespace Go.Proofs.Ytceoefgjjekgaaa
open Go.RowKit Go.Bw Go.Sort Go.Shelf
set_option linter.unusedVariables false
set_option linter.unusedSimpArgs false

/-- the place of i, j; -1: there is none -/
def Vu.plc (v : Vu) (c : Nat) (i j : Int) : Int := if v.has i j then v.ix c i j else -1

section
variable {w : World} {A : Option Addr} {n cd c s N : Nat} {r : Ru} {v : Vu} {K : Int} {B : Nat} {l : List Int}
set_option maxHeartbeats 1000000 in
theorem rPlace_any (h : Rk w A n cd r v c) (hv : Vk v s c N K) (i j : Int) :
    Calls Try.prog 67 #[r.V, .int .i64 i, .int .i64 j] w (Ans w (.int .i64 (v.plc c i j))) := by
  have hR := h.R
  have hC := h.C
  obtain ⟨⟨R0, R1⟩, C0, C1⟩ := And.intro hv.bd.R hv.bd.C
  have DB := Blk.new w r.L 51
  have bw := (Below.refl _ w).alloc (Nat.le_refl _) (.cells r.L.toArray 51)
  have hn := (h.on bw).num
  have hn2 := h.n2
  rw [ats_length] at hn2
  have no : v.has i j = false → v.plc c i j = -1 := fun e => by unfold Vu.plc; rw [e]; rfl
  by_cases c1 : i < 0
  · rw [no (decide_eq_false (by omega))]
    clear hn hn2 h no hv hR hC R0 R1 C0 C1
    obtain ⟨A, n, c, R, C, A2, n2, c2, b⟩ := r
    obtain ⟨k0, k1, k2, k3, k4⟩ := Rbx.cells DB
    clear DB
    go_enter Try.func67, Try.ntmps67
    go_wp2_with fail
    go_ret
    exact ⟨rfl, bw⟩
  · by_cases c2 : v.R ≤ i
    · rw [no (decide_eq_false (by omega))]
      rw [← hR] at c2
      clear hn hn2 h no hv hR hC R0 R1 C0 C1
      obtain ⟨A, n, c, R, C, A2, n2, c2, b⟩ := r
      obtain ⟨k0, k1, k2, k3, k4⟩ := Rbx.cells DB
      clear DB
      go_enter Try.func67, Try.ntmps67
      go_wp2_with fail
      go_ret
      exact ⟨rfl, bw⟩
    · by_cases c3 : j < 0
      · rw [no (decide_eq_false (by omega))]
        rw [← hR] at c2
        clear hn hn2 h no hv hR hC R0 R1 C0 C1
        obtain ⟨A, n, c, R, C, A2, n2, c2, b⟩ := r
        obtain ⟨k0, k1, k2, k3, k4⟩ := Rbx.cells DB
        clear DB
        go_enter Try.func67, Try.ntmps67
        go_wp2_with fail
        go_ret
        exact ⟨rfl, bw⟩
      · by_cases c4 : v.C ≤ j
        · rw [no (decide_eq_false (by omega))]
          rw [← hR] at c2
          rw [← hC] at c4
          clear hn hn2 h no hv hR hC R0 R1 C0 C1
          obtain ⟨A, n, c, R, C, A2, n2, c2, b⟩ := r
          obtain ⟨k0, k1, k2, k3, k4⟩ := Rbx.cells DB
          clear DB
          go_enter Try.func67, Try.ntmps67
          go_wp2_with fail
          go_ret
          exact ⟨rfl, bw⟩
        · obtain ⟨a, rfl⟩ : ∃ a : Nat, i = (a : Int) := ⟨i.toNat, by omega⟩
          obtain ⟨b, rfl⟩ : ∃ b : Nat, j = (b : Int) := ⟨j.toNat, by omega⟩
          obtain ⟨hlt, hD⟩ := ats_at c R0 C0 (i := a) (j := b) (by omega) (by omega)
          have hyes : v.has a b = true := decide_eq_true (by omega)
          have e : v.plc c a b = v.ix c a b := by unfold Vu.plc; rw [hyes]; rfl
          rw [e, ← hD]
          obtain ⟨ad, hA2, hbl, hc⟩ := hn.at_ (k := a * v.C.toNat + b) (by rw [ats_length]; exact hlt)
          obtain ⟨X, hX⟩ : ∃ X, D (v.ats c) (a * v.C.toNat + b) = X := ⟨_, rfl⟩
          rw [hX] at hc ⊢
          have hP0 : 0 ≤ (a : Int) * r.C := Int.mul_nonneg (by omega) (by omega)
          have hP1 : (a : Int) * r.C ≤ 512 * 512 := Int.mul_le_mul (by omega) (by omega) (by omega) (by omega)
          obtain ⟨k, hk⟩ : ∃ k : Nat, a * v.C.toNat + b = k := ⟨_, rfl⟩
          have hPk : (a : Int) * r.C + b = (k : Int) := by
            rw [← hk, hC]
            have : ((v.C.toNat : Nat) : Int) = v.C := by omega
            rw [Int.natCast_add, Int.natCast_mul, this]
          have hkn : k < r.n2 := by rw [hn2, ← hk]; exact hlt
          rw [hk] at hc
          have g2 : (a : Int) < r.R := by omega
          have g4 : (b : Int) < r.C := by omega
          have hkb : (k : Int) ≤ 9223372036854775807 := by omega
          have hk0 : (0 : Int) ≤ k := by omega
          have hkn' : (k : Int) < r.n2 := by omega
          clear hn hn2 h no hv hR hC hD hX hk hlt e hyes R0 R1 C0 C1 c1 c2 c3 c4
          obtain ⟨A, n, c, R, C, A2, n2, c2, bb⟩ := r
          simp only at hA2 hP0 hP1 hPk hkn hkn' g2 g4
          obtain ⟨P, hP⟩ : ∃ P, (a : Int) * C = P := ⟨_, rfl⟩
          rw [hP] at hP0 hP1 hPk
          subst hA2
          obtain ⟨k0, k1, k2, k3, k4⟩ := Rbx.cells DB
          clear DB
          go_enter Try.func67, Try.ntmps67
          go_wp2_with fail
          go_ret
          exact ⟨rfl, bw⟩

set_option maxHeartbeats 1000000 in
theorem rGet_any (h : Rk w A n cd r v c) (hs : Sr w B A n cd l) (hv : Vk v s c n K) (i j : Int) :
    Calls Try.prog 33 #[r.V, .int .i64 i, .int .i64 j] w (Ans w (.float .f64 (v.at_ c l i j).toNat)) := by
  have bw := (Below.refl _ w).alloc (Nat.le_refl _) (.cells r.L.toArray 51)
  have DB := Blk.new w r.L 51
  have pp := rPlace_any (h.on bw) hv i j
  cases hh : v.has i j
  · have e : v.plc c i j = -1 := by unfold Vu.plc; rw [hh]; rfl
    have e2 : v.at_ c l i j = 0 := by unfold Vu.at_; rw [hh]; rfl
    rw [e] at pp
    rw [e2]
    clear e e2 hh h hs hv
    obtain ⟨A, n, c, R, C, A2, n2, c2, b⟩ := r
    go_enter Try.func33, Try.ntmps33
    go_wp2_with fail
    with_reducible refine pp.mono ?_
    rintro e w1 ⟨rfl, hb⟩
    go_wp2_with fail
    go_ret
    exact ⟨rfl, below_step hb⟩
  · obtain ⟨k, hk, hl, _⟩ := hv.ins i j hh
    have e : v.plc c i j = k := by unfold Vu.plc; rw [hh]; exact hk
    have e2 : v.at_ c l i j = D l k := by unfold Vu.at_; rw [hh, hk]; rfl
    have hb : r.b = true := by
      rw [h.b]
      cases hz : (v.p == none)
      · rfl
      · have : v.p = none := by simpa using hz
        rw [Vk.none_ hv this, Vu.has_zero] at hh; cases hh
    obtain ⟨d1, d2, d3⟩ := h.data hb
    rw [e] at pp
    rw [e2]
    replace hs := hs.on bw
    have hmx := hs.fl.max
    clear e e2 hh h hv hk
    obtain ⟨A', n', c', R, C, A2, n2, c2, b⟩ := r
    simp only at d1 d2 d3 hb
    subst d1 d2 d3 hb
    obtain ⟨X, hX⟩ : ∃ X, D l k = X := ⟨_, rfl⟩
    rw [hX]
    go_enter Try.func33, Try.ntmps33
    go_wp2_with fail
    with_reducible refine pp.mono ?_
    rintro e w1 ⟨rfl, hb1⟩
    replace hs := hs.on hb1
    replace DB := DB.on hb1
    obtain ⟨ad, rfl, hbl, hc⟩ := hs.fl.at_ hl
    rw [hX] at hc
    clear hX hs
    obtain ⟨k0, k1, k2, k3, k4⟩ := Rbx.cells DB
    clear DB
    go_wp2_with fail
    go_ret
    exact ⟨rfl, below_step hb1⟩
end
end Go.Proofs.Ytceoefgjjekgaaa
