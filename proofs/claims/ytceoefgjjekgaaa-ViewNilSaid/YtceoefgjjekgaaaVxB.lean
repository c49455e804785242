/-
  Layer 7, walks: the reference's Set.
-/
import Derived.Test.YtceoefgjjekgaaaVxA
namespace Go.Proofs.Ytceoefgjjekgaaa
open Go.RowKit Go.Bw Go.Sort Go.Shelf
set_option linter.unusedVariables false
set_option linter.unusedSimpArgs false
attribute [local go_sem] run_store_float

/-- the call answers code and writes the reference's store -/
def WroteR (w : World) (B : Nat) (A : Option Addr) (n cd : Nat) (code : Int) (l : List Int) (e : Ending) (w' : World) : Prop :=
  e = .returned (.int .i64 code) ∧ Sr w' B A n cd l ∧ w.grownBy w' (A.map (·.block))
/-- the views stay where a store is written -/
theorem Rk.wrote {w w' : World} {A : Option Addr} {n cd : Nat} {r : Ru} {v : Vu} {c : Nat} (h : Rk w A n cd r v c) (hg : w.grownBy w' (A.map (·.block))) : Rk w' A n cd r v c :=
  h.far_ hg (fun a2 e => by
    cases A with
    | none => simp
    | some a => have := h.far a a2 rfl e; simpa using this)

section
variable {w : World} {A : Option Addr} {n cd c s : Nat} {r : Ru} {v : Vu} {K : Int} {B : Nat} {l : List Int}
set_option maxHeartbeats 2000000 in
theorem rSet_any (h : Rk w A n cd r v c) (hs : Sr w B A n cd l) (hv : Vk v s c n K) (i j : Int) {x : Int} (x0 : 0 ≤ x) (x1 : x ≤ 18446744073709551615) :
    Calls Try.prog 39 #[r.V, .int .i64 i, .int .i64 j, .float .f64 x.toNat] w (WroteR w B A n cd (v.setE i j) (v.setL c l i j x)) := by
  have bw := (Below.refl _ w).alloc (Nat.le_refl _) (.cells r.L.toArray 51)
  have DB := Blk.new w r.L 51
  have hs1 := hs.on bw
  cases hz : (v.p == none)
  · have hb : r.b = true := by rw [h.b, hz]; rfl
    have pp := rPlace_any (h.on bw) hv i j
    cases hh : v.has i j
    · have e : v.setE i j = 2 := by unfold Vu.setE; rw [hz, hh]; rfl
      have e2 : v.setL c l i j x = l := by unfold Vu.setL; rw [hh]; rfl
      have e3 : v.plc c i j = -1 := by unfold Vu.plc; rw [hh]; rfl
      rw [e, e2]
      rw [e3] at pp
      clear e e2 e3 hh hz h hs hv
      obtain ⟨A', n', c', R, C, A2, n2, c2, b⟩ := r
      simp only at hb
      subst hb
      obtain ⟨k0, k1, k2, k3, k4⟩ := Rbx.cells DB
      go_enter Try.func39, Try.ntmps39
      go_wp2_with fail
      with_reducible refine pp.mono ?_
      rintro e w1 ⟨rfl, hb⟩
      replace hs1 := hs1.on hb
      go_wp2_with fail
      go_ret
      exact ⟨rfl, hs1, grown_below (below_step hb) _⟩
    · obtain ⟨k, hk, hl, _⟩ := hv.ins i j hh
      have e : v.setE i j = 0 := by unfold Vu.setE; rw [hz, hh]; rfl
      have e2 : v.setL c l i j x = l.set k x := by unfold Vu.setL; rw [hh, hk]; rfl
      have e3 : v.plc c i j = k := by unfold Vu.plc; rw [hh]; exact hk
      obtain ⟨d1, d2, d3⟩ := h.data hb
      rw [e, e2]
      rw [e3] at pp
      have hmx := hs.fl.max
      obtain ⟨g, hA, hgB, hgl⟩ := hs.own.form (by rw [hs.len]; omega)
      clear e e2 e3 hh hz h hs hv hk
      obtain ⟨A', n', c', R, C, A2, n2, c2, b⟩ := r
      simp only at d1 d2 d3 hb
      subst hA d1 d2 d3 hb
      obtain ⟨k0, k1, k2, k3, k4⟩ := Rbx.cells DB
      go_enter Try.func39, Try.ntmps39
      go_wp2_with fail
      with_reducible refine pp.mono ?_
      rintro e w1 ⟨rfl, hb⟩
      replace hs1 := hs1.on hb
      replace DB := DB.on hb
      clear k0 k1 k2 k3 k4
      obtain ⟨k0, k1, k2, k3, k4⟩ := Rbx.cells DB
      obtain ⟨g', hgg, hc, hf⟩ := hs1.own.at_ (k := k) (by rw [hs1.len]; exact hl)
      cases hgg
      have bw2 := below_step hb
      clear hb
      go_wp2_with fail
      go_ret
      exact ⟨rfl, ⟨hs1.own.set_ k x, by rw [List.length_set]; exact hs1.len, wd_set hs1.wd x0 x1 k⟩, set_grown bw2 hgl _ _⟩
  · have hb : r.b = false := by rw [h.b, hz]; rfl
    have hp : v = Vu.zero := by
      have : v.p = none := by simpa using hz
      exact Vk.none_ hv this
    have e : v.setE i j = 1 := by unfold Vu.setE; rw [hz]; rfl
    have e2 : v.setL c l i j x = l := by unfold Vu.setL; rw [hp, Vu.has_zero]; rfl
    rw [e, e2]
    clear e e2 hz hp hv h hs
    obtain ⟨A', n', c', R, C, A2, n2, c2, b⟩ := r
    simp only at hb
    subst hb
    obtain ⟨k0, k1, k2, k3, k4⟩ := Rbx.cells DB
    go_enter Try.func39, Try.ntmps39
    go_wp2_with fail
    go_ret
    exact ⟨rfl, hs1, grown_below bw _⟩
end
end Go.Proofs.Ytceoefgjjekgaaa
