/-
  Layer 7, walks: the reference's T and Part of any view. (Written by wip/tools/gen_vxh.py.)
-/
import Derived.Test.YtceoefgjjekgaaaVxG
namespace Go.Proofs.Ytceoefgjjekgaaa
open Go.RowKit Go.Bw Go.Sort Go.Shelf
set_option linter.unusedVariables false
set_option linter.unusedSimpArgs false

section
variable {w : World} {A : Option Addr} {n cd c s : Nat} {r : Ru} {v : Vu} {K : Int} {B : Nat} {l : List Int}
set_option maxHeartbeats 2000000 in
theorem rT_no (h : Rk w A n cd r v c) (hb : r.b = false) : Calls Try.prog 62 #[r.V] w (NewR w A n cd v.turnO c) := by
  have hp : (v.p == none) = true := by have := h.b; rw [hb] at this; simpa using this
  have e : v.turnO = Vu.zero := by unfold Vu.turnO; rw [if_pos hp]
  rw [e, h.zero hb]
  clear h hb hp e
  have DR := ((Blk.new w Ru.zero.L 51).alloc (.cells Ru.zero.L.toArray 51)).alloc (.cells Ru.zero.L.toArray 51)
  have DZ := (Blk.new (w.alloc (.cells Ru.zero.L.toArray 51)) Ru.zero.L 51).alloc (.cells Ru.zero.L.toArray 51)
  have DO := Blk.new ((w.alloc (.cells Ru.zero.L.toArray 51)).alloc (.cells Ru.zero.L.toArray 51)) Ru.zero.L 51
  rw [World.size_alloc] at DZ
  rw [World.size_alloc, World.size_alloc] at DO
  have bw := (((Below.refl _ w).alloc (Nat.le_refl _) (.cells Ru.zero.L.toArray 51)).alloc (by simp) (.cells Ru.zero.L.toArray 51)).alloc (by simp; omega) (.cells Ru.zero.L.toArray 51)
  obtain ⟨k0, k1, k2, k3, k4⟩ := Rbx.cells DR
  go_enter Try.func62, Try.ntmps62
  go_wp2_with fail
  clear k0 k1 k2 k3 k4
  go_loopw [4] (fun i wr => i = .int .i64 0 ∧ Rbx wr w.heap.size Ru.zero ∧ Rbx wr (w.heap.size + 1) Ru.zero ∧ Rbx wr (w.heap.size + 2) Ru.zero ∧ Below w.heap.size w wr) (fun i _ => 0)
  case atStart => exact ⟨rfl, DR, DZ, DO, bw⟩
  case round =>
    clear DR DZ DO bw
    obtain ⟨rfl, DR, DZ, DO, bw⟩ := hrel
    obtain ⟨k0, k1, k2, k3, k4⟩ := Rbx.cells DR
    obtain ⟨o0, o1, o2, o3, o4⟩ := Rbx.cells DO
    obtain ⟨z0, z1, z2, z3, z4⟩ := Rbx.cells DZ
    obtain ⟨y0, y1, y2, y3, y4⟩ := Rbx.free DZ
    go_wp2_with fail
    refine bodyPost_ret (v := Ru.zero.V) (by simp [results, Try.results62, go_sem, z0, z1, z2, z3, z4, y0, y1, y2, y3, y4]) rfl ?_
    exact ⟨Ru.zero, rfl, Rk.zero_ _ _ _ _ _, by go_grown, fun a2 e2 => by simp at e2⟩
theorem rT_any (h : Rk w A n cd r v c) (hs : Sr w B A n cd l) (hv : Vk v s c n K) : Calls Try.prog 62 #[r.V] w (NewR w A n cd v.turnO c) := by
  cases hb : r.b
  · exact rT_no h hb
  · exact rT_yes h hs hv hb

set_option maxRecDepth 100000 in
set_option maxHeartbeats 4000000 in
theorem rPart_no (h : Rk w A n cd r v c) (hv : Vk v s c n K) {i j m p : Int} (hi : i ≤ 9223372036854775807) (hj : j ≤ 9223372036854775807) (hno : r.b = false ∨ ¬ (withinB i m v.R = true ∧ withinB j p v.C = true)) :
    Calls Try.prog 65 #[r.V, .int .i64 i, .int .i64 j, .int .i64 m, .int .i64 p] w (NewR w A n cd (v.partO i j m p) c) := by
  have e : v.partO i j m p = Vu.zero := by
    unfold Vu.partO
    rcases hno with hb | hn
    · have hp : (v.p == none) = true := by have := h.b; rw [hb] at this; simpa using this
      rw [if_pos hp]
    · split
      · rfl
      · rw [if_neg (by simpa using hn)]
  rw [e]
  clear e
  have DZ := Blk.new (w.alloc (.cells r.L.toArray 51)) Ru.zero.L 51
  have DR := (Blk.new w r.L 51).alloc (.cells Ru.zero.L.toArray 51)
  rw [World.size_alloc] at DZ
  have hRC := And.intro hv.bd.R hv.bd.C
  rw [← h.R, ← h.C] at hRC hno
  obtain ⟨⟨R0, R1⟩, C0, C1⟩ := hRC
  clear h hv
  obtain ⟨A', n', c', R, C, A2, n2, c2, b⟩ := r
  simp only at R0 R1 C0 C1 hno
  obtain ⟨k0, k1, k2, k3, k4⟩ := Rbx.cells DR
  obtain ⟨z0, z1, z2, z3, z4⟩ := Rbx.cells DZ
  obtain ⟨y0, y1, y2, y3, y4⟩ := Rbx.free DZ
  clear DR DZ
  cases b
  · clear hno
    go_enter Try.func65, Try.ntmps65
    go_wp2_with fail
    refine bodyPost_ret (v := Ru.zero.V) (by simp [results, Try.results65, go_sem, z0, z1, z2, z3, z4, y0, y1, y2, y3, y4]) rfl ?_
    exact ⟨Ru.zero, rfl, Rk.zero_ _ _ _ _ _, by go_grown, fun a2 e2 => by simp at e2⟩
  · have HNO : Hid (¬ (withinB i m R = true ∧ withinB j p C = true)) := Lib.hid (by rcases hno with h | h; cases h; exact h)
    clear hno
    by_cases g0 : i < 0
    · go_enter Try.func65, Try.ntmps65
      go_wp2_with fail
      refine bodyPost_ret (v := Ru.zero.V) (by simp [results, Try.results65, go_sem, z0, z1, z2, z3, z4, y0, y1, y2, y3, y4]) rfl ?_
      exact ⟨Ru.zero, rfl, Rk.zero_ _ _ _ _ _, by go_grown, fun a2 e2 => by simp at e2⟩
    · by_cases g1 : j < 0
      · go_enter Try.func65, Try.ntmps65
        go_wp2_with fail
        refine bodyPost_ret (v := Ru.zero.V) (by simp [results, Try.results65, go_sem, z0, z1, z2, z3, z4, y0, y1, y2, y3, y4]) rfl ?_
        exact ⟨Ru.zero, rfl, Rk.zero_ _ _ _ _ _, by go_grown, fun a2 e2 => by simp at e2⟩
      · by_cases g2 : m < 0
        · go_enter Try.func65, Try.ntmps65
          go_wp2_with fail
          refine bodyPost_ret (v := Ru.zero.V) (by simp [results, Try.results65, go_sem, z0, z1, z2, z3, z4, y0, y1, y2, y3, y4]) rfl ?_
          exact ⟨Ru.zero, rfl, Rk.zero_ _ _ _ _ _, by go_grown, fun a2 e2 => by simp at e2⟩
        · by_cases g3 : p < 0
          · go_enter Try.func65, Try.ntmps65
            go_wp2_with fail
            refine bodyPost_ret (v := Ru.zero.V) (by simp [results, Try.results65, go_sem, z0, z1, z2, z3, z4, y0, y1, y2, y3, y4]) rfl ?_
            exact ⟨Ru.zero, rfl, Rk.zero_ _ _ _ _ _, by go_grown, fun a2 e2 => by simp at e2⟩
          · by_cases g4 : R < i
            · go_enter Try.func65, Try.ntmps65
              go_wp2_with fail
              refine bodyPost_ret (v := Ru.zero.V) (by simp [results, Try.results65, go_sem, z0, z1, z2, z3, z4, y0, y1, y2, y3, y4]) rfl ?_
              exact ⟨Ru.zero, rfl, Rk.zero_ _ _ _ _ _, by go_grown, fun a2 e2 => by simp at e2⟩
            · by_cases g5 : C < j
              · go_enter Try.func65, Try.ntmps65
                go_wp2_with fail
                refine bodyPost_ret (v := Ru.zero.V) (by simp [results, Try.results65, go_sem, z0, z1, z2, z3, z4, y0, y1, y2, y3, y4]) rfl ?_
                exact ⟨Ru.zero, rfl, Rk.zero_ _ _ _ _ _, by go_grown, fun a2 e2 => by simp at e2⟩
              · by_cases g6 : R - i < m
                · go_enter Try.func65, Try.ntmps65
                  go_wp2_with fail
                  refine bodyPost_ret (v := Ru.zero.V) (by simp [results, Try.results65, go_sem, z0, z1, z2, z3, z4, y0, y1, y2, y3, y4]) rfl ?_
                  exact ⟨Ru.zero, rfl, Rk.zero_ _ _ _ _ _, by go_grown, fun a2 e2 => by simp at e2⟩
                · by_cases g7 : C - j < p
                  · go_enter Try.func65, Try.ntmps65
                    go_wp2_with fail
                    refine bodyPost_ret (v := Ru.zero.V) (by simp [results, Try.results65, go_sem, z0, z1, z2, z3, z4, y0, y1, y2, y3, y4]) rfl ?_
                    exact ⟨Ru.zero, rfl, Rk.zero_ _ _ _ _ _, by go_grown, fun a2 e2 => by simp at e2⟩
                  · exact absurd (show withinB i m R = true ∧ withinB j p C = true from ⟨decide_eq_true (by omega), decide_eq_true (by omega)⟩) HNO.out
theorem rPart_any (h : Rk w A n cd r v c) (hs : Sr w B A n cd l) (hv : Vk v s c n K) {i j m p : Int} (hi : i ≤ 9223372036854775807) (hj : j ≤ 9223372036854775807) :
    Calls Try.prog 65 #[r.V, .int .i64 i, .int .i64 j, .int .i64 m, .int .i64 p] w (NewR w A n cd (v.partO i j m p) c) := by
  by_cases hy : r.b = true ∧ withinB i m v.R = true ∧ withinB j p v.C = true
  · obtain ⟨hb, h1, h2⟩ := hy
    have h1' := of_decide_eq_true h1
    have h2' := of_decide_eq_true h2
    obtain ⟨i0, rfl⟩ := Int.eq_ofNat_of_zero_le h1'.1
    obtain ⟨j0, rfl⟩ := Int.eq_ofNat_of_zero_le h2'.1
    obtain ⟨m0, rfl⟩ := Int.eq_ofNat_of_zero_le h1'.2.1
    obtain ⟨p0, rfl⟩ := Int.eq_ofNat_of_zero_le h2'.2.1
    exact rPart_yes h hs hv hb (by omega) (by omega)
  · refine rPart_no h hv hi hj ?_
    cases hb : r.b
    · exact .inl rfl
    · exact .inr (fun g => hy ⟨hb, g⟩)
end
end Go.Proofs.Ytceoefgjjekgaaa
