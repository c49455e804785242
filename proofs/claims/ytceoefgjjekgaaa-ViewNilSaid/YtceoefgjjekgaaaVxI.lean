/-
  Layer 7, walks: the reference's Row, Col. (Written by wip/tools/gen_vxi.py.)
-/
import Derived.Test.YtceoefgjjekgaaaVxH
namespace Go.Proofs.Ytceoefgjjekgaaa
open Go.RowKit Go.Bw Go.Sort Go.Shelf
set_option linter.unusedVariables false
set_option linter.unusedSimpArgs false

section
variable {w : World} {A : Option Addr} {n cd c s : Nat} {r : Ru} {v : Vu} {K : Int} {B : Nat} {l : List Int}
set_option maxRecDepth 100000 in
set_option maxHeartbeats 4000000 in
theorem rRow_any (h : Rk w A n cd r v c) (hs : Sr w B A n cd l) (hv : Vk v s c n K) {i : Int} (hi : i ≤ 9223372036854775807) :
    Calls Try.prog 63 #[r.V, .int .i64 i] w (NewR w A n cd (v.partO i 0 1 v.C) c) := by
  have hRC := And.intro hv.bd.R hv.bd.C
  have no : (i < 0 ∨ v.R ≤ i) → v.partO i 0 1 v.C = Vu.zero := fun g => by
    unfold Vu.partO
    have hw : withinB i 1 v.R = false := decide_eq_false (by omega)
    split
    · rfl
    · rw [hw]; simp
  have DZ := Blk.new (w.alloc (.cells r.L.toArray 51)) Ru.zero.L 51
  have DR := (Blk.new w r.L 51).alloc (.cells Ru.zero.L.toArray 51)
  rw [World.size_alloc] at DZ
  have bw := ((Below.refl _ w).alloc (Nat.le_refl _) (.cells r.L.toArray 51)).alloc (by simp) (.cells Ru.zero.L.toArray 51)
  have pp : Calls Try.prog 65 #[r.V, .int .i64 i, .int .i64 0, .int .i64 1, .int .i64 v.C] _ (NewR _ A n cd (v.partO i 0 1 v.C) c) := rPart_any (h.on bw) (hs.on bw) hv (by omega) (by omega)
  have hsz : ((w.alloc (.cells r.L.toArray 51)).alloc (.cells Ru.zero.L.toArray 51)).heap.size = w.heap.size + 2 := by simp
  rw [← h.R, ← h.C] at hRC
  have hG := h.R
  have hVR := Lib.hid h.R
  have hVC := Lib.hid h.C
  rw [← hG, ← hVC.out] at no
  rw [← hVC.out] at pp ⊢
  clear h hs hv hG
  obtain ⟨V2, hV2⟩ : ∃ V2, v.partO i 0 1 r.C = V2 := ⟨_, rfl⟩
  rw [hV2] at pp no ⊢
  clear hV2
  obtain ⟨A', n', c', R, C, A2, n2, c2, b⟩ := r
  obtain ⟨⟨R0, R1⟩, C0, C1⟩ := hRC
  simp only at R0 R1 C0 C1 no pp
  obtain ⟨k0, k1, k2, k3, k4⟩ := Rbx.cells DR
  obtain ⟨z0, z1, z2, z3, z4⟩ := Rbx.cells DZ
  obtain ⟨y0, y1, y2, y3, y4⟩ := Rbx.free DZ
  by_cases g0 : i < 0
  · rw [no (.inl g0)]
    clear no pp bw hsz
    go_enter Try.func63, Try.ntmps63
    go_wp2_with fail
    refine bodyPost_ret (v := Ru.zero.V) (by simp [results, Try.results63, go_sem, z0, z1, z2, z3, z4, y0, y1, y2, y3, y4]) rfl ?_
    exact ⟨Ru.zero, rfl, Rk.zero_ _ _ _ _ _, by go_grown, fun a2 e2 => by simp at e2⟩
  · by_cases g1 : R ≤ i
    · rw [no (.inr g1)]
      clear no pp bw hsz
      go_enter Try.func63, Try.ntmps63
      go_wp2_with fail
      refine bodyPost_ret (v := Ru.zero.V) (by simp [results, Try.results63, go_sem, z0, z1, z2, z3, z4, y0, y1, y2, y3, y4]) rfl ?_
      exact ⟨Ru.zero, rfl, Rk.zero_ _ _ _ _ _, by go_grown, fun a2 e2 => by simp at e2⟩
    · clear no
      go_enter Try.func63, Try.ntmps63
      go_wp2_with fail
      with_reducible refine pp.mono ?_
      rintro e w2 ⟨r2, rfl, hr2, hb, hnew⟩
      replace DZ := DZ.on hb
      replace bw := bw.trans (hb.mono (by omega))
      clear k0 k1 k2 k3 k4 z0 z1 z2 z3 z4 y0 y1 y2 y3 y4 hb
      obtain ⟨A4, n4, c4, R4, C4, A5, n5, c5, b4⟩ := r2
      obtain ⟨z0, z1, z2, z3, z4⟩ := Rbx.cells DZ
      obtain ⟨y0, y1, y2, y3, y4⟩ := Rbx.free DZ
      go_wp2_with fail
      refine bodyPost_ret (v := Ru.V ⟨A4, n4, c4, R4, C4, A5, n5, c5, b4⟩) (by simp [results, Try.results63, go_sem, z0, z1, z2, z3, z4, y0, y1, y2, y3, y4]) rfl ?_
      have hg := setb_grown (setb_grown (setb_grown (setb_grown (setb_grown (World.grownBy.refl w2 (some (w.heap.size + 1))) 0 (.slice A4 n4 c4)) 1 (.int .i64 R4)) 2 (.int .i64 C4)) 3 (.slice A5 n5 c5)) 4 (.bool b4)
      refine ⟨_, rfl, hr2.far_ hg (fun a e => ?_), by go_grown, fun a2 e2 => by have := hnew a2 e2; omega⟩
      have := hnew a e
      simp
      omega
set_option maxRecDepth 100000 in
set_option maxHeartbeats 4000000 in
theorem rCol_any (h : Rk w A n cd r v c) (hs : Sr w B A n cd l) (hv : Vk v s c n K) {i : Int} (hi : i ≤ 9223372036854775807) :
    Calls Try.prog 64 #[r.V, .int .i64 i] w (NewR w A n cd (v.partO 0 i v.R 1) c) := by
  have hRC := And.intro hv.bd.R hv.bd.C
  have no : (i < 0 ∨ v.C ≤ i) → v.partO 0 i v.R 1 = Vu.zero := fun g => by
    unfold Vu.partO
    have hw : withinB i 1 v.C = false := decide_eq_false (by omega)
    split
    · rfl
    · rw [hw]; simp
  have DZ := Blk.new (w.alloc (.cells r.L.toArray 51)) Ru.zero.L 51
  have DR := (Blk.new w r.L 51).alloc (.cells Ru.zero.L.toArray 51)
  rw [World.size_alloc] at DZ
  have bw := ((Below.refl _ w).alloc (Nat.le_refl _) (.cells r.L.toArray 51)).alloc (by simp) (.cells Ru.zero.L.toArray 51)
  have pp : Calls Try.prog 65 #[r.V, .int .i64 0, .int .i64 i, .int .i64 v.R, .int .i64 1] _ (NewR _ A n cd (v.partO 0 i v.R 1) c) := rPart_any (h.on bw) (hs.on bw) hv (by omega) (by omega)
  have hsz : ((w.alloc (.cells r.L.toArray 51)).alloc (.cells Ru.zero.L.toArray 51)).heap.size = w.heap.size + 2 := by simp
  rw [← h.R, ← h.C] at hRC
  have hG := h.C
  have hVR := Lib.hid h.R
  have hVC := Lib.hid h.C
  rw [← hG, ← hVR.out] at no
  rw [← hVR.out] at pp ⊢
  clear h hs hv hG
  obtain ⟨V2, hV2⟩ : ∃ V2, v.partO 0 i r.R 1 = V2 := ⟨_, rfl⟩
  rw [hV2] at pp no ⊢
  clear hV2
  obtain ⟨A', n', c', R, C, A2, n2, c2, b⟩ := r
  obtain ⟨⟨R0, R1⟩, C0, C1⟩ := hRC
  simp only at R0 R1 C0 C1 no pp
  obtain ⟨k0, k1, k2, k3, k4⟩ := Rbx.cells DR
  obtain ⟨z0, z1, z2, z3, z4⟩ := Rbx.cells DZ
  obtain ⟨y0, y1, y2, y3, y4⟩ := Rbx.free DZ
  by_cases g0 : i < 0
  · rw [no (.inl g0)]
    clear no pp bw hsz
    go_enter Try.func64, Try.ntmps64
    go_wp2_with fail
    refine bodyPost_ret (v := Ru.zero.V) (by simp [results, Try.results64, go_sem, z0, z1, z2, z3, z4, y0, y1, y2, y3, y4]) rfl ?_
    exact ⟨Ru.zero, rfl, Rk.zero_ _ _ _ _ _, by go_grown, fun a2 e2 => by simp at e2⟩
  · by_cases g1 : C ≤ i
    · rw [no (.inr g1)]
      clear no pp bw hsz
      go_enter Try.func64, Try.ntmps64
      go_wp2_with fail
      refine bodyPost_ret (v := Ru.zero.V) (by simp [results, Try.results64, go_sem, z0, z1, z2, z3, z4, y0, y1, y2, y3, y4]) rfl ?_
      exact ⟨Ru.zero, rfl, Rk.zero_ _ _ _ _ _, by go_grown, fun a2 e2 => by simp at e2⟩
    · clear no
      go_enter Try.func64, Try.ntmps64
      go_wp2_with fail
      with_reducible refine pp.mono ?_
      rintro e w2 ⟨r2, rfl, hr2, hb, hnew⟩
      replace DZ := DZ.on hb
      replace bw := bw.trans (hb.mono (by omega))
      clear k0 k1 k2 k3 k4 z0 z1 z2 z3 z4 y0 y1 y2 y3 y4 hb
      obtain ⟨A4, n4, c4, R4, C4, A5, n5, c5, b4⟩ := r2
      obtain ⟨z0, z1, z2, z3, z4⟩ := Rbx.cells DZ
      obtain ⟨y0, y1, y2, y3, y4⟩ := Rbx.free DZ
      go_wp2_with fail
      refine bodyPost_ret (v := Ru.V ⟨A4, n4, c4, R4, C4, A5, n5, c5, b4⟩) (by simp [results, Try.results64, go_sem, z0, z1, z2, z3, z4, y0, y1, y2, y3, y4]) rfl ?_
      have hg := setb_grown (setb_grown (setb_grown (setb_grown (setb_grown (World.grownBy.refl w2 (some (w.heap.size + 1))) 0 (.slice A4 n4 c4)) 1 (.int .i64 R4)) 2 (.int .i64 C4)) 3 (.slice A5 n5 c5)) 4 (.bool b4)
      refine ⟨_, rfl, hr2.far_ hg (fun a e => ?_), by go_grown, fun a2 e2 => by have := hnew a2 e2; omega⟩
      have := hnew a e
      simp
      omega
end
end Go.Proofs.Ytceoefgjjekgaaa
