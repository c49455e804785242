/-
  Layer 8, walks: a view that is read; the program's alike, sized, floats, refused. (Written by wip/tools/gen_knc.py.)
-/
import Derived.Test.YtfelmkkkaphkpaaKnB
import Derived.Test.YtfelmkkkaphkpaaKRgV
namespace Go.Proofs.Ytfelmkkkaphkpaa
open Go.RowKit Go.Bw Go.Sort Go.Shelf
set_option linter.unusedVariables false
set_option linter.unusedSimpArgs false

/-- a view that shows F, in whatever store -/
def Sv (w : World) (v : Vu) (F : List Int) : Prop := ∃ (s c n B g cap : Nat) (K : Int) (l : List Int), Vk v s c n K ∧ (v.p ≠ none → St w B s g cap c l ∧ l.length = n) ∧ v.fl c l = F
section
variable {w w' : World} {v : Vu} {F : List Int}
theorem Sv.on (h : Sv w v F) (hb : Below w.heap.size w w') : Sv w' v F := by
  obtain ⟨s, c, n, B, g, cap, K, l, h1, h2, h3⟩ := h
  exact ⟨s, c, n, B, g, cap, K, l, h1, fun hp => ⟨(h2 hp).1.on hb, (h2 hp).2⟩, h3⟩
theorem Sv.bd (h : Sv w v F) : ∃ K, Bd v K := by
  obtain ⟨s, c, n, B, g, cap, K, l, h1, h2, h3⟩ := h
  exact ⟨K, h1.bd⟩
theorem Sv.R (h : Sv w v F) : 0 ≤ v.R ∧ v.R ≤ 512 := by obtain ⟨K, h⟩ := h.bd; exact h.R
theorem Sv.C (h : Sv w v F) : 0 ≤ v.C ∧ v.C ≤ 512 := by obtain ⟨K, h⟩ := h.bd; exact h.C
theorem Sv.none_ (h : Sv w v F) (hp : v.p = none) : v = Vu.zero := by
  obtain ⟨s, c, n, B, g, cap, K, l, h1, h2, h3⟩ := h
  exact h1.none_ hp
theorem Sv.len (h : Sv w v F) : (F.length : Int) = v.R * v.C := by
  have hR := h.R
  have hC := h.C
  have := (prod_bd hR.1 hR.2 hC.1 hC.2).1
  obtain ⟨s, c, n, B, g, cap, K, l, h1, h2, h3⟩ := h
  rw [← h3, fl_length]
  omega
theorem Sv.wd (h : Sv w v F) : Wd F := by
  obtain ⟨s, c, n, B, g, cap, K, l, h1, h2, h3⟩ := h
  rw [← h3]
  exact wd_fl (fun hp => (h2 hp).1.wd) h1.none_
theorem Sv.of {B s g cap c n : Nat} {K : Int} {l : List Int} (hv : Vk v s c n K) (hs : v.p ≠ none → St w B s g cap c l ∧ l.length = n) : Sv w v (v.fl c l) := ⟨s, c, n, B, g, cap, K, l, hv, hs, rfl⟩
theorem Sv.zero (w : World) : Sv w Vu.zero [] := ⟨0, 0, 0, 0, 0, 0, 1, [], zero_vk 0 0 0 (by omega), fun h => absurd rfl h, fl_zero _ _⟩
theorem svMat (h : Sv w v F) : Calls Try.prog 51 #[v.V] w (MatA w v.R v.C F) := by
  obtain ⟨s, c, n, B, g, cap, K, l, h1, h2, h3⟩ := h
  have := Matrix_any h1 h2
  rwa [h3] at this
theorem svLen (h : Sv w v F) : Calls Try.prog 78 #[v.V] w (Ans w (.int .i64 v.len)) := by
  obtain ⟨K, hb⟩ := h.bd
  exact Len_any hb w
theorem svSame (h : Sv w v F) : Calls Try.prog 55 #[v.V, Vu.zero.V] w (Ans w (.bool (v.p == none))) := by
  have h0 := h
  obtain ⟨s, c, n, B, g, cap, K, l, h1, h2, h3⟩ := h
  have := Same_any (w := w) (B2 := 0) (s2 := 0) (g2 := 0) (cap2 := 0) (c2 := 0) (n2 := 0) (l2 := []) h1 h2 (zero_vk 0 0 0 (K := 1) (by omega)) (fun h => absurd rfl h)
  have e : sameV v c l Vu.zero 0 [] = (v.p == none) := by
    unfold sameV
    by_cases hp : v.p = none
    · have hz := h0.none_ hp
      subst hz
      rw [fl_zero, fl_zero]
      rfl
    · have : (v.p == none) = false := by cases hq : v.p; exact absurd hq hp; rfl
      rw [this]; rfl
  rwa [e] at this
end

/-- are two views vectors of as many places? -/
def alk (v u : Vu) : Bool := v.vec && u.vec && v.len == u.len
/-- has a view so many rows and columns? -/
def szd (v : Vu) (r c : Int) : Bool := v.R == r && v.C == c
section
variable {w : World} {x y : Vu} {X Y : List Int}
set_option maxRecDepth 100000 in
set_option maxHeartbeats 4000000 in
theorem alike_0 (hx : Sv w x X) (hy : Sv w y Y) (h1 : x.vec = false) : Calls Try.prog 62 #[x.V, y.V] w (Ans w (.bool (alk x y))) := by
  have pv := Vector_any x
  have pu := Vector_any y
  have pl := fun W (h : Sv W x X) => svLen h
  have pm := fun W (h : Sv W y Y) => svLen h
  rw [h1] at pv
  have HX := Lib.hid hx
  have HY := Lib.hid hy
  have DX := (Blk.new w x.L 30).alloc (.cells y.L.toArray 30)
  have DY := Blk.new (w.alloc (.cells x.L.toArray 30)) y.L 30
  rw [World.size_alloc] at DY
  have bz := ((Below.refl _ w).alloc (Nat.le_refl _) (.cells x.L.toArray 30)).alloc (by simp) (.cells y.L.toArray 30)
  have HE : Hid (alk x y = false) := Lib.hid (by unfold alk; rw [h1]; rfl)
  clear hx hy h1
  rw [HE.out]
  clear HE
  go_enter Try.func62, Try.ntmps62
  go_wp2_with fail
  replace DX := DX.drew
  replace DY := DY.drew
  replace bz := bz.drew
  refine wp_region_held_drew (S := fun w9 : World => Vbx w9 w.heap.size x ∧ Vbx w9 (w.heap.size + 1) y) (by kernel_rfl) ⟨DX, DY⟩ (fun hS => ?_)
  generalize ((w.alloc (.cells x.L.toArray 30)).alloc (.cells y.L.toArray 30)).drew = wd at hS DX DY  bz ⊢
  refine wpAnyH_take (i := 0) (v := ?v0_1) rfl (by kernel_rfl) (by kernel_rfl) (by kernel_rfl) (fun _ _ _ h => h) (Or.inl ⟨by rfl, ?hy0_1⟩) (by assumption) ?rest0_1
  case hy0_1 => (intro w9 hSw; obtain ⟨m0, m1⟩ := hSw; refine (ld_v (by rfl) (by kernel_rfl) m0).trans ?_; with_reducible rfl)
  try simp only [Act.put, List.setIfInBounds_toArray, List.set_cons_zero, List.set_cons_succ, List.getElem_toArray, List.getElem_cons_zero, List.getElem_cons_succ]
  refine wpAnyH_ready (rs := [1]) (by kernel_rfl) (by simp) ?_
  refine AllReadyH.cons rfl (fun K hK => ?_) AllReadyH.nil
  go_simp
  with_reducible refine (pv _).mono ?_
  rintro e w1 ⟨rfl, hb⟩
  replace DX := DX.on hb
  replace DY := DY.on hb
  replace bz := bz.trans (hb.mono bz.size)
  clear hb
  refine hK.out _ _ ⟨DX, DY⟩ (fun hH => ?_)
  clear hK K hS
  have hS := hH
  clear hH
  try simp only [Act.put, List.setIfInBounds_toArray, List.set_cons_zero, List.set_cons_succ, List.getElem_toArray, List.getElem_cons_zero, List.getElem_cons_succ]
  refine wpAnyH_take (i := 2) (v := ?v2_2) rfl (by kernel_rfl) (by kernel_rfl) (by kernel_rfl) (fun _ _ _ h => h) (Or.inl ⟨by rfl, ?hy2_2⟩) (by assumption) ?rest2_2
  case hy2_2 => (intro w9 hSw; clear hSw; go_simp; try with_reducible rfl)
  try simp only [Act.put, List.setIfInBounds_toArray, List.set_cons_zero, List.set_cons_succ, List.getElem_toArray, List.getElem_cons_zero, List.getElem_cons_succ]
  refine wpAnyH_take (i := 3) (v := undef) rfl (by kernel_rfl) (by kernel_rfl) (by kernel_rfl) (fun _ _ _ h => h) (Or.inr ⟨by rfl, rfl⟩) (by assumption) ?_
  try simp only [Act.put, List.setIfInBounds_toArray, List.set_cons_zero, List.set_cons_succ, List.getElem_toArray, List.getElem_cons_zero, List.getElem_cons_succ]
  refine wpAnyH_take (i := 4) (v := undef) rfl (by kernel_rfl) (by kernel_rfl) (by kernel_rfl) (fun _ _ _ h => h) (Or.inr ⟨by rfl, rfl⟩) (by assumption) ?_
  try simp only [Act.put, List.setIfInBounds_toArray, List.set_cons_zero, List.set_cons_succ, List.getElem_toArray, List.getElem_cons_zero, List.getElem_cons_succ]
  refine wpAnyH_take (i := 5) (v := ?v5_3) rfl (by kernel_rfl) (by kernel_rfl) (by kernel_rfl) (fun _ _ _ h => h) (Or.inl ⟨by rfl, ?hy5_3⟩) (by assumption) ?rest5_3
  case hy5_3 => (intro w9 hSw; clear hSw; go_simp; try with_reducible rfl)
  try simp only [Act.put, List.setIfInBounds_toArray, List.set_cons_zero, List.set_cons_succ, List.getElem_toArray, List.getElem_cons_zero, List.getElem_cons_succ]
  refine wpAnyH_take (i := 6) (v := ?v6_4) rfl (by kernel_rfl) (by kernel_rfl) (by kernel_rfl) (fun _ _ _ h => h) (Or.inl ⟨by rfl, ?hy6_4⟩) (by assumption) ?rest6_4
  case hy6_4 => (intro w9 hSw; clear hSw; go_simp; try with_reducible rfl)
  try simp only [Act.put, List.setIfInBounds_toArray, List.set_cons_zero, List.set_cons_succ, List.getElem_toArray, List.getElem_cons_zero, List.getElem_cons_succ]
  refine wpAnyH_take (i := 7) (v := undef) rfl (by kernel_rfl) (by kernel_rfl) (by kernel_rfl) (fun _ _ _ h => h) (Or.inr ⟨by rfl, rfl⟩) (by assumption) ?_
  try simp only [Act.put, List.setIfInBounds_toArray, List.set_cons_zero, List.set_cons_succ, List.getElem_toArray, List.getElem_cons_zero, List.getElem_cons_succ]
  refine wpAnyH_take (i := 8) (v := undef) rfl (by kernel_rfl) (by kernel_rfl) (by kernel_rfl) (fun _ _ _ h => h) (Or.inr ⟨by rfl, rfl⟩) (by assumption) ?_
  try simp only [Act.put, List.setIfInBounds_toArray, List.set_cons_zero, List.set_cons_succ, List.getElem_toArray, List.getElem_cons_zero, List.getElem_cons_succ]
  refine wpAnyH_take (i := 9) (v := undef) rfl (by kernel_rfl) (by kernel_rfl) (by kernel_rfl) (fun _ _ _ h => h) (Or.inr ⟨by rfl, rfl⟩) (by assumption) ?_
  try simp only [Act.put, List.setIfInBounds_toArray, List.set_cons_zero, List.set_cons_succ, List.getElem_toArray, List.getElem_cons_zero, List.getElem_cons_succ]
  refine wpAnyH_take (i := 10) (v := undef) rfl (by kernel_rfl) (by kernel_rfl) (by kernel_rfl) (fun _ _ _ h => h) (Or.inr ⟨by rfl, rfl⟩) (by assumption) ?_
  try simp only [Act.put, List.setIfInBounds_toArray, List.set_cons_zero, List.set_cons_succ, List.getElem_toArray, List.getElem_cons_zero, List.getElem_cons_succ]
  refine wpAnyH_take (i := 11) (v := undef) rfl (by kernel_rfl) (by kernel_rfl) (by kernel_rfl) (fun _ _ _ h => h) (Or.inr ⟨by rfl, rfl⟩) (by assumption) ?_
  try simp only [Act.put, List.setIfInBounds_toArray, List.set_cons_zero, List.set_cons_succ, List.getElem_toArray, List.getElem_cons_zero, List.getElem_cons_succ]
  refine wpAnyH_take (i := 12) (v := ?v12_5) rfl (by kernel_rfl) (by kernel_rfl) (by kernel_rfl) (fun _ _ _ h => h) (Or.inl ⟨by rfl, ?hy12_5⟩) (by assumption) ?rest12_5
  case hy12_5 => (intro w9 hSw; clear hSw; go_simp; try with_reducible rfl)
  try simp only [Act.put, List.setIfInBounds_toArray, List.set_cons_zero, List.set_cons_succ, List.getElem_toArray, List.getElem_cons_zero, List.getElem_cons_succ]
  refine wpAnyH_take (i := 13) (v := ?v13_6) rfl (by kernel_rfl) (by kernel_rfl) (by kernel_rfl) (fun _ _ _ h => h) (Or.inl ⟨by rfl, ?hy13_6⟩) (by assumption) ?rest13_6
  case hy13_6 => (intro w9 hSw; clear hSw; go_simp; try with_reducible rfl)
  try simp only [Act.put, List.setIfInBounds_toArray, List.set_cons_zero, List.set_cons_succ, List.getElem_toArray, List.getElem_cons_zero, List.getElem_cons_succ]
  refine wpAnyH_done (by kernel_rfl) ?_ _
  go_wp2_with fail
  go_ret
  exact ⟨by first | rfl | simp, bz⟩
set_option maxRecDepth 100000 in
set_option maxHeartbeats 4000000 in
theorem alike_1 (hx : Sv w x X) (hy : Sv w y Y) (h1 : x.vec = true) (h2 : y.vec = false) : Calls Try.prog 62 #[x.V, y.V] w (Ans w (.bool (alk x y))) := by
  have pv := Vector_any x
  have pu := Vector_any y
  have pl := fun W (h : Sv W x X) => svLen h
  have pm := fun W (h : Sv W y Y) => svLen h
  rw [h1] at pv
  rw [h2] at pu
  have HX := Lib.hid hx
  have HY := Lib.hid hy
  have DX := (Blk.new w x.L 30).alloc (.cells y.L.toArray 30)
  have DY := Blk.new (w.alloc (.cells x.L.toArray 30)) y.L 30
  rw [World.size_alloc] at DY
  have bz := ((Below.refl _ w).alloc (Nat.le_refl _) (.cells x.L.toArray 30)).alloc (by simp) (.cells y.L.toArray 30)
  have HE : Hid (alk x y = false) := Lib.hid (by unfold alk; rw [h1, h2]; rfl)
  clear hx hy h1 h2
  rw [HE.out]
  clear HE
  go_enter Try.func62, Try.ntmps62
  go_wp2_with fail
  replace DX := DX.drew
  replace DY := DY.drew
  replace bz := bz.drew
  refine wp_region_held_drew (S := fun w9 : World => Vbx w9 w.heap.size x ∧ Vbx w9 (w.heap.size + 1) y) (by kernel_rfl) ⟨DX, DY⟩ (fun hS => ?_)
  generalize ((w.alloc (.cells x.L.toArray 30)).alloc (.cells y.L.toArray 30)).drew = wd at hS DX DY  bz ⊢
  refine wpAnyH_take (i := 0) (v := ?v0_7) rfl (by kernel_rfl) (by kernel_rfl) (by kernel_rfl) (fun _ _ _ h => h) (Or.inl ⟨by rfl, ?hy0_7⟩) (by assumption) ?rest0_7
  case hy0_7 => (intro w9 hSw; obtain ⟨m0, m1⟩ := hSw; refine (ld_v (by rfl) (by kernel_rfl) m0).trans ?_; with_reducible rfl)
  try simp only [Act.put, List.setIfInBounds_toArray, List.set_cons_zero, List.set_cons_succ, List.getElem_toArray, List.getElem_cons_zero, List.getElem_cons_succ]
  refine wpAnyH_ready (rs := [1]) (by kernel_rfl) (by simp) ?_
  refine AllReadyH.cons rfl (fun K hK => ?_) AllReadyH.nil
  go_simp
  with_reducible refine (pv _).mono ?_
  rintro e w1 ⟨rfl, hb⟩
  replace DX := DX.on hb
  replace DY := DY.on hb
  replace bz := bz.trans (hb.mono bz.size)
  clear hb
  refine hK.out _ _ ⟨DX, DY⟩ (fun hH => ?_)
  clear hK K hS
  have hS := hH
  clear hH
  try simp only [Act.put, List.setIfInBounds_toArray, List.set_cons_zero, List.set_cons_succ, List.getElem_toArray, List.getElem_cons_zero, List.getElem_cons_succ]
  refine wpAnyH_take (i := 2) (v := ?v2_8) rfl (by kernel_rfl) (by kernel_rfl) (by kernel_rfl) (fun _ _ _ h => h) (Or.inl ⟨by rfl, ?hy2_8⟩) (by assumption) ?rest2_8
  case hy2_8 => (intro w9 hSw; clear hSw; go_simp; try with_reducible rfl)
  try simp only [Act.put, List.setIfInBounds_toArray, List.set_cons_zero, List.set_cons_succ, List.getElem_toArray, List.getElem_cons_zero, List.getElem_cons_succ]
  refine wpAnyH_take (i := 3) (v := ?v3_9) rfl (by kernel_rfl) (by kernel_rfl) (by kernel_rfl) (fun _ _ _ h => h) (Or.inl ⟨by rfl, ?hy3_9⟩) (by assumption) ?rest3_9
  case hy3_9 => (intro w9 hSw; obtain ⟨m0, m1⟩ := hSw; refine (ld_v (by rfl) (by kernel_rfl) m1).trans ?_; with_reducible rfl)
  try simp only [Act.put, List.setIfInBounds_toArray, List.set_cons_zero, List.set_cons_succ, List.getElem_toArray, List.getElem_cons_zero, List.getElem_cons_succ]
  refine wpAnyH_ready (rs := [4]) (by kernel_rfl) (by simp) ?_
  refine AllReadyH.cons rfl (fun K hK => ?_) AllReadyH.nil
  go_simp
  with_reducible refine (pu _).mono ?_
  rintro e w2 ⟨rfl, hb⟩
  replace DX := DX.on hb
  replace DY := DY.on hb
  replace bz := bz.trans (hb.mono bz.size)
  clear hb
  refine hK.out _ _ ⟨DX, DY⟩ (fun hH => ?_)
  clear hK K hS
  have hS := hH
  clear hH
  try simp only [Act.put, List.setIfInBounds_toArray, List.set_cons_zero, List.set_cons_succ, List.getElem_toArray, List.getElem_cons_zero, List.getElem_cons_succ]
  refine wpAnyH_take (i := 5) (v := ?v5_10) rfl (by kernel_rfl) (by kernel_rfl) (by kernel_rfl) (fun _ _ _ h => h) (Or.inl ⟨by rfl, ?hy5_10⟩) (by assumption) ?rest5_10
  case hy5_10 => (intro w9 hSw; clear hSw; go_simp; try with_reducible rfl)
  try simp only [Act.put, List.setIfInBounds_toArray, List.set_cons_zero, List.set_cons_succ, List.getElem_toArray, List.getElem_cons_zero, List.getElem_cons_succ]
  refine wpAnyH_take (i := 6) (v := ?v6_11) rfl (by kernel_rfl) (by kernel_rfl) (by kernel_rfl) (fun _ _ _ h => h) (Or.inl ⟨by rfl, ?hy6_11⟩) (by assumption) ?rest6_11
  case hy6_11 => (intro w9 hSw; clear hSw; go_simp; try with_reducible rfl)
  try simp only [Act.put, List.setIfInBounds_toArray, List.set_cons_zero, List.set_cons_succ, List.getElem_toArray, List.getElem_cons_zero, List.getElem_cons_succ]
  refine wpAnyH_take (i := 7) (v := undef) rfl (by kernel_rfl) (by kernel_rfl) (by kernel_rfl) (fun _ _ _ h => h) (Or.inr ⟨by rfl, rfl⟩) (by assumption) ?_
  try simp only [Act.put, List.setIfInBounds_toArray, List.set_cons_zero, List.set_cons_succ, List.getElem_toArray, List.getElem_cons_zero, List.getElem_cons_succ]
  refine wpAnyH_take (i := 8) (v := undef) rfl (by kernel_rfl) (by kernel_rfl) (by kernel_rfl) (fun _ _ _ h => h) (Or.inr ⟨by rfl, rfl⟩) (by assumption) ?_
  try simp only [Act.put, List.setIfInBounds_toArray, List.set_cons_zero, List.set_cons_succ, List.getElem_toArray, List.getElem_cons_zero, List.getElem_cons_succ]
  refine wpAnyH_take (i := 9) (v := undef) rfl (by kernel_rfl) (by kernel_rfl) (by kernel_rfl) (fun _ _ _ h => h) (Or.inr ⟨by rfl, rfl⟩) (by assumption) ?_
  try simp only [Act.put, List.setIfInBounds_toArray, List.set_cons_zero, List.set_cons_succ, List.getElem_toArray, List.getElem_cons_zero, List.getElem_cons_succ]
  refine wpAnyH_take (i := 10) (v := undef) rfl (by kernel_rfl) (by kernel_rfl) (by kernel_rfl) (fun _ _ _ h => h) (Or.inr ⟨by rfl, rfl⟩) (by assumption) ?_
  try simp only [Act.put, List.setIfInBounds_toArray, List.set_cons_zero, List.set_cons_succ, List.getElem_toArray, List.getElem_cons_zero, List.getElem_cons_succ]
  refine wpAnyH_take (i := 11) (v := undef) rfl (by kernel_rfl) (by kernel_rfl) (by kernel_rfl) (fun _ _ _ h => h) (Or.inr ⟨by rfl, rfl⟩) (by assumption) ?_
  try simp only [Act.put, List.setIfInBounds_toArray, List.set_cons_zero, List.set_cons_succ, List.getElem_toArray, List.getElem_cons_zero, List.getElem_cons_succ]
  refine wpAnyH_take (i := 12) (v := ?v12_12) rfl (by kernel_rfl) (by kernel_rfl) (by kernel_rfl) (fun _ _ _ h => h) (Or.inl ⟨by rfl, ?hy12_12⟩) (by assumption) ?rest12_12
  case hy12_12 => (intro w9 hSw; clear hSw; go_simp; try with_reducible rfl)
  try simp only [Act.put, List.setIfInBounds_toArray, List.set_cons_zero, List.set_cons_succ, List.getElem_toArray, List.getElem_cons_zero, List.getElem_cons_succ]
  refine wpAnyH_take (i := 13) (v := ?v13_13) rfl (by kernel_rfl) (by kernel_rfl) (by kernel_rfl) (fun _ _ _ h => h) (Or.inl ⟨by rfl, ?hy13_13⟩) (by assumption) ?rest13_13
  case hy13_13 => (intro w9 hSw; clear hSw; go_simp; try with_reducible rfl)
  try simp only [Act.put, List.setIfInBounds_toArray, List.set_cons_zero, List.set_cons_succ, List.getElem_toArray, List.getElem_cons_zero, List.getElem_cons_succ]
  refine wpAnyH_done (by kernel_rfl) ?_ _
  go_wp2_with fail
  go_ret
  exact ⟨by first | rfl | simp, bz⟩
set_option maxRecDepth 100000 in
set_option maxHeartbeats 4000000 in
theorem alike_2 (hx : Sv w x X) (hy : Sv w y Y) (h1 : x.vec = true) (h2 : y.vec = true) : Calls Try.prog 62 #[x.V, y.V] w (Ans w (.bool (alk x y))) := by
  have pv := Vector_any x
  have pu := Vector_any y
  have pl := fun W (h : Sv W x X) => svLen h
  have pm := fun W (h : Sv W y Y) => svLen h
  rw [h1] at pv
  rw [h2] at pu
  have HX := Lib.hid hx
  have HY := Lib.hid hy
  have DX := (Blk.new w x.L 30).alloc (.cells y.L.toArray 30)
  have DY := Blk.new (w.alloc (.cells x.L.toArray 30)) y.L 30
  rw [World.size_alloc] at DY
  have bz := ((Below.refl _ w).alloc (Nat.le_refl _) (.cells x.L.toArray 30)).alloc (by simp) (.cells y.L.toArray 30)
  have ee : (x.len == y.len) = (x.len == y.len) := rfl
  obtain ⟨lx, hlx⟩ : ∃ z, x.len = z := ⟨_, rfl⟩
  obtain ⟨ly, hly⟩ : ∃ z, y.len = z := ⟨_, rfl⟩
  simp only [hlx] at pl
  simp only [hly] at pm
  have HE : Hid (alk x y = (lx == ly)) := Lib.hid (by unfold alk; rw [h1, h2, hlx, hly]; rfl)
  clear hx hy h1 h2 hlx hly ee
  rw [HE.out]
  clear HE
  go_enter Try.func62, Try.ntmps62
  go_wp2_with fail
  replace DX := DX.drew
  replace DY := DY.drew
  replace bz := bz.drew
  refine wp_region_held_drew (S := fun w9 : World => Vbx w9 w.heap.size x ∧ Vbx w9 (w.heap.size + 1) y) (by kernel_rfl) ⟨DX, DY⟩ (fun hS => ?_)
  generalize ((w.alloc (.cells x.L.toArray 30)).alloc (.cells y.L.toArray 30)).drew = wd at hS DX DY  bz ⊢
  refine wpAnyH_take (i := 0) (v := ?v0_14) rfl (by kernel_rfl) (by kernel_rfl) (by kernel_rfl) (fun _ _ _ h => h) (Or.inl ⟨by rfl, ?hy0_14⟩) (by assumption) ?rest0_14
  case hy0_14 => (intro w9 hSw; obtain ⟨m0, m1⟩ := hSw; refine (ld_v (by rfl) (by kernel_rfl) m0).trans ?_; with_reducible rfl)
  try simp only [Act.put, List.setIfInBounds_toArray, List.set_cons_zero, List.set_cons_succ, List.getElem_toArray, List.getElem_cons_zero, List.getElem_cons_succ]
  refine wpAnyH_ready (rs := [1]) (by kernel_rfl) (by simp) ?_
  refine AllReadyH.cons rfl (fun K hK => ?_) AllReadyH.nil
  go_simp
  with_reducible refine (pv _).mono ?_
  rintro e w1 ⟨rfl, hb⟩
  replace DX := DX.on hb
  replace DY := DY.on hb
  replace bz := bz.trans (hb.mono bz.size)
  clear hb
  refine hK.out _ _ ⟨DX, DY⟩ (fun hH => ?_)
  clear hK K hS
  have hS := hH
  clear hH
  try simp only [Act.put, List.setIfInBounds_toArray, List.set_cons_zero, List.set_cons_succ, List.getElem_toArray, List.getElem_cons_zero, List.getElem_cons_succ]
  refine wpAnyH_take (i := 2) (v := ?v2_15) rfl (by kernel_rfl) (by kernel_rfl) (by kernel_rfl) (fun _ _ _ h => h) (Or.inl ⟨by rfl, ?hy2_15⟩) (by assumption) ?rest2_15
  case hy2_15 => (intro w9 hSw; clear hSw; go_simp; try with_reducible rfl)
  try simp only [Act.put, List.setIfInBounds_toArray, List.set_cons_zero, List.set_cons_succ, List.getElem_toArray, List.getElem_cons_zero, List.getElem_cons_succ]
  refine wpAnyH_take (i := 3) (v := ?v3_16) rfl (by kernel_rfl) (by kernel_rfl) (by kernel_rfl) (fun _ _ _ h => h) (Or.inl ⟨by rfl, ?hy3_16⟩) (by assumption) ?rest3_16
  case hy3_16 => (intro w9 hSw; obtain ⟨m0, m1⟩ := hSw; refine (ld_v (by rfl) (by kernel_rfl) m1).trans ?_; with_reducible rfl)
  try simp only [Act.put, List.setIfInBounds_toArray, List.set_cons_zero, List.set_cons_succ, List.getElem_toArray, List.getElem_cons_zero, List.getElem_cons_succ]
  refine wpAnyH_ready (rs := [4]) (by kernel_rfl) (by simp) ?_
  refine AllReadyH.cons rfl (fun K hK => ?_) AllReadyH.nil
  go_simp
  with_reducible refine (pu _).mono ?_
  rintro e w2 ⟨rfl, hb⟩
  replace DX := DX.on hb
  replace DY := DY.on hb
  replace bz := bz.trans (hb.mono bz.size)
  clear hb
  refine hK.out _ _ ⟨DX, DY⟩ (fun hH => ?_)
  clear hK K hS
  have hS := hH
  clear hH
  try simp only [Act.put, List.setIfInBounds_toArray, List.set_cons_zero, List.set_cons_succ, List.getElem_toArray, List.getElem_cons_zero, List.getElem_cons_succ]
  refine wpAnyH_take (i := 5) (v := ?v5_17) rfl (by kernel_rfl) (by kernel_rfl) (by kernel_rfl) (fun _ _ _ h => h) (Or.inl ⟨by rfl, ?hy5_17⟩) (by assumption) ?rest5_17
  case hy5_17 => (intro w9 hSw; clear hSw; go_simp; try with_reducible rfl)
  try simp only [Act.put, List.setIfInBounds_toArray, List.set_cons_zero, List.set_cons_succ, List.getElem_toArray, List.getElem_cons_zero, List.getElem_cons_succ]
  refine wpAnyH_take (i := 6) (v := ?v6_18) rfl (by kernel_rfl) (by kernel_rfl) (by kernel_rfl) (fun _ _ _ h => h) (Or.inl ⟨by rfl, ?hy6_18⟩) (by assumption) ?rest6_18
  case hy6_18 => (intro w9 hSw; clear hSw; go_simp; try with_reducible rfl)
  try simp only [Act.put, List.setIfInBounds_toArray, List.set_cons_zero, List.set_cons_succ, List.getElem_toArray, List.getElem_cons_zero, List.getElem_cons_succ]
  refine wpAnyH_take (i := 7) (v := ?v7_19) rfl (by kernel_rfl) (by kernel_rfl) (by kernel_rfl) (fun _ _ _ h => h) (Or.inl ⟨by rfl, ?hy7_19⟩) (by assumption) ?rest7_19
  case hy7_19 => (intro w9 hSw; obtain ⟨m0, m1⟩ := hSw; refine (ld_v (by rfl) (by kernel_rfl) m0).trans ?_; with_reducible rfl)
  try simp only [Act.put, List.setIfInBounds_toArray, List.set_cons_zero, List.set_cons_succ, List.getElem_toArray, List.getElem_cons_zero, List.getElem_cons_succ]
  refine wpAnyH_take (i := 9) (v := ?v9_20) rfl (by kernel_rfl) (by kernel_rfl) (by kernel_rfl) (fun _ _ _ h => h) (Or.inl ⟨by rfl, ?hy9_20⟩) (by assumption) ?rest9_20
  case hy9_20 => (intro w9 hSw; obtain ⟨m0, m1⟩ := hSw; refine (ld_v (by rfl) (by kernel_rfl) m1).trans ?_; with_reducible rfl)
  try simp only [Act.put, List.setIfInBounds_toArray, List.set_cons_zero, List.set_cons_succ, List.getElem_toArray, List.getElem_cons_zero, List.getElem_cons_succ]
  refine wpAnyH_ready (rs := [8]) (by kernel_rfl) (by simp) ?_
  refine AllReadyH.cons rfl (fun K hK => ?_) AllReadyH.nil
  go_simp
  with_reducible refine (pl _ (HX.out.on bz)).mono ?_
  rintro e w3 ⟨rfl, hb⟩
  replace DX := DX.on hb
  replace DY := DY.on hb
  replace bz := bz.trans (hb.mono bz.size)
  clear hb
  refine hK.out _ _ ⟨DX, DY⟩ (fun hH => ?_)
  clear hK K hS
  have hS := hH
  clear hH
  try simp only [Act.put, List.setIfInBounds_toArray, List.set_cons_zero, List.set_cons_succ, List.getElem_toArray, List.getElem_cons_zero, List.getElem_cons_succ]
  refine wpAnyH_ready (rs := [10]) (by kernel_rfl) (by simp) ?_
  refine AllReadyH.cons rfl (fun K hK => ?_) AllReadyH.nil
  go_simp
  with_reducible refine (pm _ (HY.out.on bz)).mono ?_
  rintro e w4 ⟨rfl, hb⟩
  replace DX := DX.on hb
  replace DY := DY.on hb
  replace bz := bz.trans (hb.mono bz.size)
  clear hb
  refine hK.out _ _ ⟨DX, DY⟩ (fun hH => ?_)
  clear hK K hS
  have hS := hH
  clear hH
  try simp only [Act.put, List.setIfInBounds_toArray, List.set_cons_zero, List.set_cons_succ, List.getElem_toArray, List.getElem_cons_zero, List.getElem_cons_succ]
  refine wpAnyH_take (i := 11) (v := ?v11_21) rfl (by kernel_rfl) (by kernel_rfl) (by kernel_rfl) (fun _ _ _ h => h) (Or.inl ⟨by rfl, ?hy11_21⟩) (by assumption) ?rest11_21
  case hy11_21 => (intro w9 hSw; clear hSw; go_simp; try with_reducible rfl)
  try simp only [Act.put, List.setIfInBounds_toArray, List.set_cons_zero, List.set_cons_succ, List.getElem_toArray, List.getElem_cons_zero, List.getElem_cons_succ]
  refine wpAnyH_take (i := 12) (v := ?v12_22) rfl (by kernel_rfl) (by kernel_rfl) (by kernel_rfl) (fun _ _ _ h => h) (Or.inl ⟨by rfl, ?hy12_22⟩) (by assumption) ?rest12_22
  case hy12_22 => (intro w9 hSw; clear hSw; go_simp; try with_reducible rfl)
  try simp only [Act.put, List.setIfInBounds_toArray, List.set_cons_zero, List.set_cons_succ, List.getElem_toArray, List.getElem_cons_zero, List.getElem_cons_succ]
  refine wpAnyH_take (i := 13) (v := ?v13_23) rfl (by kernel_rfl) (by kernel_rfl) (by kernel_rfl) (fun _ _ _ h => h) (Or.inl ⟨by rfl, ?hy13_23⟩) (by assumption) ?rest13_23
  case hy13_23 => (intro w9 hSw; clear hSw; go_simp; try with_reducible rfl)
  try simp only [Act.put, List.setIfInBounds_toArray, List.set_cons_zero, List.set_cons_succ, List.getElem_toArray, List.getElem_cons_zero, List.getElem_cons_succ]
  refine wpAnyH_done (by kernel_rfl) ?_ _
  go_wp2_with fail
  go_ret
  exact ⟨by first | rfl | simp, bz⟩
theorem alike_is (hx : Sv w x X) (hy : Sv w y Y) : Calls Try.prog 62 #[x.V, y.V] w (Ans w (.bool (alk x y))) := by
  cases h1 : x.vec
  · exact alike_0 hx hy h1
  · cases h2 : y.vec
    · exact alike_1 hx hy h1 h2
    · exact alike_2 hx hy h1 h2
set_option maxRecDepth 100000 in
set_option maxHeartbeats 4000000 in
theorem sized_is (v : Vu) (r c : Int) (w : World) : Calls Try.prog 72 #[v.V, .int .i64 r, .int .i64 c] w (Ans w (.bool (szd v r c))) := by
  have pr := Rows_any v
  have pc := Cols_any v
  have DB := Blk.new w v.L 30
  unfold szd
  obtain ⟨p, f0, f1, d0, d1, r0, r1, R, C⟩ := v
  obtain ⟨c0, c1, c2, c3, c4, c5, c6, c7, c8⟩ := Vbx.cells DB
  cases h1 : (R == r)
  · go_enter Try.func72, Try.ntmps72
    go_wp2_with fail
    with_reducible refine (pr _).mono ?_
    rintro e w1 ⟨rfl, hb⟩
    go_wp2_with fail
    go_ret
    exact ⟨by simp [h1], below_step hb⟩
  · go_enter Try.func72, Try.ntmps72
    go_wp2_with fail
    with_reducible refine (pr _).mono ?_
    rintro e w1 ⟨rfl, hb⟩
    replace DB := DB.on hb
    clear c0 c1 c2 c3 c4 c5 c6 c7 c8
    obtain ⟨c0, c1, c2, c3, c4, c5, c6, c7, c8⟩ := Vbx.cells DB
    go_wp2_with fail
    with_reducible refine (pc _).mono ?_
    rintro e w2 ⟨rfl, hb2⟩
    go_wp2_with fail
    go_ret
    exact ⟨by simp [h1], below_step (hb.trans (hb2.mono hb.size))⟩
/-- a list of new memory -/
def NewL (w : World) (F : List Int) (e : Ending) (w' : World) : Prop := ∃ A c, e = .returned (.slice A F.length c) ∧ OwnF w' w.heap.size A c F ∧ Below w.heap.size w w'
set_option maxRecDepth 100000 in
set_option maxHeartbeats 4000000 in
theorem floats_is (hx : Sv w x X) : Calls Try.prog 64 #[x.V] w (NewL w X) := by
  have pm := fun W (h : Sv W x X) => svMat h
  have DB := Blk.new w x.L 30
  have hx1 := hx.on ((Below.refl _ w).alloc (Nat.le_refl _) (.cells x.L.toArray 30))
  clear hx
  obtain ⟨c0, c1, c2, c3, c4, c5, c6, c7, c8⟩ := Vbx.cells DB
  go_enter Try.func64, Try.ntmps64
  go_wp2_with fail
  with_reducible refine (pm _ hx1).mono ?_
  rintro e w1 ⟨A, cap, rfl, ho, _, hb⟩
  have ef := run_field_m x.R x.C A X.length cap w1
  go_wp2_with fail
  go_ret
  exact ⟨A, cap, rfl, ho.less (by simp), below_step hb⟩
end
end Go.Proofs.Ytfelmkkkaphkpaa
