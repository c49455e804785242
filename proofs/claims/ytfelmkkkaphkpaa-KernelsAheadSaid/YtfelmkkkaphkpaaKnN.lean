/-
  Layer 8, walks: the program's Trmm. (Written by wip/tools/gen_knn.py.)
-/
import Derived.Test.YtfelmkkkaphkpaaKnM
import Derived.Test.YtfelmkkkaphkpaaKnW
namespace Go.Proofs.Ytfelmkkkaphkpaa
open Go.RowKit Go.Bw Go.Sort Go.Shelf
set_option linter.unusedVariables false
set_option linter.unusedSimpArgs false

attribute [local go_sem] run_store_float
theorem FL.at_ad {w : World} {ad : Addr} {n c : Nat} {l : List Int} (h : FL w (some ad) n c l) {k : Nat} (hk : k < n) : w.cell? (ad.add k) = some (.float .f64 (D l k).toNat) := h.2.1.at_some (by rw [h.1]; exact hk)
theorem grown_hi {w w1 w2 : World} {row : Option Nat} {x : Nat} (h : w.grownBy w1 row) (k : w1.grownBy w2 (some x)) (hx : w.heap.size ≤ x) : w.grownBy w2 row :=
  ⟨k.os.trans h.os, k.tape.trans h.tape, k.output.trans h.output, Nat.le_trans h.size k.size, fun b hb hne => (k.block b (Nat.lt_of_lt_of_le hb h.size) (fun e => by injection e with e; omega)).trans (h.block b hb hne)⟩
theorem Rws.grownHi {w w' : World} {B o x : Nat} {G : Option Addr} {cG m q : Nat} {l : List Int} (h : Rws w B o G cG m q l) (hg : w.grownBy w' (some x)) (h1 : o ≠ x) (h2 : ∀ a, G = some a → a.block ≠ x) : Rws w' B o G cG m q l :=
  ⟨h.own.grown_ hg (fun a e e2 => h2 a e (by injection e2)), h.len, h.wd, h.blk.grown hg (fun e => h1 (by injection e)), h.ne, h.hB⟩
/-- a row that is written: where it lies, and what is there in any world -/
theorem Rws.putrow {w : World} {B o : Nat} {G : Option Addr} {cG m q : Nat} {l : List Int} {i j : Nat} (h0 : Rws w B o G cG m q l) (hi : i < m) (hj : j < q) : ∃ (ad : Addr) (c5 : Nat), B ≤ ad.block ∧ ad.block ≠ o ∧ q ≤ c5 ∧ ∀ W l, Rws W B o G cG m q l →
    W.cell? ⟨o, i, none⟩ = some (.slice (some ad) q c5) ∧ FL W (some ad) q c5 ((l.drop (i * q)).take q) ∧ W.cell? (ad.add j) = some (.float .f64 (D l (i * q + j)).toNat) ∧ W.frozen? (ad.add j) = false ∧
    ∀ r : Nat, r ≤ 18446744073709551615 → Rws (W.setCell (ad.add j) (.float .f64 r)) B o G cG m q (l.set (i * q + j) (r : Int)) ∧ W.grownBy (W.setCell (ad.add j) (.float .f64 r)) (some ad.block) := by
  have hk := ix_lt hi hj
  have hk2 : (i + 1) * q ≤ m * q := Nat.mul_le_mul_right q hi
  rw [Nat.add_mul, Nat.one_mul] at hk2
  obtain ⟨g1, hG, _, _⟩ := h0.own.at_ (k := i * q + j) (by rw [h0.len]; exact hk)
  subst hG
  have hcG : m * q ≤ cG := by have := h0.own.nums.1; rw [h0.len] at this; exact this
  have hB : B ≤ g1 := (h0.own.gt rfl).1
  have hne : ¬ cG = i * q := by omega
  refine ⟨⟨g1, i * q, none⟩, cG - i * q, hB, h0.ne ⟨g1, 0, none⟩ rfl, by omega, fun W l h => ?_⟩
  have hc := Blk.cell h.blk i (rowsV_get hi)
  rw [if_pos hi] at hc
  have hf := FL.cut (lo := i * q) (k := q) (show FL W (some ⟨g1, 0, none⟩) l.length cG l from ⟨rfl, h.own.nums, h.wd⟩) (by rw [h.len]; exact hk2)
  have ea : (⟨g1, i * q, none⟩ : Addr).add j = ⟨g1, i * q + j, none⟩ := add_at g1 (i * q) j
  have e0 : (if cG = i * q then (some ⟨g1, 0, none⟩ : Option Addr) else (some (⟨g1, 0, none⟩ : Addr)).map (·.add (i * q))) = some ⟨g1, i * q, none⟩ := by
    rw [if_neg hne]
    show some ((⟨g1, 0, none⟩ : Addr).add (i * q)) = _
    rw [add_at, Nat.zero_add]
  have hv : rowV (some ⟨g1, 0, none⟩) cG q i = .slice (some ⟨g1, i * q, none⟩) q (cG - i * q) := by
    show Value.slice _ _ _ = _
    rw [e0]
  rw [hv] at hc
  rw [e0] at hf
  obtain ⟨g', e, h1, h2⟩ := h.own.at_ (k := i * q + j) (by rw [h.len]; exact hk)
  cases e
  rw [ea]
  refine ⟨hc, hf, h1, h2, fun r hr => ⟨⟨?_, by rw [List.length_set]; exact h.len, wd_set h.wd (by omega) (by omega) _, h.blk.far (p := ⟨g1, i * q + j, none⟩) (fun e => h.ne ⟨g1, 0, none⟩ rfl e.symm) _, h.ne, h.hB⟩, setb_grown (World.grownBy.refl W _) _ _⟩⟩
  have := h.own.set_ (i * q + j) (r : Int)
  have e9 : fV (r : Int) = .float .f64 r := by show Value.float .f64 ((r : Int)).toNat = _; rw [Int.toNat_natCast]
  rwa [e9] at this
/-- a triangle's row and a column, from lo up to be -/
theorem dot_tri {TX YT Y X : List Int} {m q i j lo be : Nat} {unit : Bool} (hb : be ≤ m) (hj : j < q) (hT : ∀ k, k < m → ma TX m i k = trT unit X m i k) (hY : ∀ j t, j < q → t < m → ma YT m j t = ma Y q t j) :
    dotA ((((TX.drop (i * m)).take m).drop lo).take (be - lo)) ((((YT.drop (j * m)).take m).drop lo).take (be - lo)) (be - lo) = trS unit X Y m q i j lo be := by
  unfold dotA trS
  refine sumA_congr fun t ht => ?_
  rw [D_take, if_pos ht, D_take, if_pos ht, D_drop, D_drop, D_row (by omega), D_row (by omega), hT _ (by omega), hY _ _ hj (by omega)]
section
variable {w : World} {x y : Vu} {X Y : List Int} {K : Int} {B s g cap c n m q : Nat} {l : List Int}
theorem add_nil (ad : Addr) : ad.add 0 = ad := by unfold Addr.add; rw [if_pos rfl]
set_option maxRecDepth 100000 in
set_option maxHeartbeats 8000000 in
theorem Trmm_ff  (hx : Sv w x X) (hy : Sv w y Y) (he : refE (szd x y.R y.R) [x, y] = 0) (hv : Vk y s c n K) (hs : St w B s g cap c l) (hl : l.length = n) (hj : Inj y c) (hum0 : y.R = m) (huq0 : y.C = q) :
    Calls Try.prog 47 #[.bool false, .bool false, x.V, y.V] w (WrA w B s g cap c y l (fun _ _ => true) (fun i j => trS false X Y m q i j 0 (i + 1))) := by
  have he0 := he
  have hfit := (refE_some he).1
  have HPN : Hid (y.p ≠ none) := Lib.hid ((refE_some he).2 y (by simp))
  rw [hfit] at he
  have HE := Lib.hid he
  have h0 := hfit
  have e0 := szd_is h0
  have hR5 := hy.R
  have hC5 := hy.C
  have hxr : x.R = (m : Int) := by rw [e0.1]; exact hum0
  have hxc : x.C = (m : Int) := by rw [e0.2]; exact hum0
  obtain ⟨YT, hYT, HYT⟩ := hy.turn ((refE_some he0).2 y (by simp)) hum0 huq0
  have htR : y.turnO.R = (q : Int) ∧ y.turnO.C = (m : Int) := by have e : y.turnO = y.T := by { unfold Vu.turnO; rw [show (y.p == none) = false by cases hq : y.p; exact absurd hq ((refE_some he0).2 y (by simp)); rfl]; rfl }; rw [e]; exact ⟨huq0, hum0⟩
  rw [hum0] at hR5
  rw [huq0] at hC5
  have HYS := Lib.hid hYT
  have HYD := Lib.hid HYT
  have HTR := Lib.hid htR
  have HXR := Lib.hid hxr
  have HXC := Lib.hid hxc
  have HR9 := Lib.hid hum0
  have HC9 := Lib.hid huq0
  obtain ⟨f, hf⟩ : ∃ f : Nat → Nat → Option Nat, (fun i j => trS false X Y m q i j 0 (i + 1)) = f := ⟨_, rfl⟩
  have HF := Lib.hid (show ∀ i j, trS false X Y m q i j 0 (i + 1) = f i j from fun i j => by rw [← hf])
  rw [hf]
  clear hf e0 hxr hxc hYT HYT htR hum0 huq0 he0
  have HSx := Lib.hid hx
  have HSy := Lib.hid hy
  have HST := Lib.hid hs
  have HVK := Lib.hid hv
  have HIJ := Lib.hid hj
  have HLL := Lib.hid hl
  have p2 := fun (W : World) (bz : Below w.heap.size w W) => sized_is x y.R y.R W
  simp only [h0] at p2
  clear he hs hv hj hl hx hy h0
  have Dx := Blk.new w x.L 30
  have Dy := Blk.new (w.alloc (.cells x.L.toArray 30)) y.L 30
  replace Dx := Dx.alloc (.cells y.L.toArray 30)
  simp only [World.size_alloc] at Dy
  have bz := ((Below.refl _ w).alloc (Nat.le_refl _) (.cells x.L.toArray 30)).alloc (by simp <;> omega) (.cells y.L.toArray 30)
  have hsz0 : ((w.alloc (.cells x.L.toArray 30)).alloc (.cells y.L.toArray 30)).heap.size = w.heap.size + 2 := by simp
  go_enter Try.func47, Try.ntmps47
  go_wp2_with fail
  replace Dx := Dx.drew
  replace Dy := Dy.drew
  replace bz := bz.drew
  refine wp_region_held_drew (S := fun w9 : World => Vbx w9 w.heap.size x ∧ Vbx w9 (w.heap.size + 1) y) (by kernel_rfl) ⟨Dx, Dy⟩ (fun hS => ?_)
  generalize ((w.alloc (.cells x.L.toArray 30)).alloc (.cells y.L.toArray 30)).drew = wd at hS Dx Dy  bz ⊢
  refine wpAnyH_take (i := 0) (v := ?v0_63) rfl (by kernel_rfl) (by kernel_rfl) (by kernel_rfl) (fun _ _ _ h => h) (Or.inl ⟨by rfl, ?hy0_63⟩) (by assumption) ?rest0_63
  case hy0_63 => (intro w9 hSw; obtain ⟨m0, m1⟩ := hSw; refine (ld_v (by rfl) (by kernel_rfl) m0).trans ?_; with_reducible rfl)
  try simp only [Act.put, List.setIfInBounds_toArray, List.set_cons_zero, List.set_cons_succ, List.getElem_toArray, List.getElem_cons_zero, List.getElem_cons_succ]
  refine wpAnyH_take (i := 1) (v := ?v1_64) rfl (by kernel_rfl) (by kernel_rfl) (by kernel_rfl) (fun _ _ _ h => h) (Or.inl ⟨by rfl, ?hy1_64⟩) (by assumption) ?rest1_64
  case hy1_64 => (intro w9 hSw; obtain ⟨m0, m1⟩ := hSw; refine (ld_v (by rfl) (by kernel_rfl) m1).trans ?_; with_reducible rfl)
  try simp only [Act.put, List.setIfInBounds_toArray, List.set_cons_zero, List.set_cons_succ, List.getElem_toArray, List.getElem_cons_zero, List.getElem_cons_succ]
  refine wpAnyH_take (i := 3) (v := ?v3_65) rfl (by kernel_rfl) (by kernel_rfl) (by kernel_rfl) (fun _ _ _ h => h) (Or.inl ⟨by rfl, ?hy3_65⟩) (by assumption) ?rest3_65
  case hy3_65 => (intro w9 hSw; obtain ⟨m0, m1⟩ := hSw; refine (ld_v (by rfl) (by kernel_rfl) m1).trans ?_; with_reducible rfl)
  try simp only [Act.put, List.setIfInBounds_toArray, List.set_cons_zero, List.set_cons_succ, List.getElem_toArray, List.getElem_cons_zero, List.getElem_cons_succ]
  refine wpAnyH_ready (rs := [2]) (by kernel_rfl) (by simp) ?_
  refine AllReadyH.cons rfl (fun K hK => ?_) AllReadyH.nil
  go_simp
  with_reducible refine (Rows_any y _).mono ?_
  rintro e w1 ⟨rfl, hb⟩
  replace Dx := Dx.on hb
  replace Dy := Dy.on hb
  replace bz := bz.trans (hb.mono bz.size)
  clear hb
  refine hK.out _ _ ⟨Dx, Dy⟩ (fun hH => ?_)
  clear hK K hS
  have hS := hH
  clear hH
  try simp only [Act.put, List.setIfInBounds_toArray, List.set_cons_zero, List.set_cons_succ, List.getElem_toArray, List.getElem_cons_zero, List.getElem_cons_succ]
  refine wpAnyH_ready (rs := [4]) (by kernel_rfl) (by simp) ?_
  refine AllReadyH.cons rfl (fun K hK => ?_) AllReadyH.nil
  go_simp
  with_reducible refine (Rows_any y _).mono ?_
  rintro e w2 ⟨rfl, hb⟩
  replace Dx := Dx.on hb
  replace Dy := Dy.on hb
  replace bz := bz.trans (hb.mono bz.size)
  clear hb
  refine hK.out _ _ ⟨Dx, Dy⟩ (fun hH => ?_)
  clear hK K hS
  have hS := hH
  clear hH
  try simp only [Act.put, List.setIfInBounds_toArray, List.set_cons_zero, List.set_cons_succ, List.getElem_toArray, List.getElem_cons_zero, List.getElem_cons_succ]
  refine wpAnyH_ready (rs := [5]) (by kernel_rfl) (by simp) ?_
  refine AllReadyH.cons rfl (fun K hK => ?_) AllReadyH.nil
  go_simp
  with_reducible refine (p2 _ bz).mono ?_
  rintro e w3 ⟨rfl, hb⟩
  replace Dx := Dx.on hb
  replace Dy := Dy.on hb
  replace bz := bz.trans (hb.mono bz.size)
  clear hb
  refine hK.out _ _ ⟨Dx, Dy⟩ (fun hH => ?_)
  clear hK K hS
  have hS := hH
  clear hH
  try simp only [Act.put, List.setIfInBounds_toArray, List.set_cons_zero, List.set_cons_succ, List.getElem_toArray, List.getElem_cons_zero, List.getElem_cons_succ]
  refine wpAnyH_take (i := 6) (v := ?v6_66) rfl (by kernel_rfl) (by kernel_rfl) (by kernel_rfl) (fun _ _ _ h => h) (Or.inl ⟨by rfl, ?hy6_66⟩) (by assumption) ?rest6_66
  case hy6_66 => (intro w9 hSw; clear hSw; go_simp; try with_reducible rfl)
  try simp only [Act.put, List.setIfInBounds_toArray, List.set_cons_zero, List.set_cons_succ, List.getElem_toArray, List.getElem_cons_zero, List.getElem_cons_succ]
  refine wpAnyH_done (by kernel_rfl) ?_ _
  obtain ⟨v0_0, v0_1, v0_2, v0_3, v0_4, v0_5, v0_6, v0_7, v0_8⟩ := Vbx.cells Dx
  obtain ⟨v1_0, v1_1, v1_2, v1_3, v1_4, v1_5, v1_6, v1_7, v1_8⟩ := Vbx.cells Dy
  have hL : VLs (w3.alloc (.cells #[.pointer x.p, .int .i64 x.f0, .int .i64 x.f1, .int .i64 x.d0, .int .i64 x.d1, .int .i64 x.r0, .int .i64 x.r1, .int .i64 x.R, .int .i64 x.C, .pointer y.p, .int .i64 y.f0, .int .i64 y.f1, .int .i64 y.d0, .int .i64 y.d1, .int .i64 y.r0, .int .i64 y.r1, .int .i64 y.R, .int .i64 y.C] 30)) ⟨w3.heap.size, 0, none⟩ [x, y] := VLs.of (Blk.new w3 ([x, y].flatMap Vu.L) 30)
  replace Dx := Dx.on ((Below.refl _ _).alloc (Nat.le_refl _) ((.cells #[.pointer x.p, .int .i64 x.f0, .int .i64 x.f1, .int .i64 x.d0, .int .i64 x.d1, .int .i64 x.r0, .int .i64 x.r1, .int .i64 x.R, .int .i64 x.C, .pointer y.p, .int .i64 y.f0, .int .i64 y.f1, .int .i64 y.d0, .int .i64 y.d1, .int .i64 y.r0, .int .i64 y.r1, .int .i64 y.R, .int .i64 y.C] 30)))
  replace Dy := Dy.on ((Below.refl _ _).alloc (Nat.le_refl _) ((.cells #[.pointer x.p, .int .i64 x.f0, .int .i64 x.f1, .int .i64 x.d0, .int .i64 x.d1, .int .i64 x.r0, .int .i64 x.r1, .int .i64 x.R, .int .i64 x.C, .pointer y.p, .int .i64 y.f0, .int .i64 y.f1, .int .i64 y.d0, .int .i64 y.d1, .int .i64 y.r0, .int .i64 y.r1, .int .i64 y.R, .int .i64 y.C] 30)))
  replace bz := bz.alloc bz.size ((.cells #[.pointer x.p, .int .i64 x.f0, .int .i64 x.f1, .int .i64 x.d0, .int .i64 x.d1, .int .i64 x.r0, .int .i64 x.r1, .int .i64 x.R, .int .i64 x.C, .pointer y.p, .int .i64 y.f0, .int .i64 y.f1, .int .i64 y.d0, .int .i64 y.d1, .int .i64 y.r0, .int .i64 y.r1, .int .i64 y.R, .int .i64 y.C] 30))
  go_wp2_with fail
  with_reducible refine (refused_is true (vs := [x, y]) (n := 2) rfl (by omega) hL (by intro z hz; simp only [List.mem_cons, List.mem_nil_iff, or_false] at hz; rcases hz with rfl | rfl; exact ⟨_, HSx.out.on bz⟩; exact ⟨_, HSy.out.on bz⟩)).mono ?_
  rintro e w4 ⟨rfl, hb⟩
  clear v0_0 v0_1 v0_2 v0_3 v0_4 v0_5 v0_6 v0_7 v0_8 v1_0 v1_1 v1_2 v1_3 v1_4 v1_5 v1_6 v1_7 v1_8
  replace Dx := Dx.on hb
  replace Dy := Dy.on hb
  replace hL := hL.on hb
  replace bz := bz.trans (hb.mono bz.size)
  clear hb hL
  rw [HE.out]
  go_wp2_with fail
  replace Dx := Dx.drew
  replace Dy := Dy.drew
  replace bz := bz.drew
  refine wp_region_held_drew (S := fun w9 : World => Vbx w9 w.heap.size x ∧ Vbx w9 (w.heap.size + 1) y) (by kernel_rfl) ⟨Dx, Dy⟩ (fun hS => ?_)
  generalize w4.drew = wf at hS Dx Dy  bz ⊢
  refine wpAnyH_take (i := 0) (v := ?v0_67) rfl (by kernel_rfl) (by kernel_rfl) (by kernel_rfl) (fun _ _ _ h => h) (Or.inl ⟨by rfl, ?hy0_67⟩) (by assumption) ?rest0_67
  case hy0_67 => (intro w9 hSw; obtain ⟨m0, m1⟩ := hSw; refine (ld_v (by rfl) (by kernel_rfl) m1).trans ?_; with_reducible rfl)
  try simp only [Act.put, List.setIfInBounds_toArray, List.set_cons_zero, List.set_cons_succ, List.getElem_toArray, List.getElem_cons_zero, List.getElem_cons_succ]
  refine wpAnyH_take (i := 1) (v := ?v1_68) rfl (by kernel_rfl) (by kernel_rfl) (by kernel_rfl) (fun _ _ _ h => h) (Or.inl ⟨by rfl, ?hy1_68⟩) (by assumption) ?rest1_68
  case hy1_68 => (intro w9 hSw; clear hSw; go_simp; try with_reducible rfl)
  try simp only [Act.put, List.setIfInBounds_toArray, List.set_cons_zero, List.set_cons_succ, List.getElem_toArray, List.getElem_cons_zero, List.getElem_cons_succ]
  refine wpAnyH_take (i := 2) (v := ?v2_69) rfl (by kernel_rfl) (by kernel_rfl) (by kernel_rfl) (fun _ _ _ h => h) (Or.inl ⟨by rfl, ?hy2_69⟩) (by assumption) ?rest2_69
  case hy2_69 => (intro w9 hSw; obtain ⟨m0, m1⟩ := hSw; refine (ld_v (by rfl) (by kernel_rfl) m1).trans ?_; with_reducible rfl)
  try simp only [Act.put, List.setIfInBounds_toArray, List.set_cons_zero, List.set_cons_succ, List.getElem_toArray, List.getElem_cons_zero, List.getElem_cons_succ]
  refine wpAnyH_ready (rs := [3]) (by kernel_rfl) (by simp) ?_
  refine AllReadyH.cons rfl (fun K hK => ?_) AllReadyH.nil
  go_simp
  with_reducible refine (T_any y _).mono ?_
  rintro e w5 ⟨rfl, hb⟩
  replace Dx := Dx.on hb
  replace Dy := Dy.on hb
  replace bz := bz.trans (hb.mono bz.size)
  clear hb
  refine hK.out _ _ ⟨Dx, Dy⟩ (fun hH => ?_)
  clear hK K hS
  have hS := hH
  clear hH
  try simp only [Act.put, List.setIfInBounds_toArray, List.set_cons_zero, List.set_cons_succ, List.getElem_toArray, List.getElem_cons_zero, List.getElem_cons_succ]
  refine wpAnyH_ready (rs := [4]) (by kernel_rfl) (by simp) ?_
  refine AllReadyH.cons rfl (fun K hK => ?_) AllReadyH.nil
  go_simp
  have hBhN := Nat.lt_of_lt_of_le HST.out.gt.2 bz.size
  with_reducible refine (rows_is (HYS.out.on bz) HTR.out.1 HTR.out.2).mono ?_
  rintro e w6 ⟨o2, G2, cG2, rfl, hN, hb⟩
  replace Dx := Dx.on hb
  replace Dy := Dy.on hb
  replace bz := bz.trans (hb.mono bz.size)
  clear hb
  refine hK.out _ _ ⟨Dx, Dy⟩ (fun hH => ?_)
  clear hK K hS
  have hS := hH
  clear hH
  try simp only [Act.put, List.setIfInBounds_toArray, List.set_cons_zero, List.set_cons_succ, List.getElem_toArray, List.getElem_cons_zero, List.getElem_cons_succ]
  refine wpAnyH_take (i := 5) (v := ?v5_70) rfl (by kernel_rfl) (by kernel_rfl) (by kernel_rfl) (fun _ _ _ h => h) (Or.inl ⟨by rfl, ?hy5_70⟩) (by assumption) ?rest5_70
  case hy5_70 => (intro w9 hSw; clear hSw; go_simp; try with_reducible rfl)
  try simp only [Act.put, List.setIfInBounds_toArray, List.set_cons_zero, List.set_cons_succ, List.getElem_toArray, List.getElem_cons_zero, List.getElem_cons_succ]
  refine wpAnyH_take (i := 6) (v := ?v6_71) rfl (by kernel_rfl) (by kernel_rfl) (by kernel_rfl) (fun _ _ _ h => h) (Or.inl ⟨by rfl, ?hy6_71⟩) (by assumption) ?rest6_71
  case hy6_71 => (intro w9 hSw; clear hSw; go_simp; try with_reducible rfl)
  try simp only [Act.put, List.setIfInBounds_toArray, List.set_cons_zero, List.set_cons_succ, List.getElem_toArray, List.getElem_cons_zero, List.getElem_cons_succ]
  refine wpAnyH_done (by kernel_rfl) ?_ _
  obtain ⟨v0_0, v0_1, v0_2, v0_3, v0_4, v0_5, v0_6, v0_7, v0_8⟩ := Vbx.cells Dx
  obtain ⟨v1_0, v1_1, v1_2, v1_3, v1_4, v1_5, v1_6, v1_7, v1_8⟩ := Vbx.cells Dy
  have hBhM := Nat.lt_of_lt_of_le HST.out.gt.2 bz.size
  have hBw := bz.size
  have hN2 : o2 < w6.heap.size ∧ ∀ a, G2 = some a → a.block < w6.heap.size := ⟨hN.blk.lt, fun a e => (hN.own.gt e).2⟩
  go_wp2_with fail
  with_reducible refine (rows_is (HSx.out.on bz) HXR.out HXC.out).mono ?_
  rintro e w7 ⟨o1, G1, cG1, rfl, hM, hb⟩
  clear v0_0 v0_1 v0_2 v0_3 v0_4 v0_5 v0_6 v0_7 v0_8 v1_0 v1_1 v1_2 v1_3 v1_4 v1_5 v1_6 v1_7 v1_8
  replace Dx := Dx.on hb
  replace Dy := Dy.on hb
  replace hN := hN.on hb
  replace bz := bz.trans (hb.mono bz.size)
  clear hb
  obtain ⟨BM, hBM⟩ : ∃ z, w6.heap.size = z := ⟨_, rfl⟩
  rw [hBM] at hM hBhM hBw
  simp only [hBM] at hN2
  clear hBM
  have hs1 := HST.out.on bz
  have hgr := grown_below bz (some g)
  have hW : Wr y c l l (fun a b => decide (a < 0 ∨ (a = 0 ∧ b < 0))) f := Wr.start y c l f (fun a b _ => by simp)
  clear bz Dx Dy
  go_wp2_with fail
  go_loopw [41] (fun i wr => ∃ (k : Nat) (lx TX : List Int), k ≤ m ∧ i = .int .i64 k ∧ Wr y c l lx (fun a b => decide (a < k ∨ (a = k ∧ b < 0))) f ∧ St wr B s g cap c lx ∧ w.grownBy wr (some g) ∧ Rws wr BM o1 G1 cG1 m m TX ∧ Rws wr w5.heap.size o2 G2 cG2 q m YT ∧ (∀ a b, a < m → b < m → ma TX m a b = ma X m a b)) (fun i _ => m - (intOf i).toNat)
  case atStart => exact ⟨0, l, X, Nat.zero_le _, rfl, hW, hs1, hgr, hM, hN, fun a b _ _ => by simp⟩
  case round =>
    clear hW hs1 hgr hM hN
    obtain ⟨i, lx, TX, hi, rfl, hW, hs1, hgr, hM, hN, hTX⟩ := hrel
    by_cases hlt : i < m
    · have i0 : (0 : Int) ≤ i := by omega
      have i1 : (i : Int) < m := by omega
      obtain ⟨ad, c5, hBa, hao, hc5m, hpt⟩ := hM.putrow hlt hlt
      have HPT := Lib.hid hpt
      have hc5 := (hpt _ _ hM).1
      have HTX := Lib.hid hTX
      clear hTX
      have HRT := Lib.hid (show ∀ k, k < m → ma TX m i k = trT false X m i k from fun k hk => by rw [HTX.out i k hlt hk]; rfl)
      clear hpt
      go_wp2_with fail
      clear hc5
      go_loopw [58] (fun j wr => ∃ (jj : Nat) (lx : List Int), jj ≤ q ∧ j = .int .i64 jj ∧ Wr y c l lx (fun a b => decide (a < i ∨ (a = i ∧ b < jj))) f ∧ St wr B s g cap c lx ∧ w.grownBy wr (some g) ∧ Rws wr BM o1 G1 cG1 m m TX ∧ Rws wr w5.heap.size o2 G2 cG2 q m YT) (fun j _ => q - (intOf j).toNat)
      case atStart => exact ⟨0, lx, by omega, by go_num, hW, hs1, hgr, hM, hN⟩
      case round =>
        clear hW hs1 hgr hM hN
        obtain ⟨j, lx, hj, rfl, hW, hs1, hgr, hM, hN⟩ := hrel
        by_cases hjt : j < q
        · have j0 : (0 : Int) ≤ j := by omega
          have j1 : (j : Int) < q := by omega
          have hh : y.has i j = true := (has_iff _ _ _).2 (by rw [HR9.out, HC9.out]; omega)
          obtain ⟨ae, c6, _, _, hc6m, hp6⟩ := hN.putrow hjt hlt
          have HP6 := Lib.hid hp6
          have hc6 := (hp6 _ _ hN).1
          clear hp6
          have hz1 : (0 : Int) ≤ (i : Int) + 1 := by omega
          have hz2 : (i : Int) ≤ m := by omega
          have hne5 : ¬ c5 = 0 := by omega
          have hne6 : ¬ c6 = 0 := by omega
          have l5 : ((i : Int) + 1 : Int) ≤ c5 := by omega
          have l6 : ((i : Int) + 1 : Int) ≤ c6 := by omega
          go_wp2_with fail
          clear hc6
          have bz := (Below.refl wr.heap.size wr).drew
          replace hM := hM.on (Below.refl _ wr).drew
          replace hN := hN.on (Below.refl _ wr).drew
          replace hs1 := hs1.on (Below.refl _ wr).drew
          refine wp_region_held_drew (S := fun w9 : World => True) (by kernel_rfl) trivial (fun hS => ?_)
          refine wpAnyH_take (i := 0) (v := ?v0_72) rfl (by kernel_rfl) (by kernel_rfl) (by kernel_rfl) (fun _ _ _ h => h) (Or.inl ⟨by rfl, ?hy0_72⟩) (by assumption) ?rest0_72
          case hy0_72 => (intro w9 hSw; clear hSw; go_simp; try with_reducible rfl)
          try simp only [Act.put, List.setIfInBounds_toArray, List.set_cons_zero, List.set_cons_succ, List.getElem_toArray, List.getElem_cons_zero, List.getElem_cons_succ]
          refine wpAnyH_take (i := 1) (v := ?v1_73) rfl (by kernel_rfl) (by kernel_rfl) (by kernel_rfl) (fun _ _ _ h => h) (Or.inl ⟨by rfl, ?hy1_73⟩) (by assumption) ?rest1_73
          case hy1_73 => (intro w9 hSw; clear hSw; go_simp; try with_reducible rfl)
          try simp only [Act.put, List.setIfInBounds_toArray, List.set_cons_zero, List.set_cons_succ, List.getElem_toArray, List.getElem_cons_zero, List.getElem_cons_succ]
          refine wpAnyH_take (i := 2) (v := ?v2_74) rfl (by kernel_rfl) (by kernel_rfl) (by kernel_rfl) (fun _ _ _ h => h) (Or.inl ⟨by rfl, ?hy2_74⟩) (by assumption) ?rest2_74
          case hy2_74 => (intro w9 hSw; clear hSw; go_simp; try with_reducible rfl)
          try simp only [Act.put, List.setIfInBounds_toArray, List.set_cons_zero, List.set_cons_succ, List.getElem_toArray, List.getElem_cons_zero, List.getElem_cons_succ]
          refine wpAnyH_take (i := 3) (v := ?v3_75) rfl (by kernel_rfl) (by kernel_rfl) (by kernel_rfl) (fun _ _ _ h => h) (Or.inl ⟨by rfl, ?hy3_75⟩) (by assumption) ?rest3_75
          case hy3_75 => (intro w9 hSw; clear hSw; go_simp; try with_reducible rfl)
          try simp only [Act.put, List.setIfInBounds_toArray, List.set_cons_zero, List.set_cons_succ, List.getElem_toArray, List.getElem_cons_zero, List.getElem_cons_succ]
          refine wpAnyH_take (i := 4) (v := ?v4_76) rfl (by kernel_rfl) (by kernel_rfl) (by kernel_rfl) (fun _ _ _ h => h) (Or.inl ⟨by rfl, ?hy4_76⟩) (by assumption) ?rest4_76
          case hy4_76 => (intro w9 hSw; clear hSw; go_simp; try with_reducible rfl)
          try simp only [Act.put, List.setIfInBounds_toArray, List.set_cons_zero, List.set_cons_succ, List.getElem_toArray, List.getElem_cons_zero, List.getElem_cons_succ]
          refine wpAnyH_take (i := 5) (v := ?v5_77) rfl (by kernel_rfl) (by kernel_rfl) (by kernel_rfl) (fun _ _ _ h => h) (Or.inl ⟨by rfl, ?hy5_77⟩) (by assumption) ?rest5_77
          case hy5_77 => (intro w9 hSw; clear hSw; go_simp; try with_reducible rfl)
          try simp only [Act.put, List.setIfInBounds_toArray, List.set_cons_zero, List.set_cons_succ, List.getElem_toArray, List.getElem_cons_zero, List.getElem_cons_succ]
          refine wpAnyH_take (i := 6) (v := ?v6_78) rfl (by kernel_rfl) (by kernel_rfl) (by kernel_rfl) (fun _ _ _ h => h) (Or.inl ⟨by rfl, ?hy6_78⟩) (by assumption) ?rest6_78
          case hy6_78 => (intro w9 hSw; clear hSw; go_simp; try with_reducible rfl)
          try simp only [Act.put, List.setIfInBounds_toArray, List.set_cons_zero, List.set_cons_succ, List.getElem_toArray, List.getElem_cons_zero, List.getElem_cons_succ]
          refine wpAnyH_take (i := 7) (v := ?v7_79) rfl (by kernel_rfl) (by kernel_rfl) (by kernel_rfl) (fun _ _ _ h => h) (Or.inl ⟨by rfl, ?hy7_79⟩) (by assumption) ?rest7_79
          case hy7_79 => (intro w9 hSw; clear hSw; go_simp; try with_reducible rfl)
          try simp only [Act.put, List.setIfInBounds_toArray, List.set_cons_zero, List.set_cons_succ, List.getElem_toArray, List.getElem_cons_zero, List.getElem_cons_succ]
          refine wpAnyH_take (i := 8) (v := ?v8_80) rfl (by kernel_rfl) (by kernel_rfl) (by kernel_rfl) (fun _ _ _ h => h) (Or.inl ⟨by rfl, ?hy8_80⟩) (by assumption) ?rest8_80
          case hy8_80 => (intro w9 hSw; clear hSw; go_simp; try with_reducible rfl)
          try simp only [Act.put, List.setIfInBounds_toArray, List.set_cons_zero, List.set_cons_succ, List.getElem_toArray, List.getElem_cons_zero, List.getElem_cons_succ]
          refine wpAnyH_take (i := 9) (v := ?v9_81) rfl (by kernel_rfl) (by kernel_rfl) (by kernel_rfl) (fun _ _ _ h => h) (Or.inl ⟨by rfl, ?hy9_81⟩) (by assumption) ?rest9_81
          case hy9_81 => (intro w9 hSw; clear hSw; go_simp; try with_reducible rfl)
          try simp only [Act.put, List.setIfInBounds_toArray, List.set_cons_zero, List.set_cons_succ, List.getElem_toArray, List.getElem_cons_zero, List.getElem_cons_succ]
          refine wpAnyH_take (i := 10) (v := ?v10_82) rfl (by kernel_rfl) (by kernel_rfl) (by kernel_rfl) (fun _ _ _ h => h) (Or.inl ⟨by rfl, ?hy10_82⟩) (by assumption) ?rest10_82
          case hy10_82 => (intro w9 hSw; clear hSw; go_simp; try with_reducible rfl)
          try simp only [Act.put, List.setIfInBounds_toArray, List.set_cons_zero, List.set_cons_succ, List.getElem_toArray, List.getElem_cons_zero, List.getElem_cons_succ]
          refine wpAnyH_ready (rs := [11]) (by kernel_rfl) (by simp) ?_
          refine AllReadyH.cons rfl (fun K hK => ?_) AllReadyH.nil
          go_simp
          have hr5 := ((HPT.out _ _ hM).2.1).cut (lo := 0) (k := (i + 1) - 0) (by omega)
          have hr6 := ((HP6.out _ _ hN).2.1).cut (lo := 0) (k := (i + 1) - 0) (by omega)
          rw [if_neg hne5] at hr5
          rw [if_neg hne6] at hr6
          have hdd := dot_any hr5 hr6 (Nat.le_refl _)
          rw [dot_tri (by omega) hjt HRT.out HYD.out] at hdd
          simp only [Nat.sub_zero, Option.map_some, add_nil] at hdd
          with_reducible refine hdd.mono ?_
          rintro e v1 ⟨rD, rfl, hD, bD, hb⟩
          replace hM := hM.on hb
          replace hN := hN.on hb
          replace hs1 := hs1.on hb
          replace bz := bz.trans (hb.mono bz.size)
          have HD := Lib.hid hD
          clear hD hb hdd hr5 hr6
          refine hK.out _ _ trivial (fun hH => ?_)
          clear hK K hS
          have hS := hH
          clear hH
          try simp only [Act.put, List.setIfInBounds_toArray, List.set_cons_zero, List.set_cons_succ, List.getElem_toArray, List.getElem_cons_zero, List.getElem_cons_succ]
          refine wpAnyH_ready (rs := [12]) (by kernel_rfl) (by simp) ?_
          refine AllReadyH.cons rfl (fun K hK => ?_) AllReadyH.nil
          go_simp
          have HR : Hid (af rD = f i j) := Lib.hid (by rw [HD.out]; exact HF.out i j)
          with_reducible refine (set_wr hW HVK.out HIJ.out HLL.out hs1 hh (r := rD) (Q := fun a b => decide (a < i ∨ (a = i ∧ b < (j + 1)))) HR.out bD (fun a b hab => by simp only [← Bool.decide_or, decide_eq_decide]; omega)).mono ?_
          rintro e w9 ⟨u5, lx2, rfl, hs2, hg2, hW2⟩
          replace hM := hM.grown hg2 (fun k e => by injection e with e; omega)
          replace hN := hN.grown hg2 (fun k e => by injection e with e; omega)
          have hgr2 := grown_trans (grown_on hgr bz) hg2
          clear hs1 hW
          refine hK.out _ _ trivial (fun hH => ?_)
          clear hK K hS
          have hS := hH
          clear hH
          try simp only [Act.put, List.setIfInBounds_toArray, List.set_cons_zero, List.set_cons_succ, List.getElem_toArray, List.getElem_cons_zero, List.getElem_cons_succ]
          refine wpAnyH_done (by kernel_rfl) ?_ _
          go_wp2_with fail
          go_roundw
          case rel => exact ⟨j + 1, lx2, by omega, by go_num, hW2, hs2, hgr2, hM, hN⟩
          case measure => simp [intOf]; omega
        · have hW9 := hW.congr (Q := fun a b => decide (a < (i + 1) ∨ (a = (i + 1) ∧ b < 0))) (fun a b hab => by have hb9 := (has_iff _ _ _).1 hab; rw [HR9.out, HC9.out] at hb9; simp only [decide_eq_decide]; omega)
          go_wp2_with fail
          go_roundw
          case rel => exact ⟨i + 1, lx, TX, by omega, by go_num, hW9, hs1, hgr, hM, hN, HTX.out⟩
          case measure => simp [intOf]; omega
    · obtain rfl : i = m := by omega
      go_wp2_with fail
      go_ret
      exact ⟨lx, rfl, hs1, hgr, hW.congr (fun a b hab => by have hb9 := (has_iff _ _ _).1 hab; rw [HR9.out, HC9.out] at hb9; simp; omega)⟩
set_option maxRecDepth 100000 in
set_option maxHeartbeats 8000000 in
theorem Trmm_ft  (hx : Sv w x X) (hy : Sv w y Y) (he : refE (szd x y.R y.R) [x, y] = 0) (hv : Vk y s c n K) (hs : St w B s g cap c l) (hl : l.length = n) (hj : Inj y c) (hum0 : y.R = m) (huq0 : y.C = q) :
    Calls Try.prog 47 #[.bool false, .bool true, x.V, y.V] w (WrA w B s g cap c y l (fun _ _ => true) (fun i j => trS true X Y m q i j 0 (i + 1))) := by
  have he0 := he
  have hfit := (refE_some he).1
  have HPN : Hid (y.p ≠ none) := Lib.hid ((refE_some he).2 y (by simp))
  rw [hfit] at he
  have HE := Lib.hid he
  have h0 := hfit
  have e0 := szd_is h0
  have hR5 := hy.R
  have hC5 := hy.C
  have hxr : x.R = (m : Int) := by rw [e0.1]; exact hum0
  have hxc : x.C = (m : Int) := by rw [e0.2]; exact hum0
  obtain ⟨YT, hYT, HYT⟩ := hy.turn ((refE_some he0).2 y (by simp)) hum0 huq0
  have htR : y.turnO.R = (q : Int) ∧ y.turnO.C = (m : Int) := by have e : y.turnO = y.T := by { unfold Vu.turnO; rw [show (y.p == none) = false by cases hq : y.p; exact absurd hq ((refE_some he0).2 y (by simp)); rfl]; rfl }; rw [e]; exact ⟨huq0, hum0⟩
  rw [hum0] at hR5
  rw [huq0] at hC5
  have HYS := Lib.hid hYT
  have HYD := Lib.hid HYT
  have HTR := Lib.hid htR
  have HXR := Lib.hid hxr
  have HXC := Lib.hid hxc
  have HR9 := Lib.hid hum0
  have HC9 := Lib.hid huq0
  obtain ⟨f, hf⟩ : ∃ f : Nat → Nat → Option Nat, (fun i j => trS true X Y m q i j 0 (i + 1)) = f := ⟨_, rfl⟩
  have HF := Lib.hid (show ∀ i j, trS true X Y m q i j 0 (i + 1) = f i j from fun i j => by rw [← hf])
  rw [hf]
  clear hf e0 hxr hxc hYT HYT htR hum0 huq0 he0
  have HSx := Lib.hid hx
  have HSy := Lib.hid hy
  have HST := Lib.hid hs
  have HVK := Lib.hid hv
  have HIJ := Lib.hid hj
  have HLL := Lib.hid hl
  have p2 := fun (W : World) (bz : Below w.heap.size w W) => sized_is x y.R y.R W
  simp only [h0] at p2
  clear he hs hv hj hl hx hy h0
  have Dx := Blk.new w x.L 30
  have Dy := Blk.new (w.alloc (.cells x.L.toArray 30)) y.L 30
  replace Dx := Dx.alloc (.cells y.L.toArray 30)
  simp only [World.size_alloc] at Dy
  have bz := ((Below.refl _ w).alloc (Nat.le_refl _) (.cells x.L.toArray 30)).alloc (by simp <;> omega) (.cells y.L.toArray 30)
  have hsz0 : ((w.alloc (.cells x.L.toArray 30)).alloc (.cells y.L.toArray 30)).heap.size = w.heap.size + 2 := by simp
  go_enter Try.func47, Try.ntmps47
  go_wp2_with fail
  replace Dx := Dx.drew
  replace Dy := Dy.drew
  replace bz := bz.drew
  refine wp_region_held_drew (S := fun w9 : World => Vbx w9 w.heap.size x ∧ Vbx w9 (w.heap.size + 1) y) (by kernel_rfl) ⟨Dx, Dy⟩ (fun hS => ?_)
  generalize ((w.alloc (.cells x.L.toArray 30)).alloc (.cells y.L.toArray 30)).drew = wd at hS Dx Dy  bz ⊢
  refine wpAnyH_take (i := 0) (v := ?v0_83) rfl (by kernel_rfl) (by kernel_rfl) (by kernel_rfl) (fun _ _ _ h => h) (Or.inl ⟨by rfl, ?hy0_83⟩) (by assumption) ?rest0_83
  case hy0_83 => (intro w9 hSw; obtain ⟨m0, m1⟩ := hSw; refine (ld_v (by rfl) (by kernel_rfl) m0).trans ?_; with_reducible rfl)
  try simp only [Act.put, List.setIfInBounds_toArray, List.set_cons_zero, List.set_cons_succ, List.getElem_toArray, List.getElem_cons_zero, List.getElem_cons_succ]
  refine wpAnyH_take (i := 1) (v := ?v1_84) rfl (by kernel_rfl) (by kernel_rfl) (by kernel_rfl) (fun _ _ _ h => h) (Or.inl ⟨by rfl, ?hy1_84⟩) (by assumption) ?rest1_84
  case hy1_84 => (intro w9 hSw; obtain ⟨m0, m1⟩ := hSw; refine (ld_v (by rfl) (by kernel_rfl) m1).trans ?_; with_reducible rfl)
  try simp only [Act.put, List.setIfInBounds_toArray, List.set_cons_zero, List.set_cons_succ, List.getElem_toArray, List.getElem_cons_zero, List.getElem_cons_succ]
  refine wpAnyH_take (i := 3) (v := ?v3_85) rfl (by kernel_rfl) (by kernel_rfl) (by kernel_rfl) (fun _ _ _ h => h) (Or.inl ⟨by rfl, ?hy3_85⟩) (by assumption) ?rest3_85
  case hy3_85 => (intro w9 hSw; obtain ⟨m0, m1⟩ := hSw; refine (ld_v (by rfl) (by kernel_rfl) m1).trans ?_; with_reducible rfl)
  try simp only [Act.put, List.setIfInBounds_toArray, List.set_cons_zero, List.set_cons_succ, List.getElem_toArray, List.getElem_cons_zero, List.getElem_cons_succ]
  refine wpAnyH_ready (rs := [2]) (by kernel_rfl) (by simp) ?_
  refine AllReadyH.cons rfl (fun K hK => ?_) AllReadyH.nil
  go_simp
  with_reducible refine (Rows_any y _).mono ?_
  rintro e w1 ⟨rfl, hb⟩
  replace Dx := Dx.on hb
  replace Dy := Dy.on hb
  replace bz := bz.trans (hb.mono bz.size)
  clear hb
  refine hK.out _ _ ⟨Dx, Dy⟩ (fun hH => ?_)
  clear hK K hS
  have hS := hH
  clear hH
  try simp only [Act.put, List.setIfInBounds_toArray, List.set_cons_zero, List.set_cons_succ, List.getElem_toArray, List.getElem_cons_zero, List.getElem_cons_succ]
  refine wpAnyH_ready (rs := [4]) (by kernel_rfl) (by simp) ?_
  refine AllReadyH.cons rfl (fun K hK => ?_) AllReadyH.nil
  go_simp
  with_reducible refine (Rows_any y _).mono ?_
  rintro e w2 ⟨rfl, hb⟩
  replace Dx := Dx.on hb
  replace Dy := Dy.on hb
  replace bz := bz.trans (hb.mono bz.size)
  clear hb
  refine hK.out _ _ ⟨Dx, Dy⟩ (fun hH => ?_)
  clear hK K hS
  have hS := hH
  clear hH
  try simp only [Act.put, List.setIfInBounds_toArray, List.set_cons_zero, List.set_cons_succ, List.getElem_toArray, List.getElem_cons_zero, List.getElem_cons_succ]
  refine wpAnyH_ready (rs := [5]) (by kernel_rfl) (by simp) ?_
  refine AllReadyH.cons rfl (fun K hK => ?_) AllReadyH.nil
  go_simp
  with_reducible refine (p2 _ bz).mono ?_
  rintro e w3 ⟨rfl, hb⟩
  replace Dx := Dx.on hb
  replace Dy := Dy.on hb
  replace bz := bz.trans (hb.mono bz.size)
  clear hb
  refine hK.out _ _ ⟨Dx, Dy⟩ (fun hH => ?_)
  clear hK K hS
  have hS := hH
  clear hH
  try simp only [Act.put, List.setIfInBounds_toArray, List.set_cons_zero, List.set_cons_succ, List.getElem_toArray, List.getElem_cons_zero, List.getElem_cons_succ]
  refine wpAnyH_take (i := 6) (v := ?v6_86) rfl (by kernel_rfl) (by kernel_rfl) (by kernel_rfl) (fun _ _ _ h => h) (Or.inl ⟨by rfl, ?hy6_86⟩) (by assumption) ?rest6_86
  case hy6_86 => (intro w9 hSw; clear hSw; go_simp; try with_reducible rfl)
  try simp only [Act.put, List.setIfInBounds_toArray, List.set_cons_zero, List.set_cons_succ, List.getElem_toArray, List.getElem_cons_zero, List.getElem_cons_succ]
  refine wpAnyH_done (by kernel_rfl) ?_ _
  obtain ⟨v0_0, v0_1, v0_2, v0_3, v0_4, v0_5, v0_6, v0_7, v0_8⟩ := Vbx.cells Dx
  obtain ⟨v1_0, v1_1, v1_2, v1_3, v1_4, v1_5, v1_6, v1_7, v1_8⟩ := Vbx.cells Dy
  have hL : VLs (w3.alloc (.cells #[.pointer x.p, .int .i64 x.f0, .int .i64 x.f1, .int .i64 x.d0, .int .i64 x.d1, .int .i64 x.r0, .int .i64 x.r1, .int .i64 x.R, .int .i64 x.C, .pointer y.p, .int .i64 y.f0, .int .i64 y.f1, .int .i64 y.d0, .int .i64 y.d1, .int .i64 y.r0, .int .i64 y.r1, .int .i64 y.R, .int .i64 y.C] 30)) ⟨w3.heap.size, 0, none⟩ [x, y] := VLs.of (Blk.new w3 ([x, y].flatMap Vu.L) 30)
  replace Dx := Dx.on ((Below.refl _ _).alloc (Nat.le_refl _) ((.cells #[.pointer x.p, .int .i64 x.f0, .int .i64 x.f1, .int .i64 x.d0, .int .i64 x.d1, .int .i64 x.r0, .int .i64 x.r1, .int .i64 x.R, .int .i64 x.C, .pointer y.p, .int .i64 y.f0, .int .i64 y.f1, .int .i64 y.d0, .int .i64 y.d1, .int .i64 y.r0, .int .i64 y.r1, .int .i64 y.R, .int .i64 y.C] 30)))
  replace Dy := Dy.on ((Below.refl _ _).alloc (Nat.le_refl _) ((.cells #[.pointer x.p, .int .i64 x.f0, .int .i64 x.f1, .int .i64 x.d0, .int .i64 x.d1, .int .i64 x.r0, .int .i64 x.r1, .int .i64 x.R, .int .i64 x.C, .pointer y.p, .int .i64 y.f0, .int .i64 y.f1, .int .i64 y.d0, .int .i64 y.d1, .int .i64 y.r0, .int .i64 y.r1, .int .i64 y.R, .int .i64 y.C] 30)))
  replace bz := bz.alloc bz.size ((.cells #[.pointer x.p, .int .i64 x.f0, .int .i64 x.f1, .int .i64 x.d0, .int .i64 x.d1, .int .i64 x.r0, .int .i64 x.r1, .int .i64 x.R, .int .i64 x.C, .pointer y.p, .int .i64 y.f0, .int .i64 y.f1, .int .i64 y.d0, .int .i64 y.d1, .int .i64 y.r0, .int .i64 y.r1, .int .i64 y.R, .int .i64 y.C] 30))
  go_wp2_with fail
  with_reducible refine (refused_is true (vs := [x, y]) (n := 2) rfl (by omega) hL (by intro z hz; simp only [List.mem_cons, List.mem_nil_iff, or_false] at hz; rcases hz with rfl | rfl; exact ⟨_, HSx.out.on bz⟩; exact ⟨_, HSy.out.on bz⟩)).mono ?_
  rintro e w4 ⟨rfl, hb⟩
  clear v0_0 v0_1 v0_2 v0_3 v0_4 v0_5 v0_6 v0_7 v0_8 v1_0 v1_1 v1_2 v1_3 v1_4 v1_5 v1_6 v1_7 v1_8
  replace Dx := Dx.on hb
  replace Dy := Dy.on hb
  replace hL := hL.on hb
  replace bz := bz.trans (hb.mono bz.size)
  clear hb hL
  rw [HE.out]
  go_wp2_with fail
  replace Dx := Dx.drew
  replace Dy := Dy.drew
  replace bz := bz.drew
  refine wp_region_held_drew (S := fun w9 : World => Vbx w9 w.heap.size x ∧ Vbx w9 (w.heap.size + 1) y) (by kernel_rfl) ⟨Dx, Dy⟩ (fun hS => ?_)
  generalize w4.drew = wf at hS Dx Dy  bz ⊢
  refine wpAnyH_take (i := 0) (v := ?v0_87) rfl (by kernel_rfl) (by kernel_rfl) (by kernel_rfl) (fun _ _ _ h => h) (Or.inl ⟨by rfl, ?hy0_87⟩) (by assumption) ?rest0_87
  case hy0_87 => (intro w9 hSw; obtain ⟨m0, m1⟩ := hSw; refine (ld_v (by rfl) (by kernel_rfl) m1).trans ?_; with_reducible rfl)
  try simp only [Act.put, List.setIfInBounds_toArray, List.set_cons_zero, List.set_cons_succ, List.getElem_toArray, List.getElem_cons_zero, List.getElem_cons_succ]
  refine wpAnyH_take (i := 1) (v := ?v1_88) rfl (by kernel_rfl) (by kernel_rfl) (by kernel_rfl) (fun _ _ _ h => h) (Or.inl ⟨by rfl, ?hy1_88⟩) (by assumption) ?rest1_88
  case hy1_88 => (intro w9 hSw; clear hSw; go_simp; try with_reducible rfl)
  try simp only [Act.put, List.setIfInBounds_toArray, List.set_cons_zero, List.set_cons_succ, List.getElem_toArray, List.getElem_cons_zero, List.getElem_cons_succ]
  refine wpAnyH_take (i := 2) (v := ?v2_89) rfl (by kernel_rfl) (by kernel_rfl) (by kernel_rfl) (fun _ _ _ h => h) (Or.inl ⟨by rfl, ?hy2_89⟩) (by assumption) ?rest2_89
  case hy2_89 => (intro w9 hSw; obtain ⟨m0, m1⟩ := hSw; refine (ld_v (by rfl) (by kernel_rfl) m1).trans ?_; with_reducible rfl)
  try simp only [Act.put, List.setIfInBounds_toArray, List.set_cons_zero, List.set_cons_succ, List.getElem_toArray, List.getElem_cons_zero, List.getElem_cons_succ]
  refine wpAnyH_ready (rs := [3]) (by kernel_rfl) (by simp) ?_
  refine AllReadyH.cons rfl (fun K hK => ?_) AllReadyH.nil
  go_simp
  with_reducible refine (T_any y _).mono ?_
  rintro e w5 ⟨rfl, hb⟩
  replace Dx := Dx.on hb
  replace Dy := Dy.on hb
  replace bz := bz.trans (hb.mono bz.size)
  clear hb
  refine hK.out _ _ ⟨Dx, Dy⟩ (fun hH => ?_)
  clear hK K hS
  have hS := hH
  clear hH
  try simp only [Act.put, List.setIfInBounds_toArray, List.set_cons_zero, List.set_cons_succ, List.getElem_toArray, List.getElem_cons_zero, List.getElem_cons_succ]
  refine wpAnyH_ready (rs := [4]) (by kernel_rfl) (by simp) ?_
  refine AllReadyH.cons rfl (fun K hK => ?_) AllReadyH.nil
  go_simp
  have hBhN := Nat.lt_of_lt_of_le HST.out.gt.2 bz.size
  with_reducible refine (rows_is (HYS.out.on bz) HTR.out.1 HTR.out.2).mono ?_
  rintro e w6 ⟨o2, G2, cG2, rfl, hN, hb⟩
  replace Dx := Dx.on hb
  replace Dy := Dy.on hb
  replace bz := bz.trans (hb.mono bz.size)
  clear hb
  refine hK.out _ _ ⟨Dx, Dy⟩ (fun hH => ?_)
  clear hK K hS
  have hS := hH
  clear hH
  try simp only [Act.put, List.setIfInBounds_toArray, List.set_cons_zero, List.set_cons_succ, List.getElem_toArray, List.getElem_cons_zero, List.getElem_cons_succ]
  refine wpAnyH_take (i := 5) (v := ?v5_90) rfl (by kernel_rfl) (by kernel_rfl) (by kernel_rfl) (fun _ _ _ h => h) (Or.inl ⟨by rfl, ?hy5_90⟩) (by assumption) ?rest5_90
  case hy5_90 => (intro w9 hSw; clear hSw; go_simp; try with_reducible rfl)
  try simp only [Act.put, List.setIfInBounds_toArray, List.set_cons_zero, List.set_cons_succ, List.getElem_toArray, List.getElem_cons_zero, List.getElem_cons_succ]
  refine wpAnyH_take (i := 6) (v := ?v6_91) rfl (by kernel_rfl) (by kernel_rfl) (by kernel_rfl) (fun _ _ _ h => h) (Or.inl ⟨by rfl, ?hy6_91⟩) (by assumption) ?rest6_91
  case hy6_91 => (intro w9 hSw; clear hSw; go_simp; try with_reducible rfl)
  try simp only [Act.put, List.setIfInBounds_toArray, List.set_cons_zero, List.set_cons_succ, List.getElem_toArray, List.getElem_cons_zero, List.getElem_cons_succ]
  refine wpAnyH_done (by kernel_rfl) ?_ _
  obtain ⟨v0_0, v0_1, v0_2, v0_3, v0_4, v0_5, v0_6, v0_7, v0_8⟩ := Vbx.cells Dx
  obtain ⟨v1_0, v1_1, v1_2, v1_3, v1_4, v1_5, v1_6, v1_7, v1_8⟩ := Vbx.cells Dy
  have hBhM := Nat.lt_of_lt_of_le HST.out.gt.2 bz.size
  have hBw := bz.size
  have hN2 : o2 < w6.heap.size ∧ ∀ a, G2 = some a → a.block < w6.heap.size := ⟨hN.blk.lt, fun a e => (hN.own.gt e).2⟩
  go_wp2_with fail
  with_reducible refine (rows_is (HSx.out.on bz) HXR.out HXC.out).mono ?_
  rintro e w7 ⟨o1, G1, cG1, rfl, hM, hb⟩
  clear v0_0 v0_1 v0_2 v0_3 v0_4 v0_5 v0_6 v0_7 v0_8 v1_0 v1_1 v1_2 v1_3 v1_4 v1_5 v1_6 v1_7 v1_8
  replace Dx := Dx.on hb
  replace Dy := Dy.on hb
  replace hN := hN.on hb
  replace bz := bz.trans (hb.mono bz.size)
  clear hb
  obtain ⟨BM, hBM⟩ : ∃ z, w6.heap.size = z := ⟨_, rfl⟩
  rw [hBM] at hM hBhM hBw
  simp only [hBM] at hN2
  clear hBM
  have hs1 := HST.out.on bz
  have hgr := grown_below bz (some g)
  have hW : Wr y c l l (fun a b => decide (a < 0 ∨ (a = 0 ∧ b < 0))) f := Wr.start y c l f (fun a b _ => by simp)
  clear bz Dx Dy
  go_wp2_with fail
  go_loopw [41] (fun i wr => ∃ (k : Nat) (lx TX : List Int), k ≤ m ∧ i = .int .i64 k ∧ Wr y c l lx (fun a b => decide (a < k ∨ (a = k ∧ b < 0))) f ∧ St wr B s g cap c lx ∧ w.grownBy wr (some g) ∧ Rws wr BM o1 G1 cG1 m m TX ∧ Rws wr w5.heap.size o2 G2 cG2 q m YT ∧ (∀ a b, a < m → b < m → ma TX m a b = if a = b ∧ a < k then some 4607182418800017408 else ma X m a b)) (fun i _ => m - (intOf i).toNat)
  case atStart => exact ⟨0, l, X, Nat.zero_le _, rfl, hW, hs1, hgr, hM, hN, fun a b _ _ => by simp⟩
  case round =>
    clear hW hs1 hgr hM hN
    obtain ⟨i, lx, TX, hi, rfl, hW, hs1, hgr, hM, hN, hTX⟩ := hrel
    by_cases hlt : i < m
    · have i0 : (0 : Int) ≤ i := by omega
      have i1 : (i : Int) < m := by omega
      obtain ⟨ad, c5, hBa, hao, hc5m, hpt⟩ := hM.putrow hlt hlt
      have HPT := Lib.hid hpt
      have hc5 := (hpt _ _ hM).1
      have HTX := Lib.hid hTX
      clear hTX
      obtain ⟨_, _, hcs, hfs, hst⟩ := hpt _ _ hM
      obtain ⟨hM2, hgS⟩ := hst 4607182418800017408 (by omega)
      have hN3 := hN.grownHi hgS (by omega) (fun a e => by have := hN2.2 a e; omega)
      have hs3 := hs1.grown hgS (by have := HST.out.lt; omega) (by have := HST.out.gt.2; omega)
      have hgr3 := grown_hi hgr hgS (by omega)
      have HT2 := Lib.hid (show ∀ a b, a < m → b < m → ma (TX.set (i * m + i) ((4607182418800017408 : Nat) : Int)) m a b = if a = b ∧ a < i + 1 then some 4607182418800017408 else ma X m a b from fun a b ha hb => by
        have hkl := ix_lt hlt hlt
        rw [← hM.len] at hkl
        have h9 := HTX.out a b ha hb
        unfold ma at h9 ⊢
        rw [D_set (l := TX) _ _ hkl]
        by_cases e : a * m + b = i * m + i
        · obtain ⟨e1, e2⟩ := ix_eq hb hlt e
          rw [if_pos e, if_pos (by omega)]
          decide
        · rw [if_neg e, h9]
          have hn : ¬ (a = i ∧ b = i) := fun h => e (by rw [h.1, h.2])
          by_cases h : a = b ∧ a < i
          · rw [if_pos h, if_pos (by omega)]
          · rw [if_neg h, if_neg (by omega)])
      have HRT := Lib.hid (show ∀ k, k < m → ma (TX.set (i * m + i) ((4607182418800017408 : Nat) : Int)) m i k = trT true X m i k from fun k hk => by
        rw [HT2.out i k hlt hk]
        unfold trT
        by_cases h : k = i
        · rw [if_pos (by omega), if_pos (by simp [h])]
        · rw [if_neg (by omega), if_neg (by simp [h])])
      clear hs1 hgr hM hN hst hpt
      go_wp2_with fail
      clear hc5 hcs hfs
      obtain ⟨TX2, hT2⟩ : ∃ z, TX.set (i * m + i) ((4607182418800017408 : Nat) : Int) = z := ⟨_, rfl⟩
      rw [hT2] at hM2 HT2 HRT
      clear hT2 hgS
      generalize wr.setCell (ad.add i) (.float .f64 4607182418800017408) = wst at hM2 hN3 hs3 hgr3 ⊢
      have hM := hM2
      have hN := hN3
      have hs1 := hs3
      have hgr := hgr3
      clear hM2 hN3 hs3 hgr3 HTX
      have HTX := HT2
      clear HT2
      go_loopw [58] (fun j wr => ∃ (jj : Nat) (lx : List Int), jj ≤ q ∧ j = .int .i64 jj ∧ Wr y c l lx (fun a b => decide (a < i ∨ (a = i ∧ b < jj))) f ∧ St wr B s g cap c lx ∧ w.grownBy wr (some g) ∧ Rws wr BM o1 G1 cG1 m m TX2 ∧ Rws wr w5.heap.size o2 G2 cG2 q m YT) (fun j _ => q - (intOf j).toNat)
      case atStart => exact ⟨0, lx, by omega, by go_num, hW, hs1, hgr, hM, hN⟩
      case round =>
        clear hW hs1 hgr hM hN
        obtain ⟨j, lx, hj, rfl, hW, hs1, hgr, hM, hN⟩ := hrel
        by_cases hjt : j < q
        · have j0 : (0 : Int) ≤ j := by omega
          have j1 : (j : Int) < q := by omega
          have hh : y.has i j = true := (has_iff _ _ _).2 (by rw [HR9.out, HC9.out]; omega)
          obtain ⟨ae, c6, _, _, hc6m, hp6⟩ := hN.putrow hjt hlt
          have HP6 := Lib.hid hp6
          have hc6 := (hp6 _ _ hN).1
          clear hp6
          have hz1 : (0 : Int) ≤ (i : Int) + 1 := by omega
          have hz2 : (i : Int) ≤ m := by omega
          have hne5 : ¬ c5 = 0 := by omega
          have hne6 : ¬ c6 = 0 := by omega
          have l5 : ((i : Int) + 1 : Int) ≤ c5 := by omega
          have l6 : ((i : Int) + 1 : Int) ≤ c6 := by omega
          go_wp2_with fail
          clear hc6
          have bz := (Below.refl wr.heap.size wr).drew
          replace hM := hM.on (Below.refl _ wr).drew
          replace hN := hN.on (Below.refl _ wr).drew
          replace hs1 := hs1.on (Below.refl _ wr).drew
          refine wp_region_held_drew (S := fun w9 : World => True) (by kernel_rfl) trivial (fun hS => ?_)
          refine wpAnyH_take (i := 0) (v := ?v0_92) rfl (by kernel_rfl) (by kernel_rfl) (by kernel_rfl) (fun _ _ _ h => h) (Or.inl ⟨by rfl, ?hy0_92⟩) (by assumption) ?rest0_92
          case hy0_92 => (intro w9 hSw; clear hSw; go_simp; try with_reducible rfl)
          try simp only [Act.put, List.setIfInBounds_toArray, List.set_cons_zero, List.set_cons_succ, List.getElem_toArray, List.getElem_cons_zero, List.getElem_cons_succ]
          refine wpAnyH_take (i := 1) (v := ?v1_93) rfl (by kernel_rfl) (by kernel_rfl) (by kernel_rfl) (fun _ _ _ h => h) (Or.inl ⟨by rfl, ?hy1_93⟩) (by assumption) ?rest1_93
          case hy1_93 => (intro w9 hSw; clear hSw; go_simp; try with_reducible rfl)
          try simp only [Act.put, List.setIfInBounds_toArray, List.set_cons_zero, List.set_cons_succ, List.getElem_toArray, List.getElem_cons_zero, List.getElem_cons_succ]
          refine wpAnyH_take (i := 2) (v := ?v2_94) rfl (by kernel_rfl) (by kernel_rfl) (by kernel_rfl) (fun _ _ _ h => h) (Or.inl ⟨by rfl, ?hy2_94⟩) (by assumption) ?rest2_94
          case hy2_94 => (intro w9 hSw; clear hSw; go_simp; try with_reducible rfl)
          try simp only [Act.put, List.setIfInBounds_toArray, List.set_cons_zero, List.set_cons_succ, List.getElem_toArray, List.getElem_cons_zero, List.getElem_cons_succ]
          refine wpAnyH_take (i := 3) (v := ?v3_95) rfl (by kernel_rfl) (by kernel_rfl) (by kernel_rfl) (fun _ _ _ h => h) (Or.inl ⟨by rfl, ?hy3_95⟩) (by assumption) ?rest3_95
          case hy3_95 => (intro w9 hSw; clear hSw; go_simp; try with_reducible rfl)
          try simp only [Act.put, List.setIfInBounds_toArray, List.set_cons_zero, List.set_cons_succ, List.getElem_toArray, List.getElem_cons_zero, List.getElem_cons_succ]
          refine wpAnyH_take (i := 4) (v := ?v4_96) rfl (by kernel_rfl) (by kernel_rfl) (by kernel_rfl) (fun _ _ _ h => h) (Or.inl ⟨by rfl, ?hy4_96⟩) (by assumption) ?rest4_96
          case hy4_96 => (intro w9 hSw; clear hSw; go_simp; try with_reducible rfl)
          try simp only [Act.put, List.setIfInBounds_toArray, List.set_cons_zero, List.set_cons_succ, List.getElem_toArray, List.getElem_cons_zero, List.getElem_cons_succ]
          refine wpAnyH_take (i := 5) (v := ?v5_97) rfl (by kernel_rfl) (by kernel_rfl) (by kernel_rfl) (fun _ _ _ h => h) (Or.inl ⟨by rfl, ?hy5_97⟩) (by assumption) ?rest5_97
          case hy5_97 => (intro w9 hSw; clear hSw; go_simp; try with_reducible rfl)
          try simp only [Act.put, List.setIfInBounds_toArray, List.set_cons_zero, List.set_cons_succ, List.getElem_toArray, List.getElem_cons_zero, List.getElem_cons_succ]
          refine wpAnyH_take (i := 6) (v := ?v6_98) rfl (by kernel_rfl) (by kernel_rfl) (by kernel_rfl) (fun _ _ _ h => h) (Or.inl ⟨by rfl, ?hy6_98⟩) (by assumption) ?rest6_98
          case hy6_98 => (intro w9 hSw; clear hSw; go_simp; try with_reducible rfl)
          try simp only [Act.put, List.setIfInBounds_toArray, List.set_cons_zero, List.set_cons_succ, List.getElem_toArray, List.getElem_cons_zero, List.getElem_cons_succ]
          refine wpAnyH_take (i := 7) (v := ?v7_99) rfl (by kernel_rfl) (by kernel_rfl) (by kernel_rfl) (fun _ _ _ h => h) (Or.inl ⟨by rfl, ?hy7_99⟩) (by assumption) ?rest7_99
          case hy7_99 => (intro w9 hSw; clear hSw; go_simp; try with_reducible rfl)
          try simp only [Act.put, List.setIfInBounds_toArray, List.set_cons_zero, List.set_cons_succ, List.getElem_toArray, List.getElem_cons_zero, List.getElem_cons_succ]
          refine wpAnyH_take (i := 8) (v := ?v8_100) rfl (by kernel_rfl) (by kernel_rfl) (by kernel_rfl) (fun _ _ _ h => h) (Or.inl ⟨by rfl, ?hy8_100⟩) (by assumption) ?rest8_100
          case hy8_100 => (intro w9 hSw; clear hSw; go_simp; try with_reducible rfl)
          try simp only [Act.put, List.setIfInBounds_toArray, List.set_cons_zero, List.set_cons_succ, List.getElem_toArray, List.getElem_cons_zero, List.getElem_cons_succ]
          refine wpAnyH_take (i := 9) (v := ?v9_101) rfl (by kernel_rfl) (by kernel_rfl) (by kernel_rfl) (fun _ _ _ h => h) (Or.inl ⟨by rfl, ?hy9_101⟩) (by assumption) ?rest9_101
          case hy9_101 => (intro w9 hSw; clear hSw; go_simp; try with_reducible rfl)
          try simp only [Act.put, List.setIfInBounds_toArray, List.set_cons_zero, List.set_cons_succ, List.getElem_toArray, List.getElem_cons_zero, List.getElem_cons_succ]
          refine wpAnyH_take (i := 10) (v := ?v10_102) rfl (by kernel_rfl) (by kernel_rfl) (by kernel_rfl) (fun _ _ _ h => h) (Or.inl ⟨by rfl, ?hy10_102⟩) (by assumption) ?rest10_102
          case hy10_102 => (intro w9 hSw; clear hSw; go_simp; try with_reducible rfl)
          try simp only [Act.put, List.setIfInBounds_toArray, List.set_cons_zero, List.set_cons_succ, List.getElem_toArray, List.getElem_cons_zero, List.getElem_cons_succ]
          refine wpAnyH_ready (rs := [11]) (by kernel_rfl) (by simp) ?_
          refine AllReadyH.cons rfl (fun K hK => ?_) AllReadyH.nil
          go_simp
          have hr5 := ((HPT.out _ _ hM).2.1).cut (lo := 0) (k := (i + 1) - 0) (by omega)
          have hr6 := ((HP6.out _ _ hN).2.1).cut (lo := 0) (k := (i + 1) - 0) (by omega)
          rw [if_neg hne5] at hr5
          rw [if_neg hne6] at hr6
          have hdd := dot_any hr5 hr6 (Nat.le_refl _)
          rw [dot_tri (by omega) hjt HRT.out HYD.out] at hdd
          simp only [Nat.sub_zero, Option.map_some, add_nil] at hdd
          with_reducible refine hdd.mono ?_
          rintro e v1 ⟨rD, rfl, hD, bD, hb⟩
          replace hM := hM.on hb
          replace hN := hN.on hb
          replace hs1 := hs1.on hb
          replace bz := bz.trans (hb.mono bz.size)
          have HD := Lib.hid hD
          clear hD hb hdd hr5 hr6
          refine hK.out _ _ trivial (fun hH => ?_)
          clear hK K hS
          have hS := hH
          clear hH
          try simp only [Act.put, List.setIfInBounds_toArray, List.set_cons_zero, List.set_cons_succ, List.getElem_toArray, List.getElem_cons_zero, List.getElem_cons_succ]
          refine wpAnyH_ready (rs := [12]) (by kernel_rfl) (by simp) ?_
          refine AllReadyH.cons rfl (fun K hK => ?_) AllReadyH.nil
          go_simp
          have HR : Hid (af rD = f i j) := Lib.hid (by rw [HD.out]; exact HF.out i j)
          with_reducible refine (set_wr hW HVK.out HIJ.out HLL.out hs1 hh (r := rD) (Q := fun a b => decide (a < i ∨ (a = i ∧ b < (j + 1)))) HR.out bD (fun a b hab => by simp only [← Bool.decide_or, decide_eq_decide]; omega)).mono ?_
          rintro e w9 ⟨u5, lx2, rfl, hs2, hg2, hW2⟩
          replace hM := hM.grown hg2 (fun k e => by injection e with e; omega)
          replace hN := hN.grown hg2 (fun k e => by injection e with e; omega)
          have hgr2 := grown_trans (grown_on hgr bz) hg2
          clear hs1 hW
          refine hK.out _ _ trivial (fun hH => ?_)
          clear hK K hS
          have hS := hH
          clear hH
          try simp only [Act.put, List.setIfInBounds_toArray, List.set_cons_zero, List.set_cons_succ, List.getElem_toArray, List.getElem_cons_zero, List.getElem_cons_succ]
          refine wpAnyH_done (by kernel_rfl) ?_ _
          go_wp2_with fail
          go_roundw
          case rel => exact ⟨j + 1, lx2, by omega, by go_num, hW2, hs2, hgr2, hM, hN⟩
          case measure => simp [intOf]; omega
        · have hW9 := hW.congr (Q := fun a b => decide (a < (i + 1) ∨ (a = (i + 1) ∧ b < 0))) (fun a b hab => by have hb9 := (has_iff _ _ _).1 hab; rw [HR9.out, HC9.out] at hb9; simp only [decide_eq_decide]; omega)
          go_wp2_with fail
          go_roundw
          case rel => exact ⟨i + 1, lx, TX2, by omega, by go_num, hW9, hs1, hgr, hM, hN, HTX.out⟩
          case measure => simp [intOf]; omega
    · obtain rfl : i = m := by omega
      go_wp2_with fail
      go_ret
      exact ⟨lx, rfl, hs1, hgr, hW.congr (fun a b hab => by have hb9 := (has_iff _ _ _).1 hab; rw [HR9.out, HC9.out] at hb9; simp; omega)⟩
set_option maxRecDepth 100000 in
set_option maxHeartbeats 8000000 in
theorem Trmm_tf  (hx : Sv w x X) (hy : Sv w y Y) (he : refE (szd x y.R y.R) [x, y] = 0) (hv : Vk y s c n K) (hs : St w B s g cap c l) (hl : l.length = n) (hj : Inj y c) (hum0 : y.R = m) (huq0 : y.C = q) :
    Calls Try.prog 47 #[.bool true, .bool false, x.V, y.V] w (WrA w B s g cap c y l (fun _ _ => true) (fun i j => trS false X Y m q i j i m)) := by
  have he0 := he
  have hfit := (refE_some he).1
  have HPN : Hid (y.p ≠ none) := Lib.hid ((refE_some he).2 y (by simp))
  rw [hfit] at he
  have HE := Lib.hid he
  have h0 := hfit
  have e0 := szd_is h0
  have hR5 := hy.R
  have hC5 := hy.C
  have hxr : x.R = (m : Int) := by rw [e0.1]; exact hum0
  have hxc : x.C = (m : Int) := by rw [e0.2]; exact hum0
  obtain ⟨YT, hYT, HYT⟩ := hy.turn ((refE_some he0).2 y (by simp)) hum0 huq0
  have htR : y.turnO.R = (q : Int) ∧ y.turnO.C = (m : Int) := by have e : y.turnO = y.T := by { unfold Vu.turnO; rw [show (y.p == none) = false by cases hq : y.p; exact absurd hq ((refE_some he0).2 y (by simp)); rfl]; rfl }; rw [e]; exact ⟨huq0, hum0⟩
  rw [hum0] at hR5
  rw [huq0] at hC5
  have HYS := Lib.hid hYT
  have HYD := Lib.hid HYT
  have HTR := Lib.hid htR
  have HXR := Lib.hid hxr
  have HXC := Lib.hid hxc
  have HR9 := Lib.hid hum0
  have HC9 := Lib.hid huq0
  obtain ⟨f, hf⟩ : ∃ f : Nat → Nat → Option Nat, (fun i j => trS false X Y m q i j i m) = f := ⟨_, rfl⟩
  have HF := Lib.hid (show ∀ i j, trS false X Y m q i j i m = f i j from fun i j => by rw [← hf])
  rw [hf]
  clear hf e0 hxr hxc hYT HYT htR hum0 huq0 he0
  have HSx := Lib.hid hx
  have HSy := Lib.hid hy
  have HST := Lib.hid hs
  have HVK := Lib.hid hv
  have HIJ := Lib.hid hj
  have HLL := Lib.hid hl
  have p2 := fun (W : World) (bz : Below w.heap.size w W) => sized_is x y.R y.R W
  simp only [h0] at p2
  clear he hs hv hj hl hx hy h0
  have Dx := Blk.new w x.L 30
  have Dy := Blk.new (w.alloc (.cells x.L.toArray 30)) y.L 30
  replace Dx := Dx.alloc (.cells y.L.toArray 30)
  simp only [World.size_alloc] at Dy
  have bz := ((Below.refl _ w).alloc (Nat.le_refl _) (.cells x.L.toArray 30)).alloc (by simp <;> omega) (.cells y.L.toArray 30)
  have hsz0 : ((w.alloc (.cells x.L.toArray 30)).alloc (.cells y.L.toArray 30)).heap.size = w.heap.size + 2 := by simp
  go_enter Try.func47, Try.ntmps47
  go_wp2_with fail
  replace Dx := Dx.drew
  replace Dy := Dy.drew
  replace bz := bz.drew
  refine wp_region_held_drew (S := fun w9 : World => Vbx w9 w.heap.size x ∧ Vbx w9 (w.heap.size + 1) y) (by kernel_rfl) ⟨Dx, Dy⟩ (fun hS => ?_)
  generalize ((w.alloc (.cells x.L.toArray 30)).alloc (.cells y.L.toArray 30)).drew = wd at hS Dx Dy  bz ⊢
  refine wpAnyH_take (i := 0) (v := ?v0_103) rfl (by kernel_rfl) (by kernel_rfl) (by kernel_rfl) (fun _ _ _ h => h) (Or.inl ⟨by rfl, ?hy0_103⟩) (by assumption) ?rest0_103
  case hy0_103 => (intro w9 hSw; obtain ⟨m0, m1⟩ := hSw; refine (ld_v (by rfl) (by kernel_rfl) m0).trans ?_; with_reducible rfl)
  try simp only [Act.put, List.setIfInBounds_toArray, List.set_cons_zero, List.set_cons_succ, List.getElem_toArray, List.getElem_cons_zero, List.getElem_cons_succ]
  refine wpAnyH_take (i := 1) (v := ?v1_104) rfl (by kernel_rfl) (by kernel_rfl) (by kernel_rfl) (fun _ _ _ h => h) (Or.inl ⟨by rfl, ?hy1_104⟩) (by assumption) ?rest1_104
  case hy1_104 => (intro w9 hSw; obtain ⟨m0, m1⟩ := hSw; refine (ld_v (by rfl) (by kernel_rfl) m1).trans ?_; with_reducible rfl)
  try simp only [Act.put, List.setIfInBounds_toArray, List.set_cons_zero, List.set_cons_succ, List.getElem_toArray, List.getElem_cons_zero, List.getElem_cons_succ]
  refine wpAnyH_take (i := 3) (v := ?v3_105) rfl (by kernel_rfl) (by kernel_rfl) (by kernel_rfl) (fun _ _ _ h => h) (Or.inl ⟨by rfl, ?hy3_105⟩) (by assumption) ?rest3_105
  case hy3_105 => (intro w9 hSw; obtain ⟨m0, m1⟩ := hSw; refine (ld_v (by rfl) (by kernel_rfl) m1).trans ?_; with_reducible rfl)
  try simp only [Act.put, List.setIfInBounds_toArray, List.set_cons_zero, List.set_cons_succ, List.getElem_toArray, List.getElem_cons_zero, List.getElem_cons_succ]
  refine wpAnyH_ready (rs := [2]) (by kernel_rfl) (by simp) ?_
  refine AllReadyH.cons rfl (fun K hK => ?_) AllReadyH.nil
  go_simp
  with_reducible refine (Rows_any y _).mono ?_
  rintro e w1 ⟨rfl, hb⟩
  replace Dx := Dx.on hb
  replace Dy := Dy.on hb
  replace bz := bz.trans (hb.mono bz.size)
  clear hb
  refine hK.out _ _ ⟨Dx, Dy⟩ (fun hH => ?_)
  clear hK K hS
  have hS := hH
  clear hH
  try simp only [Act.put, List.setIfInBounds_toArray, List.set_cons_zero, List.set_cons_succ, List.getElem_toArray, List.getElem_cons_zero, List.getElem_cons_succ]
  refine wpAnyH_ready (rs := [4]) (by kernel_rfl) (by simp) ?_
  refine AllReadyH.cons rfl (fun K hK => ?_) AllReadyH.nil
  go_simp
  with_reducible refine (Rows_any y _).mono ?_
  rintro e w2 ⟨rfl, hb⟩
  replace Dx := Dx.on hb
  replace Dy := Dy.on hb
  replace bz := bz.trans (hb.mono bz.size)
  clear hb
  refine hK.out _ _ ⟨Dx, Dy⟩ (fun hH => ?_)
  clear hK K hS
  have hS := hH
  clear hH
  try simp only [Act.put, List.setIfInBounds_toArray, List.set_cons_zero, List.set_cons_succ, List.getElem_toArray, List.getElem_cons_zero, List.getElem_cons_succ]
  refine wpAnyH_ready (rs := [5]) (by kernel_rfl) (by simp) ?_
  refine AllReadyH.cons rfl (fun K hK => ?_) AllReadyH.nil
  go_simp
  with_reducible refine (p2 _ bz).mono ?_
  rintro e w3 ⟨rfl, hb⟩
  replace Dx := Dx.on hb
  replace Dy := Dy.on hb
  replace bz := bz.trans (hb.mono bz.size)
  clear hb
  refine hK.out _ _ ⟨Dx, Dy⟩ (fun hH => ?_)
  clear hK K hS
  have hS := hH
  clear hH
  try simp only [Act.put, List.setIfInBounds_toArray, List.set_cons_zero, List.set_cons_succ, List.getElem_toArray, List.getElem_cons_zero, List.getElem_cons_succ]
  refine wpAnyH_take (i := 6) (v := ?v6_106) rfl (by kernel_rfl) (by kernel_rfl) (by kernel_rfl) (fun _ _ _ h => h) (Or.inl ⟨by rfl, ?hy6_106⟩) (by assumption) ?rest6_106
  case hy6_106 => (intro w9 hSw; clear hSw; go_simp; try with_reducible rfl)
  try simp only [Act.put, List.setIfInBounds_toArray, List.set_cons_zero, List.set_cons_succ, List.getElem_toArray, List.getElem_cons_zero, List.getElem_cons_succ]
  refine wpAnyH_done (by kernel_rfl) ?_ _
  obtain ⟨v0_0, v0_1, v0_2, v0_3, v0_4, v0_5, v0_6, v0_7, v0_8⟩ := Vbx.cells Dx
  obtain ⟨v1_0, v1_1, v1_2, v1_3, v1_4, v1_5, v1_6, v1_7, v1_8⟩ := Vbx.cells Dy
  have hL : VLs (w3.alloc (.cells #[.pointer x.p, .int .i64 x.f0, .int .i64 x.f1, .int .i64 x.d0, .int .i64 x.d1, .int .i64 x.r0, .int .i64 x.r1, .int .i64 x.R, .int .i64 x.C, .pointer y.p, .int .i64 y.f0, .int .i64 y.f1, .int .i64 y.d0, .int .i64 y.d1, .int .i64 y.r0, .int .i64 y.r1, .int .i64 y.R, .int .i64 y.C] 30)) ⟨w3.heap.size, 0, none⟩ [x, y] := VLs.of (Blk.new w3 ([x, y].flatMap Vu.L) 30)
  replace Dx := Dx.on ((Below.refl _ _).alloc (Nat.le_refl _) ((.cells #[.pointer x.p, .int .i64 x.f0, .int .i64 x.f1, .int .i64 x.d0, .int .i64 x.d1, .int .i64 x.r0, .int .i64 x.r1, .int .i64 x.R, .int .i64 x.C, .pointer y.p, .int .i64 y.f0, .int .i64 y.f1, .int .i64 y.d0, .int .i64 y.d1, .int .i64 y.r0, .int .i64 y.r1, .int .i64 y.R, .int .i64 y.C] 30)))
  replace Dy := Dy.on ((Below.refl _ _).alloc (Nat.le_refl _) ((.cells #[.pointer x.p, .int .i64 x.f0, .int .i64 x.f1, .int .i64 x.d0, .int .i64 x.d1, .int .i64 x.r0, .int .i64 x.r1, .int .i64 x.R, .int .i64 x.C, .pointer y.p, .int .i64 y.f0, .int .i64 y.f1, .int .i64 y.d0, .int .i64 y.d1, .int .i64 y.r0, .int .i64 y.r1, .int .i64 y.R, .int .i64 y.C] 30)))
  replace bz := bz.alloc bz.size ((.cells #[.pointer x.p, .int .i64 x.f0, .int .i64 x.f1, .int .i64 x.d0, .int .i64 x.d1, .int .i64 x.r0, .int .i64 x.r1, .int .i64 x.R, .int .i64 x.C, .pointer y.p, .int .i64 y.f0, .int .i64 y.f1, .int .i64 y.d0, .int .i64 y.d1, .int .i64 y.r0, .int .i64 y.r1, .int .i64 y.R, .int .i64 y.C] 30))
  go_wp2_with fail
  with_reducible refine (refused_is true (vs := [x, y]) (n := 2) rfl (by omega) hL (by intro z hz; simp only [List.mem_cons, List.mem_nil_iff, or_false] at hz; rcases hz with rfl | rfl; exact ⟨_, HSx.out.on bz⟩; exact ⟨_, HSy.out.on bz⟩)).mono ?_
  rintro e w4 ⟨rfl, hb⟩
  clear v0_0 v0_1 v0_2 v0_3 v0_4 v0_5 v0_6 v0_7 v0_8 v1_0 v1_1 v1_2 v1_3 v1_4 v1_5 v1_6 v1_7 v1_8
  replace Dx := Dx.on hb
  replace Dy := Dy.on hb
  replace hL := hL.on hb
  replace bz := bz.trans (hb.mono bz.size)
  clear hb hL
  rw [HE.out]
  go_wp2_with fail
  replace Dx := Dx.drew
  replace Dy := Dy.drew
  replace bz := bz.drew
  refine wp_region_held_drew (S := fun w9 : World => Vbx w9 w.heap.size x ∧ Vbx w9 (w.heap.size + 1) y) (by kernel_rfl) ⟨Dx, Dy⟩ (fun hS => ?_)
  generalize w4.drew = wf at hS Dx Dy  bz ⊢
  refine wpAnyH_take (i := 0) (v := ?v0_107) rfl (by kernel_rfl) (by kernel_rfl) (by kernel_rfl) (fun _ _ _ h => h) (Or.inl ⟨by rfl, ?hy0_107⟩) (by assumption) ?rest0_107
  case hy0_107 => (intro w9 hSw; obtain ⟨m0, m1⟩ := hSw; refine (ld_v (by rfl) (by kernel_rfl) m1).trans ?_; with_reducible rfl)
  try simp only [Act.put, List.setIfInBounds_toArray, List.set_cons_zero, List.set_cons_succ, List.getElem_toArray, List.getElem_cons_zero, List.getElem_cons_succ]
  refine wpAnyH_take (i := 1) (v := ?v1_108) rfl (by kernel_rfl) (by kernel_rfl) (by kernel_rfl) (fun _ _ _ h => h) (Or.inl ⟨by rfl, ?hy1_108⟩) (by assumption) ?rest1_108
  case hy1_108 => (intro w9 hSw; clear hSw; go_simp; try with_reducible rfl)
  try simp only [Act.put, List.setIfInBounds_toArray, List.set_cons_zero, List.set_cons_succ, List.getElem_toArray, List.getElem_cons_zero, List.getElem_cons_succ]
  refine wpAnyH_take (i := 2) (v := ?v2_109) rfl (by kernel_rfl) (by kernel_rfl) (by kernel_rfl) (fun _ _ _ h => h) (Or.inl ⟨by rfl, ?hy2_109⟩) (by assumption) ?rest2_109
  case hy2_109 => (intro w9 hSw; obtain ⟨m0, m1⟩ := hSw; refine (ld_v (by rfl) (by kernel_rfl) m1).trans ?_; with_reducible rfl)
  try simp only [Act.put, List.setIfInBounds_toArray, List.set_cons_zero, List.set_cons_succ, List.getElem_toArray, List.getElem_cons_zero, List.getElem_cons_succ]
  refine wpAnyH_ready (rs := [3]) (by kernel_rfl) (by simp) ?_
  refine AllReadyH.cons rfl (fun K hK => ?_) AllReadyH.nil
  go_simp
  with_reducible refine (T_any y _).mono ?_
  rintro e w5 ⟨rfl, hb⟩
  replace Dx := Dx.on hb
  replace Dy := Dy.on hb
  replace bz := bz.trans (hb.mono bz.size)
  clear hb
  refine hK.out _ _ ⟨Dx, Dy⟩ (fun hH => ?_)
  clear hK K hS
  have hS := hH
  clear hH
  try simp only [Act.put, List.setIfInBounds_toArray, List.set_cons_zero, List.set_cons_succ, List.getElem_toArray, List.getElem_cons_zero, List.getElem_cons_succ]
  refine wpAnyH_ready (rs := [4]) (by kernel_rfl) (by simp) ?_
  refine AllReadyH.cons rfl (fun K hK => ?_) AllReadyH.nil
  go_simp
  have hBhN := Nat.lt_of_lt_of_le HST.out.gt.2 bz.size
  with_reducible refine (rows_is (HYS.out.on bz) HTR.out.1 HTR.out.2).mono ?_
  rintro e w6 ⟨o2, G2, cG2, rfl, hN, hb⟩
  replace Dx := Dx.on hb
  replace Dy := Dy.on hb
  replace bz := bz.trans (hb.mono bz.size)
  clear hb
  refine hK.out _ _ ⟨Dx, Dy⟩ (fun hH => ?_)
  clear hK K hS
  have hS := hH
  clear hH
  try simp only [Act.put, List.setIfInBounds_toArray, List.set_cons_zero, List.set_cons_succ, List.getElem_toArray, List.getElem_cons_zero, List.getElem_cons_succ]
  refine wpAnyH_take (i := 5) (v := ?v5_110) rfl (by kernel_rfl) (by kernel_rfl) (by kernel_rfl) (fun _ _ _ h => h) (Or.inl ⟨by rfl, ?hy5_110⟩) (by assumption) ?rest5_110
  case hy5_110 => (intro w9 hSw; clear hSw; go_simp; try with_reducible rfl)
  try simp only [Act.put, List.setIfInBounds_toArray, List.set_cons_zero, List.set_cons_succ, List.getElem_toArray, List.getElem_cons_zero, List.getElem_cons_succ]
  refine wpAnyH_take (i := 6) (v := ?v6_111) rfl (by kernel_rfl) (by kernel_rfl) (by kernel_rfl) (fun _ _ _ h => h) (Or.inl ⟨by rfl, ?hy6_111⟩) (by assumption) ?rest6_111
  case hy6_111 => (intro w9 hSw; clear hSw; go_simp; try with_reducible rfl)
  try simp only [Act.put, List.setIfInBounds_toArray, List.set_cons_zero, List.set_cons_succ, List.getElem_toArray, List.getElem_cons_zero, List.getElem_cons_succ]
  refine wpAnyH_done (by kernel_rfl) ?_ _
  obtain ⟨v0_0, v0_1, v0_2, v0_3, v0_4, v0_5, v0_6, v0_7, v0_8⟩ := Vbx.cells Dx
  obtain ⟨v1_0, v1_1, v1_2, v1_3, v1_4, v1_5, v1_6, v1_7, v1_8⟩ := Vbx.cells Dy
  have hBhM := Nat.lt_of_lt_of_le HST.out.gt.2 bz.size
  have hBw := bz.size
  have hN2 : o2 < w6.heap.size ∧ ∀ a, G2 = some a → a.block < w6.heap.size := ⟨hN.blk.lt, fun a e => (hN.own.gt e).2⟩
  go_wp2_with fail
  with_reducible refine (rows_is (HSx.out.on bz) HXR.out HXC.out).mono ?_
  rintro e w7 ⟨o1, G1, cG1, rfl, hM, hb⟩
  clear v0_0 v0_1 v0_2 v0_3 v0_4 v0_5 v0_6 v0_7 v0_8 v1_0 v1_1 v1_2 v1_3 v1_4 v1_5 v1_6 v1_7 v1_8
  replace Dx := Dx.on hb
  replace Dy := Dy.on hb
  replace hN := hN.on hb
  replace bz := bz.trans (hb.mono bz.size)
  clear hb
  obtain ⟨BM, hBM⟩ : ∃ z, w6.heap.size = z := ⟨_, rfl⟩
  rw [hBM] at hM hBhM hBw
  simp only [hBM] at hN2
  clear hBM
  have hs1 := HST.out.on bz
  have hgr := grown_below bz (some g)
  have hW : Wr y c l l (fun a b => decide (a < 0 ∨ (a = 0 ∧ b < 0))) f := Wr.start y c l f (fun a b _ => by simp)
  clear bz Dx Dy
  go_wp2_with fail
  go_loopw [41] (fun i wr => ∃ (k : Nat) (lx TX : List Int), k ≤ m ∧ i = .int .i64 k ∧ Wr y c l lx (fun a b => decide (a < k ∨ (a = k ∧ b < 0))) f ∧ St wr B s g cap c lx ∧ w.grownBy wr (some g) ∧ Rws wr BM o1 G1 cG1 m m TX ∧ Rws wr w5.heap.size o2 G2 cG2 q m YT ∧ (∀ a b, a < m → b < m → ma TX m a b = ma X m a b)) (fun i _ => m - (intOf i).toNat)
  case atStart => exact ⟨0, l, X, Nat.zero_le _, rfl, hW, hs1, hgr, hM, hN, fun a b _ _ => by simp⟩
  case round =>
    clear hW hs1 hgr hM hN
    obtain ⟨i, lx, TX, hi, rfl, hW, hs1, hgr, hM, hN, hTX⟩ := hrel
    by_cases hlt : i < m
    · have i0 : (0 : Int) ≤ i := by omega
      have i1 : (i : Int) < m := by omega
      obtain ⟨ad, c5, hBa, hao, hc5m, hpt⟩ := hM.putrow hlt hlt
      have HPT := Lib.hid hpt
      have hc5 := (hpt _ _ hM).1
      have HTX := Lib.hid hTX
      clear hTX
      have HRT := Lib.hid (show ∀ k, k < m → ma TX m i k = trT false X m i k from fun k hk => by rw [HTX.out i k hlt hk]; rfl)
      clear hpt
      go_wp2_with fail
      clear hc5
      go_loopw [58] (fun j wr => ∃ (jj : Nat) (lx : List Int), jj ≤ q ∧ j = .int .i64 jj ∧ Wr y c l lx (fun a b => decide (a < i ∨ (a = i ∧ b < jj))) f ∧ St wr B s g cap c lx ∧ w.grownBy wr (some g) ∧ Rws wr BM o1 G1 cG1 m m TX ∧ Rws wr w5.heap.size o2 G2 cG2 q m YT) (fun j _ => q - (intOf j).toNat)
      case atStart => exact ⟨0, lx, by omega, by go_num, hW, hs1, hgr, hM, hN⟩
      case round =>
        clear hW hs1 hgr hM hN
        obtain ⟨j, lx, hj, rfl, hW, hs1, hgr, hM, hN⟩ := hrel
        by_cases hjt : j < q
        · have j0 : (0 : Int) ≤ j := by omega
          have j1 : (j : Int) < q := by omega
          have hh : y.has i j = true := (has_iff _ _ _).2 (by rw [HR9.out, HC9.out]; omega)
          obtain ⟨ae, c6, _, _, hc6m, hp6⟩ := hN.putrow hjt hlt
          have HP6 := Lib.hid hp6
          have hc6 := (hp6 _ _ hN).1
          clear hp6
          have hz1 : (0 : Int) ≤ (i : Int) + 1 := by omega
          have hz2 : (i : Int) ≤ m := by omega
          have hne5 : ¬ c5 = i := by omega
          have hne6 : ¬ c6 = i := by omega
          have l5 : (m : Int) ≤ c5 := by omega
          have l6 : (m : Int) ≤ c6 := by omega
          go_wp2_with fail
          clear hc6
          have bz := (Below.refl wr.heap.size wr).drew
          replace hM := hM.on (Below.refl _ wr).drew
          replace hN := hN.on (Below.refl _ wr).drew
          replace hs1 := hs1.on (Below.refl _ wr).drew
          refine wp_region_held_drew (S := fun w9 : World => True) (by kernel_rfl) trivial (fun hS => ?_)
          refine wpAnyH_take (i := 0) (v := ?v0_112) rfl (by kernel_rfl) (by kernel_rfl) (by kernel_rfl) (fun _ _ _ h => h) (Or.inl ⟨by rfl, ?hy0_112⟩) (by assumption) ?rest0_112
          case hy0_112 => (intro w9 hSw; clear hSw; go_simp; try with_reducible rfl)
          try simp only [Act.put, List.setIfInBounds_toArray, List.set_cons_zero, List.set_cons_succ, List.getElem_toArray, List.getElem_cons_zero, List.getElem_cons_succ]
          refine wpAnyH_take (i := 1) (v := ?v1_113) rfl (by kernel_rfl) (by kernel_rfl) (by kernel_rfl) (fun _ _ _ h => h) (Or.inl ⟨by rfl, ?hy1_113⟩) (by assumption) ?rest1_113
          case hy1_113 => (intro w9 hSw; clear hSw; go_simp; try with_reducible rfl)
          try simp only [Act.put, List.setIfInBounds_toArray, List.set_cons_zero, List.set_cons_succ, List.getElem_toArray, List.getElem_cons_zero, List.getElem_cons_succ]
          refine wpAnyH_take (i := 2) (v := ?v2_114) rfl (by kernel_rfl) (by kernel_rfl) (by kernel_rfl) (fun _ _ _ h => h) (Or.inl ⟨by rfl, ?hy2_114⟩) (by assumption) ?rest2_114
          case hy2_114 => (intro w9 hSw; clear hSw; go_simp; try with_reducible rfl)
          try simp only [Act.put, List.setIfInBounds_toArray, List.set_cons_zero, List.set_cons_succ, List.getElem_toArray, List.getElem_cons_zero, List.getElem_cons_succ]
          refine wpAnyH_take (i := 3) (v := ?v3_115) rfl (by kernel_rfl) (by kernel_rfl) (by kernel_rfl) (fun _ _ _ h => h) (Or.inl ⟨by rfl, ?hy3_115⟩) (by assumption) ?rest3_115
          case hy3_115 => (intro w9 hSw; clear hSw; go_simp; try with_reducible rfl)
          try simp only [Act.put, List.setIfInBounds_toArray, List.set_cons_zero, List.set_cons_succ, List.getElem_toArray, List.getElem_cons_zero, List.getElem_cons_succ]
          refine wpAnyH_take (i := 4) (v := ?v4_116) rfl (by kernel_rfl) (by kernel_rfl) (by kernel_rfl) (fun _ _ _ h => h) (Or.inl ⟨by rfl, ?hy4_116⟩) (by assumption) ?rest4_116
          case hy4_116 => (intro w9 hSw; clear hSw; go_simp; try with_reducible rfl)
          try simp only [Act.put, List.setIfInBounds_toArray, List.set_cons_zero, List.set_cons_succ, List.getElem_toArray, List.getElem_cons_zero, List.getElem_cons_succ]
          refine wpAnyH_take (i := 5) (v := ?v5_117) rfl (by kernel_rfl) (by kernel_rfl) (by kernel_rfl) (fun _ _ _ h => h) (Or.inl ⟨by rfl, ?hy5_117⟩) (by assumption) ?rest5_117
          case hy5_117 => (intro w9 hSw; clear hSw; go_simp; try with_reducible rfl)
          try simp only [Act.put, List.setIfInBounds_toArray, List.set_cons_zero, List.set_cons_succ, List.getElem_toArray, List.getElem_cons_zero, List.getElem_cons_succ]
          refine wpAnyH_take (i := 6) (v := ?v6_118) rfl (by kernel_rfl) (by kernel_rfl) (by kernel_rfl) (fun _ _ _ h => h) (Or.inl ⟨by rfl, ?hy6_118⟩) (by assumption) ?rest6_118
          case hy6_118 => (intro w9 hSw; clear hSw; go_simp; try with_reducible rfl)
          try simp only [Act.put, List.setIfInBounds_toArray, List.set_cons_zero, List.set_cons_succ, List.getElem_toArray, List.getElem_cons_zero, List.getElem_cons_succ]
          refine wpAnyH_take (i := 7) (v := ?v7_119) rfl (by kernel_rfl) (by kernel_rfl) (by kernel_rfl) (fun _ _ _ h => h) (Or.inl ⟨by rfl, ?hy7_119⟩) (by assumption) ?rest7_119
          case hy7_119 => (intro w9 hSw; clear hSw; go_simp; try with_reducible rfl)
          try simp only [Act.put, List.setIfInBounds_toArray, List.set_cons_zero, List.set_cons_succ, List.getElem_toArray, List.getElem_cons_zero, List.getElem_cons_succ]
          refine wpAnyH_take (i := 8) (v := ?v8_120) rfl (by kernel_rfl) (by kernel_rfl) (by kernel_rfl) (fun _ _ _ h => h) (Or.inl ⟨by rfl, ?hy8_120⟩) (by assumption) ?rest8_120
          case hy8_120 => (intro w9 hSw; clear hSw; go_simp; try with_reducible rfl)
          try simp only [Act.put, List.setIfInBounds_toArray, List.set_cons_zero, List.set_cons_succ, List.getElem_toArray, List.getElem_cons_zero, List.getElem_cons_succ]
          refine wpAnyH_take (i := 9) (v := ?v9_121) rfl (by kernel_rfl) (by kernel_rfl) (by kernel_rfl) (fun _ _ _ h => h) (Or.inl ⟨by rfl, ?hy9_121⟩) (by assumption) ?rest9_121
          case hy9_121 => (intro w9 hSw; clear hSw; go_simp; try with_reducible rfl)
          try simp only [Act.put, List.setIfInBounds_toArray, List.set_cons_zero, List.set_cons_succ, List.getElem_toArray, List.getElem_cons_zero, List.getElem_cons_succ]
          refine wpAnyH_take (i := 10) (v := ?v10_122) rfl (by kernel_rfl) (by kernel_rfl) (by kernel_rfl) (fun _ _ _ h => h) (Or.inl ⟨by rfl, ?hy10_122⟩) (by assumption) ?rest10_122
          case hy10_122 => (intro w9 hSw; clear hSw; go_simp; try with_reducible rfl)
          try simp only [Act.put, List.setIfInBounds_toArray, List.set_cons_zero, List.set_cons_succ, List.getElem_toArray, List.getElem_cons_zero, List.getElem_cons_succ]
          refine wpAnyH_ready (rs := [11]) (by kernel_rfl) (by simp) ?_
          refine AllReadyH.cons rfl (fun K hK => ?_) AllReadyH.nil
          go_simp
          have hr5 := ((HPT.out _ _ hM).2.1).cut (lo := i) (k := m - i) (by omega)
          have hr6 := ((HP6.out _ _ hN).2.1).cut (lo := i) (k := m - i) (by omega)
          rw [if_neg hne5] at hr5
          rw [if_neg hne6] at hr6
          have hdd := dot_any hr5 hr6 (Nat.le_refl _)
          rw [dot_tri (by omega) hjt HRT.out HYD.out] at hdd
          simp only [Nat.sub_zero, Option.map_some, add_nil] at hdd
          with_reducible refine hdd.mono ?_
          rintro e v1 ⟨rD, rfl, hD, bD, hb⟩
          replace hM := hM.on hb
          replace hN := hN.on hb
          replace hs1 := hs1.on hb
          replace bz := bz.trans (hb.mono bz.size)
          have HD := Lib.hid hD
          clear hD hb hdd hr5 hr6
          refine hK.out _ _ trivial (fun hH => ?_)
          clear hK K hS
          have hS := hH
          clear hH
          try simp only [Act.put, List.setIfInBounds_toArray, List.set_cons_zero, List.set_cons_succ, List.getElem_toArray, List.getElem_cons_zero, List.getElem_cons_succ]
          refine wpAnyH_ready (rs := [12]) (by kernel_rfl) (by simp) ?_
          refine AllReadyH.cons rfl (fun K hK => ?_) AllReadyH.nil
          go_simp
          have HR : Hid (af rD = f i j) := Lib.hid (by rw [HD.out]; exact HF.out i j)
          with_reducible refine (set_wr hW HVK.out HIJ.out HLL.out hs1 hh (r := rD) (Q := fun a b => decide (a < i ∨ (a = i ∧ b < (j + 1)))) HR.out bD (fun a b hab => by simp only [← Bool.decide_or, decide_eq_decide]; omega)).mono ?_
          rintro e w9 ⟨u5, lx2, rfl, hs2, hg2, hW2⟩
          replace hM := hM.grown hg2 (fun k e => by injection e with e; omega)
          replace hN := hN.grown hg2 (fun k e => by injection e with e; omega)
          have hgr2 := grown_trans (grown_on hgr bz) hg2
          clear hs1 hW
          refine hK.out _ _ trivial (fun hH => ?_)
          clear hK K hS
          have hS := hH
          clear hH
          try simp only [Act.put, List.setIfInBounds_toArray, List.set_cons_zero, List.set_cons_succ, List.getElem_toArray, List.getElem_cons_zero, List.getElem_cons_succ]
          refine wpAnyH_done (by kernel_rfl) ?_ _
          go_wp2_with fail
          go_roundw
          case rel => exact ⟨j + 1, lx2, by omega, by go_num, hW2, hs2, hgr2, hM, hN⟩
          case measure => simp [intOf]; omega
        · have hW9 := hW.congr (Q := fun a b => decide (a < (i + 1) ∨ (a = (i + 1) ∧ b < 0))) (fun a b hab => by have hb9 := (has_iff _ _ _).1 hab; rw [HR9.out, HC9.out] at hb9; simp only [decide_eq_decide]; omega)
          go_wp2_with fail
          go_roundw
          case rel => exact ⟨i + 1, lx, TX, by omega, by go_num, hW9, hs1, hgr, hM, hN, HTX.out⟩
          case measure => simp [intOf]; omega
    · obtain rfl : i = m := by omega
      go_wp2_with fail
      go_ret
      exact ⟨lx, rfl, hs1, hgr, hW.congr (fun a b hab => by have hb9 := (has_iff _ _ _).1 hab; rw [HR9.out, HC9.out] at hb9; simp; omega)⟩
set_option maxRecDepth 100000 in
set_option maxHeartbeats 8000000 in
theorem Trmm_tt  (hx : Sv w x X) (hy : Sv w y Y) (he : refE (szd x y.R y.R) [x, y] = 0) (hv : Vk y s c n K) (hs : St w B s g cap c l) (hl : l.length = n) (hj : Inj y c) (hum0 : y.R = m) (huq0 : y.C = q) :
    Calls Try.prog 47 #[.bool true, .bool true, x.V, y.V] w (WrA w B s g cap c y l (fun _ _ => true) (fun i j => trS true X Y m q i j i m)) := by
  have he0 := he
  have hfit := (refE_some he).1
  have HPN : Hid (y.p ≠ none) := Lib.hid ((refE_some he).2 y (by simp))
  rw [hfit] at he
  have HE := Lib.hid he
  have h0 := hfit
  have e0 := szd_is h0
  have hR5 := hy.R
  have hC5 := hy.C
  have hxr : x.R = (m : Int) := by rw [e0.1]; exact hum0
  have hxc : x.C = (m : Int) := by rw [e0.2]; exact hum0
  obtain ⟨YT, hYT, HYT⟩ := hy.turn ((refE_some he0).2 y (by simp)) hum0 huq0
  have htR : y.turnO.R = (q : Int) ∧ y.turnO.C = (m : Int) := by have e : y.turnO = y.T := by { unfold Vu.turnO; rw [show (y.p == none) = false by cases hq : y.p; exact absurd hq ((refE_some he0).2 y (by simp)); rfl]; rfl }; rw [e]; exact ⟨huq0, hum0⟩
  rw [hum0] at hR5
  rw [huq0] at hC5
  have HYS := Lib.hid hYT
  have HYD := Lib.hid HYT
  have HTR := Lib.hid htR
  have HXR := Lib.hid hxr
  have HXC := Lib.hid hxc
  have HR9 := Lib.hid hum0
  have HC9 := Lib.hid huq0
  obtain ⟨f, hf⟩ : ∃ f : Nat → Nat → Option Nat, (fun i j => trS true X Y m q i j i m) = f := ⟨_, rfl⟩
  have HF := Lib.hid (show ∀ i j, trS true X Y m q i j i m = f i j from fun i j => by rw [← hf])
  rw [hf]
  clear hf e0 hxr hxc hYT HYT htR hum0 huq0 he0
  have HSx := Lib.hid hx
  have HSy := Lib.hid hy
  have HST := Lib.hid hs
  have HVK := Lib.hid hv
  have HIJ := Lib.hid hj
  have HLL := Lib.hid hl
  have p2 := fun (W : World) (bz : Below w.heap.size w W) => sized_is x y.R y.R W
  simp only [h0] at p2
  clear he hs hv hj hl hx hy h0
  have Dx := Blk.new w x.L 30
  have Dy := Blk.new (w.alloc (.cells x.L.toArray 30)) y.L 30
  replace Dx := Dx.alloc (.cells y.L.toArray 30)
  simp only [World.size_alloc] at Dy
  have bz := ((Below.refl _ w).alloc (Nat.le_refl _) (.cells x.L.toArray 30)).alloc (by simp <;> omega) (.cells y.L.toArray 30)
  have hsz0 : ((w.alloc (.cells x.L.toArray 30)).alloc (.cells y.L.toArray 30)).heap.size = w.heap.size + 2 := by simp
  go_enter Try.func47, Try.ntmps47
  go_wp2_with fail
  replace Dx := Dx.drew
  replace Dy := Dy.drew
  replace bz := bz.drew
  refine wp_region_held_drew (S := fun w9 : World => Vbx w9 w.heap.size x ∧ Vbx w9 (w.heap.size + 1) y) (by kernel_rfl) ⟨Dx, Dy⟩ (fun hS => ?_)
  generalize ((w.alloc (.cells x.L.toArray 30)).alloc (.cells y.L.toArray 30)).drew = wd at hS Dx Dy  bz ⊢
  refine wpAnyH_take (i := 0) (v := ?v0_123) rfl (by kernel_rfl) (by kernel_rfl) (by kernel_rfl) (fun _ _ _ h => h) (Or.inl ⟨by rfl, ?hy0_123⟩) (by assumption) ?rest0_123
  case hy0_123 => (intro w9 hSw; obtain ⟨m0, m1⟩ := hSw; refine (ld_v (by rfl) (by kernel_rfl) m0).trans ?_; with_reducible rfl)
  try simp only [Act.put, List.setIfInBounds_toArray, List.set_cons_zero, List.set_cons_succ, List.getElem_toArray, List.getElem_cons_zero, List.getElem_cons_succ]
  refine wpAnyH_take (i := 1) (v := ?v1_124) rfl (by kernel_rfl) (by kernel_rfl) (by kernel_rfl) (fun _ _ _ h => h) (Or.inl ⟨by rfl, ?hy1_124⟩) (by assumption) ?rest1_124
  case hy1_124 => (intro w9 hSw; obtain ⟨m0, m1⟩ := hSw; refine (ld_v (by rfl) (by kernel_rfl) m1).trans ?_; with_reducible rfl)
  try simp only [Act.put, List.setIfInBounds_toArray, List.set_cons_zero, List.set_cons_succ, List.getElem_toArray, List.getElem_cons_zero, List.getElem_cons_succ]
  refine wpAnyH_take (i := 3) (v := ?v3_125) rfl (by kernel_rfl) (by kernel_rfl) (by kernel_rfl) (fun _ _ _ h => h) (Or.inl ⟨by rfl, ?hy3_125⟩) (by assumption) ?rest3_125
  case hy3_125 => (intro w9 hSw; obtain ⟨m0, m1⟩ := hSw; refine (ld_v (by rfl) (by kernel_rfl) m1).trans ?_; with_reducible rfl)
  try simp only [Act.put, List.setIfInBounds_toArray, List.set_cons_zero, List.set_cons_succ, List.getElem_toArray, List.getElem_cons_zero, List.getElem_cons_succ]
  refine wpAnyH_ready (rs := [2]) (by kernel_rfl) (by simp) ?_
  refine AllReadyH.cons rfl (fun K hK => ?_) AllReadyH.nil
  go_simp
  with_reducible refine (Rows_any y _).mono ?_
  rintro e w1 ⟨rfl, hb⟩
  replace Dx := Dx.on hb
  replace Dy := Dy.on hb
  replace bz := bz.trans (hb.mono bz.size)
  clear hb
  refine hK.out _ _ ⟨Dx, Dy⟩ (fun hH => ?_)
  clear hK K hS
  have hS := hH
  clear hH
  try simp only [Act.put, List.setIfInBounds_toArray, List.set_cons_zero, List.set_cons_succ, List.getElem_toArray, List.getElem_cons_zero, List.getElem_cons_succ]
  refine wpAnyH_ready (rs := [4]) (by kernel_rfl) (by simp) ?_
  refine AllReadyH.cons rfl (fun K hK => ?_) AllReadyH.nil
  go_simp
  with_reducible refine (Rows_any y _).mono ?_
  rintro e w2 ⟨rfl, hb⟩
  replace Dx := Dx.on hb
  replace Dy := Dy.on hb
  replace bz := bz.trans (hb.mono bz.size)
  clear hb
  refine hK.out _ _ ⟨Dx, Dy⟩ (fun hH => ?_)
  clear hK K hS
  have hS := hH
  clear hH
  try simp only [Act.put, List.setIfInBounds_toArray, List.set_cons_zero, List.set_cons_succ, List.getElem_toArray, List.getElem_cons_zero, List.getElem_cons_succ]
  refine wpAnyH_ready (rs := [5]) (by kernel_rfl) (by simp) ?_
  refine AllReadyH.cons rfl (fun K hK => ?_) AllReadyH.nil
  go_simp
  with_reducible refine (p2 _ bz).mono ?_
  rintro e w3 ⟨rfl, hb⟩
  replace Dx := Dx.on hb
  replace Dy := Dy.on hb
  replace bz := bz.trans (hb.mono bz.size)
  clear hb
  refine hK.out _ _ ⟨Dx, Dy⟩ (fun hH => ?_)
  clear hK K hS
  have hS := hH
  clear hH
  try simp only [Act.put, List.setIfInBounds_toArray, List.set_cons_zero, List.set_cons_succ, List.getElem_toArray, List.getElem_cons_zero, List.getElem_cons_succ]
  refine wpAnyH_take (i := 6) (v := ?v6_126) rfl (by kernel_rfl) (by kernel_rfl) (by kernel_rfl) (fun _ _ _ h => h) (Or.inl ⟨by rfl, ?hy6_126⟩) (by assumption) ?rest6_126
  case hy6_126 => (intro w9 hSw; clear hSw; go_simp; try with_reducible rfl)
  try simp only [Act.put, List.setIfInBounds_toArray, List.set_cons_zero, List.set_cons_succ, List.getElem_toArray, List.getElem_cons_zero, List.getElem_cons_succ]
  refine wpAnyH_done (by kernel_rfl) ?_ _
  obtain ⟨v0_0, v0_1, v0_2, v0_3, v0_4, v0_5, v0_6, v0_7, v0_8⟩ := Vbx.cells Dx
  obtain ⟨v1_0, v1_1, v1_2, v1_3, v1_4, v1_5, v1_6, v1_7, v1_8⟩ := Vbx.cells Dy
  have hL : VLs (w3.alloc (.cells #[.pointer x.p, .int .i64 x.f0, .int .i64 x.f1, .int .i64 x.d0, .int .i64 x.d1, .int .i64 x.r0, .int .i64 x.r1, .int .i64 x.R, .int .i64 x.C, .pointer y.p, .int .i64 y.f0, .int .i64 y.f1, .int .i64 y.d0, .int .i64 y.d1, .int .i64 y.r0, .int .i64 y.r1, .int .i64 y.R, .int .i64 y.C] 30)) ⟨w3.heap.size, 0, none⟩ [x, y] := VLs.of (Blk.new w3 ([x, y].flatMap Vu.L) 30)
  replace Dx := Dx.on ((Below.refl _ _).alloc (Nat.le_refl _) ((.cells #[.pointer x.p, .int .i64 x.f0, .int .i64 x.f1, .int .i64 x.d0, .int .i64 x.d1, .int .i64 x.r0, .int .i64 x.r1, .int .i64 x.R, .int .i64 x.C, .pointer y.p, .int .i64 y.f0, .int .i64 y.f1, .int .i64 y.d0, .int .i64 y.d1, .int .i64 y.r0, .int .i64 y.r1, .int .i64 y.R, .int .i64 y.C] 30)))
  replace Dy := Dy.on ((Below.refl _ _).alloc (Nat.le_refl _) ((.cells #[.pointer x.p, .int .i64 x.f0, .int .i64 x.f1, .int .i64 x.d0, .int .i64 x.d1, .int .i64 x.r0, .int .i64 x.r1, .int .i64 x.R, .int .i64 x.C, .pointer y.p, .int .i64 y.f0, .int .i64 y.f1, .int .i64 y.d0, .int .i64 y.d1, .int .i64 y.r0, .int .i64 y.r1, .int .i64 y.R, .int .i64 y.C] 30)))
  replace bz := bz.alloc bz.size ((.cells #[.pointer x.p, .int .i64 x.f0, .int .i64 x.f1, .int .i64 x.d0, .int .i64 x.d1, .int .i64 x.r0, .int .i64 x.r1, .int .i64 x.R, .int .i64 x.C, .pointer y.p, .int .i64 y.f0, .int .i64 y.f1, .int .i64 y.d0, .int .i64 y.d1, .int .i64 y.r0, .int .i64 y.r1, .int .i64 y.R, .int .i64 y.C] 30))
  go_wp2_with fail
  with_reducible refine (refused_is true (vs := [x, y]) (n := 2) rfl (by omega) hL (by intro z hz; simp only [List.mem_cons, List.mem_nil_iff, or_false] at hz; rcases hz with rfl | rfl; exact ⟨_, HSx.out.on bz⟩; exact ⟨_, HSy.out.on bz⟩)).mono ?_
  rintro e w4 ⟨rfl, hb⟩
  clear v0_0 v0_1 v0_2 v0_3 v0_4 v0_5 v0_6 v0_7 v0_8 v1_0 v1_1 v1_2 v1_3 v1_4 v1_5 v1_6 v1_7 v1_8
  replace Dx := Dx.on hb
  replace Dy := Dy.on hb
  replace hL := hL.on hb
  replace bz := bz.trans (hb.mono bz.size)
  clear hb hL
  rw [HE.out]
  go_wp2_with fail
  replace Dx := Dx.drew
  replace Dy := Dy.drew
  replace bz := bz.drew
  refine wp_region_held_drew (S := fun w9 : World => Vbx w9 w.heap.size x ∧ Vbx w9 (w.heap.size + 1) y) (by kernel_rfl) ⟨Dx, Dy⟩ (fun hS => ?_)
  generalize w4.drew = wf at hS Dx Dy  bz ⊢
  refine wpAnyH_take (i := 0) (v := ?v0_127) rfl (by kernel_rfl) (by kernel_rfl) (by kernel_rfl) (fun _ _ _ h => h) (Or.inl ⟨by rfl, ?hy0_127⟩) (by assumption) ?rest0_127
  case hy0_127 => (intro w9 hSw; obtain ⟨m0, m1⟩ := hSw; refine (ld_v (by rfl) (by kernel_rfl) m1).trans ?_; with_reducible rfl)
  try simp only [Act.put, List.setIfInBounds_toArray, List.set_cons_zero, List.set_cons_succ, List.getElem_toArray, List.getElem_cons_zero, List.getElem_cons_succ]
  refine wpAnyH_take (i := 1) (v := ?v1_128) rfl (by kernel_rfl) (by kernel_rfl) (by kernel_rfl) (fun _ _ _ h => h) (Or.inl ⟨by rfl, ?hy1_128⟩) (by assumption) ?rest1_128
  case hy1_128 => (intro w9 hSw; clear hSw; go_simp; try with_reducible rfl)
  try simp only [Act.put, List.setIfInBounds_toArray, List.set_cons_zero, List.set_cons_succ, List.getElem_toArray, List.getElem_cons_zero, List.getElem_cons_succ]
  refine wpAnyH_take (i := 2) (v := ?v2_129) rfl (by kernel_rfl) (by kernel_rfl) (by kernel_rfl) (fun _ _ _ h => h) (Or.inl ⟨by rfl, ?hy2_129⟩) (by assumption) ?rest2_129
  case hy2_129 => (intro w9 hSw; obtain ⟨m0, m1⟩ := hSw; refine (ld_v (by rfl) (by kernel_rfl) m1).trans ?_; with_reducible rfl)
  try simp only [Act.put, List.setIfInBounds_toArray, List.set_cons_zero, List.set_cons_succ, List.getElem_toArray, List.getElem_cons_zero, List.getElem_cons_succ]
  refine wpAnyH_ready (rs := [3]) (by kernel_rfl) (by simp) ?_
  refine AllReadyH.cons rfl (fun K hK => ?_) AllReadyH.nil
  go_simp
  with_reducible refine (T_any y _).mono ?_
  rintro e w5 ⟨rfl, hb⟩
  replace Dx := Dx.on hb
  replace Dy := Dy.on hb
  replace bz := bz.trans (hb.mono bz.size)
  clear hb
  refine hK.out _ _ ⟨Dx, Dy⟩ (fun hH => ?_)
  clear hK K hS
  have hS := hH
  clear hH
  try simp only [Act.put, List.setIfInBounds_toArray, List.set_cons_zero, List.set_cons_succ, List.getElem_toArray, List.getElem_cons_zero, List.getElem_cons_succ]
  refine wpAnyH_ready (rs := [4]) (by kernel_rfl) (by simp) ?_
  refine AllReadyH.cons rfl (fun K hK => ?_) AllReadyH.nil
  go_simp
  have hBhN := Nat.lt_of_lt_of_le HST.out.gt.2 bz.size
  with_reducible refine (rows_is (HYS.out.on bz) HTR.out.1 HTR.out.2).mono ?_
  rintro e w6 ⟨o2, G2, cG2, rfl, hN, hb⟩
  replace Dx := Dx.on hb
  replace Dy := Dy.on hb
  replace bz := bz.trans (hb.mono bz.size)
  clear hb
  refine hK.out _ _ ⟨Dx, Dy⟩ (fun hH => ?_)
  clear hK K hS
  have hS := hH
  clear hH
  try simp only [Act.put, List.setIfInBounds_toArray, List.set_cons_zero, List.set_cons_succ, List.getElem_toArray, List.getElem_cons_zero, List.getElem_cons_succ]
  refine wpAnyH_take (i := 5) (v := ?v5_130) rfl (by kernel_rfl) (by kernel_rfl) (by kernel_rfl) (fun _ _ _ h => h) (Or.inl ⟨by rfl, ?hy5_130⟩) (by assumption) ?rest5_130
  case hy5_130 => (intro w9 hSw; clear hSw; go_simp; try with_reducible rfl)
  try simp only [Act.put, List.setIfInBounds_toArray, List.set_cons_zero, List.set_cons_succ, List.getElem_toArray, List.getElem_cons_zero, List.getElem_cons_succ]
  refine wpAnyH_take (i := 6) (v := ?v6_131) rfl (by kernel_rfl) (by kernel_rfl) (by kernel_rfl) (fun _ _ _ h => h) (Or.inl ⟨by rfl, ?hy6_131⟩) (by assumption) ?rest6_131
  case hy6_131 => (intro w9 hSw; clear hSw; go_simp; try with_reducible rfl)
  try simp only [Act.put, List.setIfInBounds_toArray, List.set_cons_zero, List.set_cons_succ, List.getElem_toArray, List.getElem_cons_zero, List.getElem_cons_succ]
  refine wpAnyH_done (by kernel_rfl) ?_ _
  obtain ⟨v0_0, v0_1, v0_2, v0_3, v0_4, v0_5, v0_6, v0_7, v0_8⟩ := Vbx.cells Dx
  obtain ⟨v1_0, v1_1, v1_2, v1_3, v1_4, v1_5, v1_6, v1_7, v1_8⟩ := Vbx.cells Dy
  have hBhM := Nat.lt_of_lt_of_le HST.out.gt.2 bz.size
  have hBw := bz.size
  have hN2 : o2 < w6.heap.size ∧ ∀ a, G2 = some a → a.block < w6.heap.size := ⟨hN.blk.lt, fun a e => (hN.own.gt e).2⟩
  go_wp2_with fail
  with_reducible refine (rows_is (HSx.out.on bz) HXR.out HXC.out).mono ?_
  rintro e w7 ⟨o1, G1, cG1, rfl, hM, hb⟩
  clear v0_0 v0_1 v0_2 v0_3 v0_4 v0_5 v0_6 v0_7 v0_8 v1_0 v1_1 v1_2 v1_3 v1_4 v1_5 v1_6 v1_7 v1_8
  replace Dx := Dx.on hb
  replace Dy := Dy.on hb
  replace hN := hN.on hb
  replace bz := bz.trans (hb.mono bz.size)
  clear hb
  obtain ⟨BM, hBM⟩ : ∃ z, w6.heap.size = z := ⟨_, rfl⟩
  rw [hBM] at hM hBhM hBw
  simp only [hBM] at hN2
  clear hBM
  have hs1 := HST.out.on bz
  have hgr := grown_below bz (some g)
  have hW : Wr y c l l (fun a b => decide (a < 0 ∨ (a = 0 ∧ b < 0))) f := Wr.start y c l f (fun a b _ => by simp)
  clear bz Dx Dy
  go_wp2_with fail
  go_loopw [41] (fun i wr => ∃ (k : Nat) (lx TX : List Int), k ≤ m ∧ i = .int .i64 k ∧ Wr y c l lx (fun a b => decide (a < k ∨ (a = k ∧ b < 0))) f ∧ St wr B s g cap c lx ∧ w.grownBy wr (some g) ∧ Rws wr BM o1 G1 cG1 m m TX ∧ Rws wr w5.heap.size o2 G2 cG2 q m YT ∧ (∀ a b, a < m → b < m → ma TX m a b = if a = b ∧ a < k then some 4607182418800017408 else ma X m a b)) (fun i _ => m - (intOf i).toNat)
  case atStart => exact ⟨0, l, X, Nat.zero_le _, rfl, hW, hs1, hgr, hM, hN, fun a b _ _ => by simp⟩
  case round =>
    clear hW hs1 hgr hM hN
    obtain ⟨i, lx, TX, hi, rfl, hW, hs1, hgr, hM, hN, hTX⟩ := hrel
    by_cases hlt : i < m
    · have i0 : (0 : Int) ≤ i := by omega
      have i1 : (i : Int) < m := by omega
      obtain ⟨ad, c5, hBa, hao, hc5m, hpt⟩ := hM.putrow hlt hlt
      have HPT := Lib.hid hpt
      have hc5 := (hpt _ _ hM).1
      have HTX := Lib.hid hTX
      clear hTX
      obtain ⟨_, _, hcs, hfs, hst⟩ := hpt _ _ hM
      obtain ⟨hM2, hgS⟩ := hst 4607182418800017408 (by omega)
      have hN3 := hN.grownHi hgS (by omega) (fun a e => by have := hN2.2 a e; omega)
      have hs3 := hs1.grown hgS (by have := HST.out.lt; omega) (by have := HST.out.gt.2; omega)
      have hgr3 := grown_hi hgr hgS (by omega)
      have HT2 := Lib.hid (show ∀ a b, a < m → b < m → ma (TX.set (i * m + i) ((4607182418800017408 : Nat) : Int)) m a b = if a = b ∧ a < i + 1 then some 4607182418800017408 else ma X m a b from fun a b ha hb => by
        have hkl := ix_lt hlt hlt
        rw [← hM.len] at hkl
        have h9 := HTX.out a b ha hb
        unfold ma at h9 ⊢
        rw [D_set (l := TX) _ _ hkl]
        by_cases e : a * m + b = i * m + i
        · obtain ⟨e1, e2⟩ := ix_eq hb hlt e
          rw [if_pos e, if_pos (by omega)]
          decide
        · rw [if_neg e, h9]
          have hn : ¬ (a = i ∧ b = i) := fun h => e (by rw [h.1, h.2])
          by_cases h : a = b ∧ a < i
          · rw [if_pos h, if_pos (by omega)]
          · rw [if_neg h, if_neg (by omega)])
      have HRT := Lib.hid (show ∀ k, k < m → ma (TX.set (i * m + i) ((4607182418800017408 : Nat) : Int)) m i k = trT true X m i k from fun k hk => by
        rw [HT2.out i k hlt hk]
        unfold trT
        by_cases h : k = i
        · rw [if_pos (by omega), if_pos (by simp [h])]
        · rw [if_neg (by omega), if_neg (by simp [h])])
      clear hs1 hgr hM hN hst hpt
      go_wp2_with fail
      clear hc5 hcs hfs
      obtain ⟨TX2, hT2⟩ : ∃ z, TX.set (i * m + i) ((4607182418800017408 : Nat) : Int) = z := ⟨_, rfl⟩
      rw [hT2] at hM2 HT2 HRT
      clear hT2 hgS
      generalize wr.setCell (ad.add i) (.float .f64 4607182418800017408) = wst at hM2 hN3 hs3 hgr3 ⊢
      have hM := hM2
      have hN := hN3
      have hs1 := hs3
      have hgr := hgr3
      clear hM2 hN3 hs3 hgr3 HTX
      have HTX := HT2
      clear HT2
      go_loopw [58] (fun j wr => ∃ (jj : Nat) (lx : List Int), jj ≤ q ∧ j = .int .i64 jj ∧ Wr y c l lx (fun a b => decide (a < i ∨ (a = i ∧ b < jj))) f ∧ St wr B s g cap c lx ∧ w.grownBy wr (some g) ∧ Rws wr BM o1 G1 cG1 m m TX2 ∧ Rws wr w5.heap.size o2 G2 cG2 q m YT) (fun j _ => q - (intOf j).toNat)
      case atStart => exact ⟨0, lx, by omega, by go_num, hW, hs1, hgr, hM, hN⟩
      case round =>
        clear hW hs1 hgr hM hN
        obtain ⟨j, lx, hj, rfl, hW, hs1, hgr, hM, hN⟩ := hrel
        by_cases hjt : j < q
        · have j0 : (0 : Int) ≤ j := by omega
          have j1 : (j : Int) < q := by omega
          have hh : y.has i j = true := (has_iff _ _ _).2 (by rw [HR9.out, HC9.out]; omega)
          obtain ⟨ae, c6, _, _, hc6m, hp6⟩ := hN.putrow hjt hlt
          have HP6 := Lib.hid hp6
          have hc6 := (hp6 _ _ hN).1
          clear hp6
          have hz1 : (0 : Int) ≤ (i : Int) + 1 := by omega
          have hz2 : (i : Int) ≤ m := by omega
          have hne5 : ¬ c5 = i := by omega
          have hne6 : ¬ c6 = i := by omega
          have l5 : (m : Int) ≤ c5 := by omega
          have l6 : (m : Int) ≤ c6 := by omega
          go_wp2_with fail
          clear hc6
          have bz := (Below.refl wr.heap.size wr).drew
          replace hM := hM.on (Below.refl _ wr).drew
          replace hN := hN.on (Below.refl _ wr).drew
          replace hs1 := hs1.on (Below.refl _ wr).drew
          refine wp_region_held_drew (S := fun w9 : World => True) (by kernel_rfl) trivial (fun hS => ?_)
          refine wpAnyH_take (i := 0) (v := ?v0_132) rfl (by kernel_rfl) (by kernel_rfl) (by kernel_rfl) (fun _ _ _ h => h) (Or.inl ⟨by rfl, ?hy0_132⟩) (by assumption) ?rest0_132
          case hy0_132 => (intro w9 hSw; clear hSw; go_simp; try with_reducible rfl)
          try simp only [Act.put, List.setIfInBounds_toArray, List.set_cons_zero, List.set_cons_succ, List.getElem_toArray, List.getElem_cons_zero, List.getElem_cons_succ]
          refine wpAnyH_take (i := 1) (v := ?v1_133) rfl (by kernel_rfl) (by kernel_rfl) (by kernel_rfl) (fun _ _ _ h => h) (Or.inl ⟨by rfl, ?hy1_133⟩) (by assumption) ?rest1_133
          case hy1_133 => (intro w9 hSw; clear hSw; go_simp; try with_reducible rfl)
          try simp only [Act.put, List.setIfInBounds_toArray, List.set_cons_zero, List.set_cons_succ, List.getElem_toArray, List.getElem_cons_zero, List.getElem_cons_succ]
          refine wpAnyH_take (i := 2) (v := ?v2_134) rfl (by kernel_rfl) (by kernel_rfl) (by kernel_rfl) (fun _ _ _ h => h) (Or.inl ⟨by rfl, ?hy2_134⟩) (by assumption) ?rest2_134
          case hy2_134 => (intro w9 hSw; clear hSw; go_simp; try with_reducible rfl)
          try simp only [Act.put, List.setIfInBounds_toArray, List.set_cons_zero, List.set_cons_succ, List.getElem_toArray, List.getElem_cons_zero, List.getElem_cons_succ]
          refine wpAnyH_take (i := 3) (v := ?v3_135) rfl (by kernel_rfl) (by kernel_rfl) (by kernel_rfl) (fun _ _ _ h => h) (Or.inl ⟨by rfl, ?hy3_135⟩) (by assumption) ?rest3_135
          case hy3_135 => (intro w9 hSw; clear hSw; go_simp; try with_reducible rfl)
          try simp only [Act.put, List.setIfInBounds_toArray, List.set_cons_zero, List.set_cons_succ, List.getElem_toArray, List.getElem_cons_zero, List.getElem_cons_succ]
          refine wpAnyH_take (i := 4) (v := ?v4_136) rfl (by kernel_rfl) (by kernel_rfl) (by kernel_rfl) (fun _ _ _ h => h) (Or.inl ⟨by rfl, ?hy4_136⟩) (by assumption) ?rest4_136
          case hy4_136 => (intro w9 hSw; clear hSw; go_simp; try with_reducible rfl)
          try simp only [Act.put, List.setIfInBounds_toArray, List.set_cons_zero, List.set_cons_succ, List.getElem_toArray, List.getElem_cons_zero, List.getElem_cons_succ]
          refine wpAnyH_take (i := 5) (v := ?v5_137) rfl (by kernel_rfl) (by kernel_rfl) (by kernel_rfl) (fun _ _ _ h => h) (Or.inl ⟨by rfl, ?hy5_137⟩) (by assumption) ?rest5_137
          case hy5_137 => (intro w9 hSw; clear hSw; go_simp; try with_reducible rfl)
          try simp only [Act.put, List.setIfInBounds_toArray, List.set_cons_zero, List.set_cons_succ, List.getElem_toArray, List.getElem_cons_zero, List.getElem_cons_succ]
          refine wpAnyH_take (i := 6) (v := ?v6_138) rfl (by kernel_rfl) (by kernel_rfl) (by kernel_rfl) (fun _ _ _ h => h) (Or.inl ⟨by rfl, ?hy6_138⟩) (by assumption) ?rest6_138
          case hy6_138 => (intro w9 hSw; clear hSw; go_simp; try with_reducible rfl)
          try simp only [Act.put, List.setIfInBounds_toArray, List.set_cons_zero, List.set_cons_succ, List.getElem_toArray, List.getElem_cons_zero, List.getElem_cons_succ]
          refine wpAnyH_take (i := 7) (v := ?v7_139) rfl (by kernel_rfl) (by kernel_rfl) (by kernel_rfl) (fun _ _ _ h => h) (Or.inl ⟨by rfl, ?hy7_139⟩) (by assumption) ?rest7_139
          case hy7_139 => (intro w9 hSw; clear hSw; go_simp; try with_reducible rfl)
          try simp only [Act.put, List.setIfInBounds_toArray, List.set_cons_zero, List.set_cons_succ, List.getElem_toArray, List.getElem_cons_zero, List.getElem_cons_succ]
          refine wpAnyH_take (i := 8) (v := ?v8_140) rfl (by kernel_rfl) (by kernel_rfl) (by kernel_rfl) (fun _ _ _ h => h) (Or.inl ⟨by rfl, ?hy8_140⟩) (by assumption) ?rest8_140
          case hy8_140 => (intro w9 hSw; clear hSw; go_simp; try with_reducible rfl)
          try simp only [Act.put, List.setIfInBounds_toArray, List.set_cons_zero, List.set_cons_succ, List.getElem_toArray, List.getElem_cons_zero, List.getElem_cons_succ]
          refine wpAnyH_take (i := 9) (v := ?v9_141) rfl (by kernel_rfl) (by kernel_rfl) (by kernel_rfl) (fun _ _ _ h => h) (Or.inl ⟨by rfl, ?hy9_141⟩) (by assumption) ?rest9_141
          case hy9_141 => (intro w9 hSw; clear hSw; go_simp; try with_reducible rfl)
          try simp only [Act.put, List.setIfInBounds_toArray, List.set_cons_zero, List.set_cons_succ, List.getElem_toArray, List.getElem_cons_zero, List.getElem_cons_succ]
          refine wpAnyH_take (i := 10) (v := ?v10_142) rfl (by kernel_rfl) (by kernel_rfl) (by kernel_rfl) (fun _ _ _ h => h) (Or.inl ⟨by rfl, ?hy10_142⟩) (by assumption) ?rest10_142
          case hy10_142 => (intro w9 hSw; clear hSw; go_simp; try with_reducible rfl)
          try simp only [Act.put, List.setIfInBounds_toArray, List.set_cons_zero, List.set_cons_succ, List.getElem_toArray, List.getElem_cons_zero, List.getElem_cons_succ]
          refine wpAnyH_ready (rs := [11]) (by kernel_rfl) (by simp) ?_
          refine AllReadyH.cons rfl (fun K hK => ?_) AllReadyH.nil
          go_simp
          have hr5 := ((HPT.out _ _ hM).2.1).cut (lo := i) (k := m - i) (by omega)
          have hr6 := ((HP6.out _ _ hN).2.1).cut (lo := i) (k := m - i) (by omega)
          rw [if_neg hne5] at hr5
          rw [if_neg hne6] at hr6
          have hdd := dot_any hr5 hr6 (Nat.le_refl _)
          rw [dot_tri (by omega) hjt HRT.out HYD.out] at hdd
          simp only [Nat.sub_zero, Option.map_some, add_nil] at hdd
          with_reducible refine hdd.mono ?_
          rintro e v1 ⟨rD, rfl, hD, bD, hb⟩
          replace hM := hM.on hb
          replace hN := hN.on hb
          replace hs1 := hs1.on hb
          replace bz := bz.trans (hb.mono bz.size)
          have HD := Lib.hid hD
          clear hD hb hdd hr5 hr6
          refine hK.out _ _ trivial (fun hH => ?_)
          clear hK K hS
          have hS := hH
          clear hH
          try simp only [Act.put, List.setIfInBounds_toArray, List.set_cons_zero, List.set_cons_succ, List.getElem_toArray, List.getElem_cons_zero, List.getElem_cons_succ]
          refine wpAnyH_ready (rs := [12]) (by kernel_rfl) (by simp) ?_
          refine AllReadyH.cons rfl (fun K hK => ?_) AllReadyH.nil
          go_simp
          have HR : Hid (af rD = f i j) := Lib.hid (by rw [HD.out]; exact HF.out i j)
          with_reducible refine (set_wr hW HVK.out HIJ.out HLL.out hs1 hh (r := rD) (Q := fun a b => decide (a < i ∨ (a = i ∧ b < (j + 1)))) HR.out bD (fun a b hab => by simp only [← Bool.decide_or, decide_eq_decide]; omega)).mono ?_
          rintro e w9 ⟨u5, lx2, rfl, hs2, hg2, hW2⟩
          replace hM := hM.grown hg2 (fun k e => by injection e with e; omega)
          replace hN := hN.grown hg2 (fun k e => by injection e with e; omega)
          have hgr2 := grown_trans (grown_on hgr bz) hg2
          clear hs1 hW
          refine hK.out _ _ trivial (fun hH => ?_)
          clear hK K hS
          have hS := hH
          clear hH
          try simp only [Act.put, List.setIfInBounds_toArray, List.set_cons_zero, List.set_cons_succ, List.getElem_toArray, List.getElem_cons_zero, List.getElem_cons_succ]
          refine wpAnyH_done (by kernel_rfl) ?_ _
          go_wp2_with fail
          go_roundw
          case rel => exact ⟨j + 1, lx2, by omega, by go_num, hW2, hs2, hgr2, hM, hN⟩
          case measure => simp [intOf]; omega
        · have hW9 := hW.congr (Q := fun a b => decide (a < (i + 1) ∨ (a = (i + 1) ∧ b < 0))) (fun a b hab => by have hb9 := (has_iff _ _ _).1 hab; rw [HR9.out, HC9.out] at hb9; simp only [decide_eq_decide]; omega)
          go_wp2_with fail
          go_roundw
          case rel => exact ⟨i + 1, lx, TX2, by omega, by go_num, hW9, hs1, hgr, hM, hN, HTX.out⟩
          case measure => simp [intOf]; omega
    · obtain rfl : i = m := by omega
      go_wp2_with fail
      go_ret
      exact ⟨lx, rfl, hs1, hgr, hW.congr (fun a b hab => by have hb9 := (has_iff _ _ _).1 hab; rw [HR9.out, HC9.out] at hb9; simp; omega)⟩
theorem Trmm_yes {up unit : Bool} (hx : Sv w x X) (hy : Sv w y Y) (he : refE (szd x y.R y.R) [x, y] = 0) (hv : Vk y s c n K) (hs : St w B s g cap c l) (hl : l.length = n) (hj : Inj y c) (hum0 : y.R = m) (huq0 : y.C = q) :
    Calls Try.prog 47 #[.bool up, .bool unit, x.V, y.V] w (WrA w B s g cap c y l (fun _ _ => true) (fun i j => trA up unit X Y m q i j)) := by
  cases up
  · cases unit
    · exact Trmm_ff hx hy he hv hs hl hj hum0 huq0
    · exact Trmm_ft hx hy he hv hs hl hj hum0 huq0
  · cases unit
    · exact Trmm_tf hx hy he hv hs hl hj hum0 huq0
    · exact Trmm_tt hx hy he hv hs hl hj hum0 huq0
end
end Go.Proofs.Ytfelmkkkaphkpaa
