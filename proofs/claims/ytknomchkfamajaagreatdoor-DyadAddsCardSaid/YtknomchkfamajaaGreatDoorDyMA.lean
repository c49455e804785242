/-
  Layer 3, the laws: products by the reference. (Written by a script of wip/tools.)
-/
import Derived.Test.YtknomchkfamajaaGreatDoorDyX
import Derived.Deep.Cut
import Derived.IntWalk
namespace Go.Proofs.YtknomchkfamajaaGreatDoor
open Go.RowKit Go.Sort Go.Bw
set_option linter.unusedVariables false
set_option linter.unusedSimpArgs false

section
variable {b : Bool} {A : Option Addr} {n c : Nat} {x : Int} {l : List Int} {w : World}
variable {b2 : Bool} {A2 : Option Addr} {n2 c2 : Nat} {x2 : Int} {l2 : List Int}

/-- two normal numbers in the boxes g, g + 1; behind them a box for the answer -/
def TwoD (w : World) (d d2 : Nf) (w' : World) : Prop :=
  ∃ b3 q3 A3 c3 x3 b4 q4 A4 c4 x4, Dn b3 q3 x3 d ∧ Dn b4 q4 x4 d2 ∧ Lv w' A3 q3.length c3 q3 ∧ Lv w' A4 q4.length c4 q4 ∧ Dbx w' w.heap.size b3 A3 q3.length c3 x3 ∧ Dbx w' (w.heap.size + 1) b4 A4 q4.length c4 x4 ∧ Dbx w' (w.heap.size + 2) false none 0 0 0 ∧ Below w.heap.size w w'
theorem mul_nfl {d d2 : Nf} (hd : Dn b l x d) (hd2 : Dn b2 l2 x2 d2) (hl : Lim 18446744073709551616 l) (hl2 : Lim 18446744073709551616 l2) :
    nfl (!(b == b2)) (val 18446744073709551616 l * val 18446744073709551616 l2) (x + x2) = mulN d d2 := by
  have e := mulN_of d.num d.exp d2.num d2.exp
  rw [nf_self hd.2.2.2, nf_self hd2.2.2.2, num_dn hd hl, num_dn hd2 hl2, hd.exp, hd2.exp] at e
  rw [← e]
  unfold nfl
  congr 1
  cases b <;> cases b2 <;> simp <;> grind
set_option maxRecDepth 100000 in
set_option maxHeartbeats 8000000 in
theorem rMul_na (h : Lv w A n c l) (hn : n ≤ 4096) (h2 : Lv w A2 n2 c2 l2) (hn2 : n2 ≤ 4096) (ho : okE x = false) :
    Calls Tryz.prog 43 #[dyV b A n c x, dyV b2 A2 n2 c2 x2] w (DyK zeroN 2 w) := by
  have PB := Blk.new w [.bool b, .slice A n c, .int .i64 x] 24
  have QB := Blk.new (w.alloc (.cells #[.bool b, .slice A n c, .int .i64 x] 24)) [.bool b2, .slice A2 n2 c2, .int .i64 x2] 24
  simp only [World.size_alloc] at QB
  replace PB := Blk.alloc PB (.cells #[.bool b2, .slice A2 n2 c2, .int .i64 x2] 24)
  have DB := Blk.new ((w.alloc (.cells #[.bool b, .slice A n c, .int .i64 x] 24)).alloc (.cells #[.bool b2, .slice A2 n2 c2, .int .i64 x2] 24)) [.bool false, .slice none 0 0, .int .i64 0] 24
  simp only [World.size_alloc] at DB
  replace PB := Blk.alloc PB (.cells #[.bool false, .slice none 0 0, .int .i64 0] 24)
  replace QB := Blk.alloc QB (.cells #[.bool false, .slice none 0 0, .int .i64 0] 24)
  have bw : Below w.heap.size w (((w.alloc (.cells #[.bool b, .slice A n c, .int .i64 x] 24)).alloc (.cells #[.bool b2, .slice A2 n2 c2, .int .i64 x2] 24)).alloc (.cells #[.bool false, .slice none 0 0, .int .i64 0] 24)) := by go_grown
  obtain ⟨PB_0, PB_1, PB_2, PB_f0, PB_f1, PB_f2⟩ := Dbx.cells PB
  obtain ⟨QB_0, QB_1, QB_2, QB_f0, QB_f1, QB_f2⟩ := Dbx.cells QB
  obtain ⟨DB_0, DB_1, DB_2, DB_f0, DB_f1, DB_f2⟩ := Dbx.cells DB
  go_enter Tryz.func43, Tryz.ntmps43
  go_wp2_with fail
  with_reducible refine (rMay_no (b := b) (x := x) (h.on (by go_grown)) hn ho).mono ?_
  rintro e w1 ⟨rfl, hb⟩
  clear PB_0 PB_1 PB_2 PB_f0 PB_f1 PB_f2
  clear QB_0 QB_1 QB_2 QB_f0 QB_f1 QB_f2
  clear DB_0 DB_1 DB_2 DB_f0 DB_f1 DB_f2
  have hs1 := hb.size
  try simp only [World.size_alloc, World.size_setCell] at hs1
  replace bw : Below w.heap.size w w1 := dy_end (by go_grown) hb
  replace PB := Blk.on PB hb
  replace QB := Blk.on QB hb
  replace DB := Blk.on DB hb
  clear hb
  obtain ⟨PB_0, PB_1, PB_2, PB_f0, PB_f1, PB_f2⟩ := Dbx.cells PB
  obtain ⟨QB_0, QB_1, QB_2, QB_f0, QB_f1, QB_f2⟩ := Dbx.cells QB
  obtain ⟨DB_0, DB_1, DB_2, DB_f0, DB_f1, DB_f2⟩ := Dbx.cells DB
  go_wp2_with fail
  refine bodyPost_ret (v := .tuple #[dyV false none 0 0 0, .int .i64 2]) (by simp [results, Tryz.results43, go_sem, DB_0, DB_1, DB_2, DB_f0, DB_f1, DB_f2]) rfl ?_
  exact ⟨false, [], none, 0, 0, rfl, Dn.zero, lv_nil _, by go_grown⟩

set_option maxRecDepth 100000 in
set_option maxHeartbeats 8000000 in
theorem rMul_nb (h : Lv w A n c l) (hn : n ≤ 4096) (h2 : Lv w A2 n2 c2 l2) (hn2 : n2 ≤ 4096) (ho : okE x = true) (ho2 : okE x2 = false) :
    Calls Tryz.prog 43 #[dyV b A n c x, dyV b2 A2 n2 c2 x2] w (DyK zeroN 2 w) := by
  have PB := Blk.new w [.bool b, .slice A n c, .int .i64 x] 24
  have QB := Blk.new (w.alloc (.cells #[.bool b, .slice A n c, .int .i64 x] 24)) [.bool b2, .slice A2 n2 c2, .int .i64 x2] 24
  simp only [World.size_alloc] at QB
  replace PB := Blk.alloc PB (.cells #[.bool b2, .slice A2 n2 c2, .int .i64 x2] 24)
  have DB := Blk.new ((w.alloc (.cells #[.bool b, .slice A n c, .int .i64 x] 24)).alloc (.cells #[.bool b2, .slice A2 n2 c2, .int .i64 x2] 24)) [.bool false, .slice none 0 0, .int .i64 0] 24
  simp only [World.size_alloc] at DB
  replace PB := Blk.alloc PB (.cells #[.bool false, .slice none 0 0, .int .i64 0] 24)
  replace QB := Blk.alloc QB (.cells #[.bool false, .slice none 0 0, .int .i64 0] 24)
  have bw : Below w.heap.size w (((w.alloc (.cells #[.bool b, .slice A n c, .int .i64 x] 24)).alloc (.cells #[.bool b2, .slice A2 n2 c2, .int .i64 x2] 24)).alloc (.cells #[.bool false, .slice none 0 0, .int .i64 0] 24)) := by go_grown
  obtain ⟨PB_0, PB_1, PB_2, PB_f0, PB_f1, PB_f2⟩ := Dbx.cells PB
  obtain ⟨QB_0, QB_1, QB_2, QB_f0, QB_f1, QB_f2⟩ := Dbx.cells QB
  obtain ⟨DB_0, DB_1, DB_2, DB_f0, DB_f1, DB_f2⟩ := Dbx.cells DB
  go_enter Tryz.func43, Tryz.ntmps43
  go_wp2_with fail
  with_reducible refine (rMay_yes (b := b) (x := x) (h.on (by go_grown)) hn ho).mono ?_
  rintro e w1 ⟨rfl, hb⟩
  clear PB_0 PB_1 PB_2 PB_f0 PB_f1 PB_f2
  clear QB_0 QB_1 QB_2 QB_f0 QB_f1 QB_f2
  clear DB_0 DB_1 DB_2 DB_f0 DB_f1 DB_f2
  have hs1 := hb.size
  try simp only [World.size_alloc, World.size_setCell] at hs1
  replace bw : Below w.heap.size w w1 := dy_end (by go_grown) hb
  replace PB := Blk.on PB hb
  replace QB := Blk.on QB hb
  replace DB := Blk.on DB hb
  clear hb
  obtain ⟨PB_0, PB_1, PB_2, PB_f0, PB_f1, PB_f2⟩ := Dbx.cells PB
  obtain ⟨QB_0, QB_1, QB_2, QB_f0, QB_f1, QB_f2⟩ := Dbx.cells QB
  obtain ⟨DB_0, DB_1, DB_2, DB_f0, DB_f1, DB_f2⟩ := Dbx.cells DB
  go_wp2_with fail
  with_reducible refine (rMay_no (b := b2) (x := x2) (h2.on (by go_grown)) hn2 ho2).mono ?_
  rintro e w2 ⟨rfl, hb⟩
  clear PB_0 PB_1 PB_2 PB_f0 PB_f1 PB_f2
  clear QB_0 QB_1 QB_2 QB_f0 QB_f1 QB_f2
  clear DB_0 DB_1 DB_2 DB_f0 DB_f1 DB_f2
  have hs2 := hb.size
  try simp only [World.size_alloc, World.size_setCell] at hs2
  replace bw : Below w.heap.size w w2 := dy_end (by go_grown) hb
  replace PB := Blk.on PB hb
  replace QB := Blk.on QB hb
  replace DB := Blk.on DB hb
  clear hb
  obtain ⟨PB_0, PB_1, PB_2, PB_f0, PB_f1, PB_f2⟩ := Dbx.cells PB
  obtain ⟨QB_0, QB_1, QB_2, QB_f0, QB_f1, QB_f2⟩ := Dbx.cells QB
  obtain ⟨DB_0, DB_1, DB_2, DB_f0, DB_f1, DB_f2⟩ := Dbx.cells DB
  go_wp2_with fail
  refine bodyPost_ret (v := .tuple #[dyV false none 0 0 0, .int .i64 2]) (by simp [results, Tryz.results43, go_sem, DB_0, DB_1, DB_2, DB_f0, DB_f1, DB_f2]) rfl ?_
  exact ⟨false, [], none, 0, 0, rfl, Dn.zero, lv_nil _, by go_grown⟩

set_option maxRecDepth 100000 in
set_option maxHeartbeats 8000000 in
theorem rMul_yes (h : Lv w A n c l) (hn : n ≤ 4096) (h2 : Lv w A2 n2 c2 l2) (hn2 : n2 ≤ 4096) (ho : okE x = true) (ho2 : okE x2 = true) (hv : val 18446744073709551616 l * val 18446744073709551616 l2 < 18446744073709551616 ^ 4096) :
    Calls Tryz.prog 43 #[dyV b A n c x, dyV b2 A2 n2 c2 x2] w (DyK (doneR (mulN (nfl b (val 18446744073709551616 l) x) (nfl b2 (val 18446744073709551616 l2) x2))).1 (doneR (mulN (nfl b (val 18446744073709551616 l) x) (nfl b2 (val 18446744073709551616 l2) x2))).2 w) := by
  have hx := (okE_iff x).1 ho
  have hx2 := (okE_iff x2).1 ho2
  have PB := Blk.new w [.bool b, .slice A n c, .int .i64 x] 24
  have QB := Blk.new (w.alloc (.cells #[.bool b, .slice A n c, .int .i64 x] 24)) [.bool b2, .slice A2 n2 c2, .int .i64 x2] 24
  simp only [World.size_alloc] at QB
  replace PB := Blk.alloc PB (.cells #[.bool b2, .slice A2 n2 c2, .int .i64 x2] 24)
  have DB := Blk.new ((w.alloc (.cells #[.bool b, .slice A n c, .int .i64 x] 24)).alloc (.cells #[.bool b2, .slice A2 n2 c2, .int .i64 x2] 24)) [.bool false, .slice none 0 0, .int .i64 0] 24
  simp only [World.size_alloc] at DB
  replace PB := Blk.alloc PB (.cells #[.bool false, .slice none 0 0, .int .i64 0] 24)
  replace QB := Blk.alloc QB (.cells #[.bool false, .slice none 0 0, .int .i64 0] 24)
  have bw : Below w.heap.size w (((w.alloc (.cells #[.bool b, .slice A n c, .int .i64 x] 24)).alloc (.cells #[.bool b2, .slice A2 n2 c2, .int .i64 x2] 24)).alloc (.cells #[.bool false, .slice none 0 0, .int .i64 0] 24)) := by go_grown
  obtain ⟨PB_0, PB_1, PB_2, PB_f0, PB_f1, PB_f2⟩ := Dbx.cells PB
  obtain ⟨QB_0, QB_1, QB_2, QB_f0, QB_f1, QB_f2⟩ := Dbx.cells QB
  obtain ⟨DB_0, DB_1, DB_2, DB_f0, DB_f1, DB_f2⟩ := Dbx.cells DB
  go_enter Tryz.func43, Tryz.ntmps43
  go_wp2_with fail
  with_reducible refine (rMay_yes (b := b) (x := x) (h.on (by go_grown)) hn ho).mono ?_
  rintro e w1 ⟨rfl, hb⟩
  clear PB_0 PB_1 PB_2 PB_f0 PB_f1 PB_f2
  clear QB_0 QB_1 QB_2 QB_f0 QB_f1 QB_f2
  clear DB_0 DB_1 DB_2 DB_f0 DB_f1 DB_f2
  have hs1 := hb.size
  try simp only [World.size_alloc, World.size_setCell] at hs1
  replace bw : Below w.heap.size w w1 := dy_end (by go_grown) hb
  replace PB := Blk.on PB hb
  replace QB := Blk.on QB hb
  replace DB := Blk.on DB hb
  clear hb
  obtain ⟨PB_0, PB_1, PB_2, PB_f0, PB_f1, PB_f2⟩ := Dbx.cells PB
  obtain ⟨QB_0, QB_1, QB_2, QB_f0, QB_f1, QB_f2⟩ := Dbx.cells QB
  obtain ⟨DB_0, DB_1, DB_2, DB_f0, DB_f1, DB_f2⟩ := Dbx.cells DB
  go_wp2_with fail
  with_reducible refine (rMay_yes (b := b2) (x := x2) (h2.on (by go_grown)) hn2 ho2).mono ?_
  rintro e w2 ⟨rfl, hb⟩
  clear PB_0 PB_1 PB_2 PB_f0 PB_f1 PB_f2
  clear QB_0 QB_1 QB_2 QB_f0 QB_f1 QB_f2
  clear DB_0 DB_1 DB_2 DB_f0 DB_f1 DB_f2
  have hs2 := hb.size
  try simp only [World.size_alloc, World.size_setCell] at hs2
  replace bw : Below w.heap.size w w2 := dy_end (by go_grown) hb
  replace PB := Blk.on PB hb
  replace QB := Blk.on QB hb
  replace DB := Blk.on DB hb
  clear hb
  obtain ⟨PB_0, PB_1, PB_2, PB_f0, PB_f1, PB_f2⟩ := Dbx.cells PB
  obtain ⟨QB_0, QB_1, QB_2, QB_f0, QB_f1, QB_f2⟩ := Dbx.cells QB
  obtain ⟨DB_0, DB_1, DB_2, DB_f0, DB_f1, DB_f2⟩ := Dbx.cells DB
  go_upto_region 3 with fail
  go_cut [] from 15 (fun wr => TwoD w (nfl b (val 18446744073709551616 l) x) (nfl b2 (val 18446744073709551616 l2) x2) wr)
  case first =>
    clear PB_0 PB_1 PB_2 PB_f0 PB_f1 PB_f2
    clear QB_0 QB_1 QB_2 QB_f0 QB_f1 QB_f2
    clear DB_0 DB_1 DB_2 DB_f0 DB_f1 DB_f2
    have h9 := h.on bw
    have h29 := h2.on bw
    clear h h2
    have hb : Below w2.heap.size w2 w2.drew := (Below.refl _ _).drew
    replace h9 := Lv.on h9 hb
    replace h29 := Lv.on h29 hb
    replace PB := Blk.on PB hb
    replace QB := Blk.on QB hb
    replace DB := Blk.on DB hb
    replace bw := dy_end bw hb
    clear hb
    obtain ⟨PB_0, PB_1, PB_2, PB_f0, PB_f1, PB_f2⟩ := Dbx.cells PB
    obtain ⟨QB_0, QB_1, QB_2, QB_f0, QB_f1, QB_f2⟩ := Dbx.cells QB
    obtain ⟨DB_0, DB_1, DB_2, DB_f0, DB_f1, DB_f2⟩ := Dbx.cells DB
    refine wp_region_held_drew (S := fun _ => True) (by kernel_rfl) trivial (fun _ => ?_)
    refine wpAnyH_ready (rs := [0, 2]) (by kernel_rfl) (by simp) ?_
    refine (AllReadyH.cons rfl (fun K hK => ?_) (AllReadyH.cons rfl (fun K hK => ?_) AllReadyH.nil))
    · go_simp
      refine hK.out _ _ trivial (fun _ => ?_)
      clear hK K
      try simp only [Act.put, List.setIfInBounds_toArray, List.set_cons_zero, List.set_cons_succ, List.getElem_toArray, List.getElem_cons_zero, List.getElem_cons_succ]
      refine wpAnyH_ready (rs := [1, 2]) (by kernel_rfl) (by simp) ?_
      refine (AllReadyH.cons rfl (fun K hK => ?_) (AllReadyH.cons rfl (fun K hK => ?_) AllReadyH.nil))
      · go_simp
        with_reducible refine (rNorm_any (b := b) (x := x) h9 hn (by omega) (by omega)).mono ?_
        rintro e w102 ⟨b3, q3, A3, c3, x3, rfl, hd3, m3, hb⟩
        clear PB_0 PB_1 PB_2 PB_f0 PB_f1 PB_f2
        clear QB_0 QB_1 QB_2 QB_f0 QB_f1 QB_f2
        clear DB_0 DB_1 DB_2 DB_f0 DB_f1 DB_f2
        replace bw : Below w.heap.size w w102 := dy_end bw hb
        have hs102 := bw.size
        replace h9 := Lv.on h9 hb
        replace h29 := Lv.on h29 hb
        replace PB := Blk.on PB hb
        replace QB := Blk.on QB hb
        replace DB := Blk.on DB hb
        clear hb
        obtain ⟨PB_0, PB_1, PB_2, PB_f0, PB_f1, PB_f2⟩ := Dbx.cells PB
        obtain ⟨QB_0, QB_1, QB_2, QB_f0, QB_f1, QB_f2⟩ := Dbx.cells QB
        obtain ⟨DB_0, DB_1, DB_2, DB_f0, DB_f1, DB_f2⟩ := Dbx.cells DB
        refine hK.out _ _ trivial (fun _ => ?_)
        clear hK K
        try simp only [Act.put, List.setIfInBounds_toArray, List.set_cons_zero, List.set_cons_succ, List.getElem_toArray, List.getElem_cons_zero, List.getElem_cons_succ]
        refine wpAnyH_ready (rs := [2]) (by kernel_rfl) (by simp) ?_
        refine (AllReadyH.cons rfl (fun K hK => ?_) AllReadyH.nil)
        go_simp
        refine hK.out _ _ trivial (fun _ => ?_)
        clear hK K
        try simp only [Act.put, List.setIfInBounds_toArray, List.set_cons_zero, List.set_cons_succ, List.getElem_toArray, List.getElem_cons_zero, List.getElem_cons_succ]
        refine wpAnyH_ready (rs := [3]) (by kernel_rfl) (by simp) ?_
        refine (AllReadyH.cons rfl (fun K hK => ?_) AllReadyH.nil)
        go_simp
        with_reducible refine (rNorm_any (b := b2) (x := x2) h29 hn2 (by omega) (by omega)).mono ?_
        rintro e w202 ⟨b4, q4, A4, c4, x4, rfl, hd4, m4, hb⟩
        clear PB_0 PB_1 PB_2 PB_f0 PB_f1 PB_f2
        clear QB_0 QB_1 QB_2 QB_f0 QB_f1 QB_f2
        clear DB_0 DB_1 DB_2 DB_f0 DB_f1 DB_f2
        replace bw : Below w.heap.size w w202 := dy_end bw hb
        have hs202 := bw.size
        replace h9 := Lv.on h9 hb
        replace h29 := Lv.on h29 hb
        replace m3 := Lv.on m3 hb
        replace PB := Blk.on PB hb
        replace QB := Blk.on QB hb
        replace DB := Blk.on DB hb
        clear hb
        obtain ⟨PB_0, PB_1, PB_2, PB_f0, PB_f1, PB_f2⟩ := Dbx.cells PB
        obtain ⟨QB_0, QB_1, QB_2, QB_f0, QB_f1, QB_f2⟩ := Dbx.cells QB
        obtain ⟨DB_0, DB_1, DB_2, DB_f0, DB_f1, DB_f2⟩ := Dbx.cells DB
        refine hK.out _ _ trivial (fun _ => ?_)
        clear hK K
        try simp only [Act.put, List.setIfInBounds_toArray, List.set_cons_zero, List.set_cons_succ, List.getElem_toArray, List.getElem_cons_zero, List.getElem_cons_succ]
        refine wpAnyH_ready (rs := [4]) (by kernel_rfl) (by simp) ?_
        refine (AllReadyH.cons rfl (fun K hK => ?_) AllReadyH.nil)
        go_simp
        clear PB_0 PB_1 PB_2 PB_f0 PB_f1 PB_f2
        clear QB_0 QB_1 QB_2 QB_f0 QB_f1 QB_f2
        clear DB_0 DB_1 DB_2 DB_f0 DB_f1 DB_f2
        replace h9 := Lv.put h9 PB (b3) (A3) (q3.length) (c3) (x3)
        replace h29 := Lv.put h29 PB (b3) (A3) (q3.length) (c3) (x3)
        replace m3 := Lv.put m3 PB (b3) (A3) (q3.length) (c3) (x3)
        replace m4 := Lv.put m4 PB (b3) (A3) (q3.length) (c3) (x3)
        replace QB := Blk.putO QB (g := w.heap.size) (by omega) (.bool (b3)) (.slice (A3) (q3.length) (c3)) (.int .i64 (x3))
        replace DB := Blk.putO DB (g := w.heap.size) (by omega) (.bool (b3)) (.slice (A3) (q3.length) (c3)) (.int .i64 (x3))
        replace PB := Dbx.put PB (b3) (A3) (q3.length) (c3) (x3)
        obtain ⟨PB_0, PB_1, PB_2, PB_f0, PB_f1, PB_f2⟩ := Dbx.cells PB
        obtain ⟨QB_0, QB_1, QB_2, QB_f0, QB_f1, QB_f2⟩ := Dbx.cells QB
        obtain ⟨DB_0, DB_1, DB_2, DB_f0, DB_f1, DB_f2⟩ := Dbx.cells DB
        refine hK.out _ _ trivial (fun _ => ?_)
        clear hK K
        try simp only [Act.put, List.setIfInBounds_toArray, List.set_cons_zero, List.set_cons_succ, List.getElem_toArray, List.getElem_cons_zero, List.getElem_cons_succ]
        refine wpAnyH_ready (rs := [5]) (by kernel_rfl) (by simp) ?_
        refine (AllReadyH.cons rfl (fun K hK => ?_) AllReadyH.nil)
        go_simp
        clear PB_0 PB_1 PB_2 PB_f0 PB_f1 PB_f2
        clear QB_0 QB_1 QB_2 QB_f0 QB_f1 QB_f2
        clear DB_0 DB_1 DB_2 DB_f0 DB_f1 DB_f2
        replace h9 := Lv.put h9 QB (b4) (A4) (q4.length) (c4) (x4)
        replace h29 := Lv.put h29 QB (b4) (A4) (q4.length) (c4) (x4)
        replace m3 := Lv.put m3 QB (b4) (A4) (q4.length) (c4) (x4)
        replace m4 := Lv.put m4 QB (b4) (A4) (q4.length) (c4) (x4)
        replace PB := Blk.putO PB (g := (w.heap.size + 1)) (by omega) (.bool (b4)) (.slice (A4) (q4.length) (c4)) (.int .i64 (x4))
        replace DB := Blk.putO DB (g := (w.heap.size + 1)) (by omega) (.bool (b4)) (.slice (A4) (q4.length) (c4)) (.int .i64 (x4))
        replace QB := Dbx.put QB (b4) (A4) (q4.length) (c4) (x4)
        obtain ⟨PB_0, PB_1, PB_2, PB_f0, PB_f1, PB_f2⟩ := Dbx.cells PB
        obtain ⟨QB_0, QB_1, QB_2, QB_f0, QB_f1, QB_f2⟩ := Dbx.cells QB
        obtain ⟨DB_0, DB_1, DB_2, DB_f0, DB_f1, DB_f2⟩ := Dbx.cells DB
        refine hK.out _ _ trivial (fun _ => ?_)
        clear hK K
        try simp only [Act.put, List.setIfInBounds_toArray, List.set_cons_zero, List.set_cons_succ, List.getElem_toArray, List.getElem_cons_zero, List.getElem_cons_succ]
        refine wpAnyH_done (by kernel_rfl) ?_ _
        go_wp2_with fail
        go_meet
        case rel => exact ⟨b3, q3, A3, c3, x3, b4, q4, A4, c4, x4, hd3, hd4, m3, m4, PB, QB, DB, by go_grown⟩
      · go_simp
        refine hK.out _ _ trivial (fun _ => ?_)
        clear hK K
        try simp only [Act.put, List.setIfInBounds_toArray, List.set_cons_zero, List.set_cons_succ, List.getElem_toArray, List.getElem_cons_zero, List.getElem_cons_succ]
        refine wpAnyH_ready (rs := [1]) (by kernel_rfl) (by simp) ?_
        refine (AllReadyH.cons rfl (fun K hK => ?_) AllReadyH.nil)
        go_simp
        with_reducible refine (rNorm_any (b := b) (x := x) h9 hn (by omega) (by omega)).mono ?_
        rintro e w302 ⟨b3, q3, A3, c3, x3, rfl, hd3, m3, hb⟩
        clear PB_0 PB_1 PB_2 PB_f0 PB_f1 PB_f2
        clear QB_0 QB_1 QB_2 QB_f0 QB_f1 QB_f2
        clear DB_0 DB_1 DB_2 DB_f0 DB_f1 DB_f2
        replace bw : Below w.heap.size w w302 := dy_end bw hb
        have hs302 := bw.size
        replace h9 := Lv.on h9 hb
        replace h29 := Lv.on h29 hb
        replace PB := Blk.on PB hb
        replace QB := Blk.on QB hb
        replace DB := Blk.on DB hb
        clear hb
        obtain ⟨PB_0, PB_1, PB_2, PB_f0, PB_f1, PB_f2⟩ := Dbx.cells PB
        obtain ⟨QB_0, QB_1, QB_2, QB_f0, QB_f1, QB_f2⟩ := Dbx.cells QB
        obtain ⟨DB_0, DB_1, DB_2, DB_f0, DB_f1, DB_f2⟩ := Dbx.cells DB
        refine hK.out _ _ trivial (fun _ => ?_)
        clear hK K
        try simp only [Act.put, List.setIfInBounds_toArray, List.set_cons_zero, List.set_cons_succ, List.getElem_toArray, List.getElem_cons_zero, List.getElem_cons_succ]
        refine wpAnyH_ready (rs := [3]) (by kernel_rfl) (by simp) ?_
        refine (AllReadyH.cons rfl (fun K hK => ?_) AllReadyH.nil)
        go_simp
        with_reducible refine (rNorm_any (b := b2) (x := x2) h29 hn2 (by omega) (by omega)).mono ?_
        rintro e w402 ⟨b4, q4, A4, c4, x4, rfl, hd4, m4, hb⟩
        clear PB_0 PB_1 PB_2 PB_f0 PB_f1 PB_f2
        clear QB_0 QB_1 QB_2 QB_f0 QB_f1 QB_f2
        clear DB_0 DB_1 DB_2 DB_f0 DB_f1 DB_f2
        replace bw : Below w.heap.size w w402 := dy_end bw hb
        have hs402 := bw.size
        replace h9 := Lv.on h9 hb
        replace h29 := Lv.on h29 hb
        replace m3 := Lv.on m3 hb
        replace PB := Blk.on PB hb
        replace QB := Blk.on QB hb
        replace DB := Blk.on DB hb
        clear hb
        obtain ⟨PB_0, PB_1, PB_2, PB_f0, PB_f1, PB_f2⟩ := Dbx.cells PB
        obtain ⟨QB_0, QB_1, QB_2, QB_f0, QB_f1, QB_f2⟩ := Dbx.cells QB
        obtain ⟨DB_0, DB_1, DB_2, DB_f0, DB_f1, DB_f2⟩ := Dbx.cells DB
        refine hK.out _ _ trivial (fun _ => ?_)
        clear hK K
        try simp only [Act.put, List.setIfInBounds_toArray, List.set_cons_zero, List.set_cons_succ, List.getElem_toArray, List.getElem_cons_zero, List.getElem_cons_succ]
        refine wpAnyH_ready (rs := [4]) (by kernel_rfl) (by simp) ?_
        refine (AllReadyH.cons rfl (fun K hK => ?_) AllReadyH.nil)
        go_simp
        clear PB_0 PB_1 PB_2 PB_f0 PB_f1 PB_f2
        clear QB_0 QB_1 QB_2 QB_f0 QB_f1 QB_f2
        clear DB_0 DB_1 DB_2 DB_f0 DB_f1 DB_f2
        replace h9 := Lv.put h9 PB (b3) (A3) (q3.length) (c3) (x3)
        replace h29 := Lv.put h29 PB (b3) (A3) (q3.length) (c3) (x3)
        replace m3 := Lv.put m3 PB (b3) (A3) (q3.length) (c3) (x3)
        replace m4 := Lv.put m4 PB (b3) (A3) (q3.length) (c3) (x3)
        replace QB := Blk.putO QB (g := w.heap.size) (by omega) (.bool (b3)) (.slice (A3) (q3.length) (c3)) (.int .i64 (x3))
        replace DB := Blk.putO DB (g := w.heap.size) (by omega) (.bool (b3)) (.slice (A3) (q3.length) (c3)) (.int .i64 (x3))
        replace PB := Dbx.put PB (b3) (A3) (q3.length) (c3) (x3)
        obtain ⟨PB_0, PB_1, PB_2, PB_f0, PB_f1, PB_f2⟩ := Dbx.cells PB
        obtain ⟨QB_0, QB_1, QB_2, QB_f0, QB_f1, QB_f2⟩ := Dbx.cells QB
        obtain ⟨DB_0, DB_1, DB_2, DB_f0, DB_f1, DB_f2⟩ := Dbx.cells DB
        refine hK.out _ _ trivial (fun _ => ?_)
        clear hK K
        try simp only [Act.put, List.setIfInBounds_toArray, List.set_cons_zero, List.set_cons_succ, List.getElem_toArray, List.getElem_cons_zero, List.getElem_cons_succ]
        refine wpAnyH_ready (rs := [5]) (by kernel_rfl) (by simp) ?_
        refine (AllReadyH.cons rfl (fun K hK => ?_) AllReadyH.nil)
        go_simp
        clear PB_0 PB_1 PB_2 PB_f0 PB_f1 PB_f2
        clear QB_0 QB_1 QB_2 QB_f0 QB_f1 QB_f2
        clear DB_0 DB_1 DB_2 DB_f0 DB_f1 DB_f2
        replace h9 := Lv.put h9 QB (b4) (A4) (q4.length) (c4) (x4)
        replace h29 := Lv.put h29 QB (b4) (A4) (q4.length) (c4) (x4)
        replace m3 := Lv.put m3 QB (b4) (A4) (q4.length) (c4) (x4)
        replace m4 := Lv.put m4 QB (b4) (A4) (q4.length) (c4) (x4)
        replace PB := Blk.putO PB (g := (w.heap.size + 1)) (by omega) (.bool (b4)) (.slice (A4) (q4.length) (c4)) (.int .i64 (x4))
        replace DB := Blk.putO DB (g := (w.heap.size + 1)) (by omega) (.bool (b4)) (.slice (A4) (q4.length) (c4)) (.int .i64 (x4))
        replace QB := Dbx.put QB (b4) (A4) (q4.length) (c4) (x4)
        obtain ⟨PB_0, PB_1, PB_2, PB_f0, PB_f1, PB_f2⟩ := Dbx.cells PB
        obtain ⟨QB_0, QB_1, QB_2, QB_f0, QB_f1, QB_f2⟩ := Dbx.cells QB
        obtain ⟨DB_0, DB_1, DB_2, DB_f0, DB_f1, DB_f2⟩ := Dbx.cells DB
        refine hK.out _ _ trivial (fun _ => ?_)
        clear hK K
        try simp only [Act.put, List.setIfInBounds_toArray, List.set_cons_zero, List.set_cons_succ, List.getElem_toArray, List.getElem_cons_zero, List.getElem_cons_succ]
        refine wpAnyH_done (by kernel_rfl) ?_ _
        go_wp2_with fail
        go_meet
        case rel => exact ⟨b3, q3, A3, c3, x3, b4, q4, A4, c4, x4, hd3, hd4, m3, m4, PB, QB, DB, by go_grown⟩
    · go_simp
      refine hK.out _ _ trivial (fun _ => ?_)
      clear hK K
      try simp only [Act.put, List.setIfInBounds_toArray, List.set_cons_zero, List.set_cons_succ, List.getElem_toArray, List.getElem_cons_zero, List.getElem_cons_succ]
      refine wpAnyH_ready (rs := [0]) (by kernel_rfl) (by simp) ?_
      refine (AllReadyH.cons rfl (fun K hK => ?_) AllReadyH.nil)
      go_simp
      refine hK.out _ _ trivial (fun _ => ?_)
      clear hK K
      try simp only [Act.put, List.setIfInBounds_toArray, List.set_cons_zero, List.set_cons_succ, List.getElem_toArray, List.getElem_cons_zero, List.getElem_cons_succ]
      refine wpAnyH_ready (rs := [1]) (by kernel_rfl) (by simp) ?_
      refine (AllReadyH.cons rfl (fun K hK => ?_) AllReadyH.nil)
      go_simp
      with_reducible refine (rNorm_any (b := b) (x := x) h9 hn (by omega) (by omega)).mono ?_
      rintro e w502 ⟨b3, q3, A3, c3, x3, rfl, hd3, m3, hb⟩
      clear PB_0 PB_1 PB_2 PB_f0 PB_f1 PB_f2
      clear QB_0 QB_1 QB_2 QB_f0 QB_f1 QB_f2
      clear DB_0 DB_1 DB_2 DB_f0 DB_f1 DB_f2
      replace bw : Below w.heap.size w w502 := dy_end bw hb
      have hs502 := bw.size
      replace h9 := Lv.on h9 hb
      replace h29 := Lv.on h29 hb
      replace PB := Blk.on PB hb
      replace QB := Blk.on QB hb
      replace DB := Blk.on DB hb
      clear hb
      obtain ⟨PB_0, PB_1, PB_2, PB_f0, PB_f1, PB_f2⟩ := Dbx.cells PB
      obtain ⟨QB_0, QB_1, QB_2, QB_f0, QB_f1, QB_f2⟩ := Dbx.cells QB
      obtain ⟨DB_0, DB_1, DB_2, DB_f0, DB_f1, DB_f2⟩ := Dbx.cells DB
      refine hK.out _ _ trivial (fun _ => ?_)
      clear hK K
      try simp only [Act.put, List.setIfInBounds_toArray, List.set_cons_zero, List.set_cons_succ, List.getElem_toArray, List.getElem_cons_zero, List.getElem_cons_succ]
      refine wpAnyH_ready (rs := [3]) (by kernel_rfl) (by simp) ?_
      refine (AllReadyH.cons rfl (fun K hK => ?_) AllReadyH.nil)
      go_simp
      with_reducible refine (rNorm_any (b := b2) (x := x2) h29 hn2 (by omega) (by omega)).mono ?_
      rintro e w602 ⟨b4, q4, A4, c4, x4, rfl, hd4, m4, hb⟩
      clear PB_0 PB_1 PB_2 PB_f0 PB_f1 PB_f2
      clear QB_0 QB_1 QB_2 QB_f0 QB_f1 QB_f2
      clear DB_0 DB_1 DB_2 DB_f0 DB_f1 DB_f2
      replace bw : Below w.heap.size w w602 := dy_end bw hb
      have hs602 := bw.size
      replace h9 := Lv.on h9 hb
      replace h29 := Lv.on h29 hb
      replace m3 := Lv.on m3 hb
      replace PB := Blk.on PB hb
      replace QB := Blk.on QB hb
      replace DB := Blk.on DB hb
      clear hb
      obtain ⟨PB_0, PB_1, PB_2, PB_f0, PB_f1, PB_f2⟩ := Dbx.cells PB
      obtain ⟨QB_0, QB_1, QB_2, QB_f0, QB_f1, QB_f2⟩ := Dbx.cells QB
      obtain ⟨DB_0, DB_1, DB_2, DB_f0, DB_f1, DB_f2⟩ := Dbx.cells DB
      refine hK.out _ _ trivial (fun _ => ?_)
      clear hK K
      try simp only [Act.put, List.setIfInBounds_toArray, List.set_cons_zero, List.set_cons_succ, List.getElem_toArray, List.getElem_cons_zero, List.getElem_cons_succ]
      refine wpAnyH_ready (rs := [4]) (by kernel_rfl) (by simp) ?_
      refine (AllReadyH.cons rfl (fun K hK => ?_) AllReadyH.nil)
      go_simp
      clear PB_0 PB_1 PB_2 PB_f0 PB_f1 PB_f2
      clear QB_0 QB_1 QB_2 QB_f0 QB_f1 QB_f2
      clear DB_0 DB_1 DB_2 DB_f0 DB_f1 DB_f2
      replace h9 := Lv.put h9 PB (b3) (A3) (q3.length) (c3) (x3)
      replace h29 := Lv.put h29 PB (b3) (A3) (q3.length) (c3) (x3)
      replace m3 := Lv.put m3 PB (b3) (A3) (q3.length) (c3) (x3)
      replace m4 := Lv.put m4 PB (b3) (A3) (q3.length) (c3) (x3)
      replace QB := Blk.putO QB (g := w.heap.size) (by omega) (.bool (b3)) (.slice (A3) (q3.length) (c3)) (.int .i64 (x3))
      replace DB := Blk.putO DB (g := w.heap.size) (by omega) (.bool (b3)) (.slice (A3) (q3.length) (c3)) (.int .i64 (x3))
      replace PB := Dbx.put PB (b3) (A3) (q3.length) (c3) (x3)
      obtain ⟨PB_0, PB_1, PB_2, PB_f0, PB_f1, PB_f2⟩ := Dbx.cells PB
      obtain ⟨QB_0, QB_1, QB_2, QB_f0, QB_f1, QB_f2⟩ := Dbx.cells QB
      obtain ⟨DB_0, DB_1, DB_2, DB_f0, DB_f1, DB_f2⟩ := Dbx.cells DB
      refine hK.out _ _ trivial (fun _ => ?_)
      clear hK K
      try simp only [Act.put, List.setIfInBounds_toArray, List.set_cons_zero, List.set_cons_succ, List.getElem_toArray, List.getElem_cons_zero, List.getElem_cons_succ]
      refine wpAnyH_ready (rs := [5]) (by kernel_rfl) (by simp) ?_
      refine (AllReadyH.cons rfl (fun K hK => ?_) AllReadyH.nil)
      go_simp
      clear PB_0 PB_1 PB_2 PB_f0 PB_f1 PB_f2
      clear QB_0 QB_1 QB_2 QB_f0 QB_f1 QB_f2
      clear DB_0 DB_1 DB_2 DB_f0 DB_f1 DB_f2
      replace h9 := Lv.put h9 QB (b4) (A4) (q4.length) (c4) (x4)
      replace h29 := Lv.put h29 QB (b4) (A4) (q4.length) (c4) (x4)
      replace m3 := Lv.put m3 QB (b4) (A4) (q4.length) (c4) (x4)
      replace m4 := Lv.put m4 QB (b4) (A4) (q4.length) (c4) (x4)
      replace PB := Blk.putO PB (g := (w.heap.size + 1)) (by omega) (.bool (b4)) (.slice (A4) (q4.length) (c4)) (.int .i64 (x4))
      replace DB := Blk.putO DB (g := (w.heap.size + 1)) (by omega) (.bool (b4)) (.slice (A4) (q4.length) (c4)) (.int .i64 (x4))
      replace QB := Dbx.put QB (b4) (A4) (q4.length) (c4) (x4)
      obtain ⟨PB_0, PB_1, PB_2, PB_f0, PB_f1, PB_f2⟩ := Dbx.cells PB
      obtain ⟨QB_0, QB_1, QB_2, QB_f0, QB_f1, QB_f2⟩ := Dbx.cells QB
      obtain ⟨DB_0, DB_1, DB_2, DB_f0, DB_f1, DB_f2⟩ := Dbx.cells DB
      refine hK.out _ _ trivial (fun _ => ?_)
      clear hK K
      try simp only [Act.put, List.setIfInBounds_toArray, List.set_cons_zero, List.set_cons_succ, List.getElem_toArray, List.getElem_cons_zero, List.getElem_cons_succ]
      refine wpAnyH_done (by kernel_rfl) ?_ _
      go_wp2_with fail
      go_meet
      case rel => exact ⟨b3, q3, A3, c3, x3, b4, q4, A4, c4, x4, hd3, hd4, m3, m4, PB, QB, DB, by go_grown⟩
  case rest =>
  clear PB_0 PB_1 PB_2 PB_f0 PB_f1 PB_f2
  clear QB_0 QB_1 QB_2 QB_f0 QB_f1 QB_f2
  clear DB_0 DB_1 DB_2 DB_f0 DB_f1 DB_f2
  clear PB QB DB bw
  obtain ⟨b3, q3, A3, c3, x3, b4, q4, A4, c4, x4, hd3, hd4, m3, m4, PB, QB, DB, bw⟩ := hcut
  have hsc := bw.size
  have hsd := Blk.lt DB
  obtain ⟨PB_0, PB_1, PB_2, PB_f0, PB_f1, PB_f2⟩ := Dbx.cells PB
  obtain ⟨QB_0, QB_1, QB_2, QB_f0, QB_f1, QB_f2⟩ := Dbx.cells QB
  obtain ⟨DB_0, DB_1, DB_2, DB_f0, DB_f1, DB_f2⟩ := Dbx.cells DB
  have X3 := exp_bd h hn ho hd3
  have X4 := exp_bd h2 hn2 ho2 hd4
  obtain ⟨X30, X31⟩ := X3
  obtain ⟨X40, X41⟩ := X4
  have HV := Lib.hid (mul_less h h2 hd3 hd4 m3.lim m4.lim hv)
  have HM := Lib.hid (mul_nfl hd3 hd4 m3.lim m4.lim)
  have n3 := hd3.len
  have n4 := hd4.len
  clear hv hx hx2
  go_upto_region 4 with fail
  refine wp_region_held_drew (S := fun w9 : World => w9.cell? ⟨w.heap.size, 0, none⟩ = some (.bool b3) ∧ w9.cell? ⟨w.heap.size, 1, none⟩ = some (.slice A3 q3.length c3) ∧ w9.cell? ⟨w.heap.size, 2, none⟩ = some (.int .i64 x3) ∧ w9.cell? ⟨w.heap.size + 1, 0, none⟩ = some (.bool b4) ∧ w9.cell? ⟨w.heap.size + 1, 1, none⟩ = some (.slice A4 q4.length c4) ∧ w9.cell? ⟨w.heap.size + 1, 2, none⟩ = some (.int .i64 x4)) (by kernel_rfl) ⟨PB_0, PB_1, PB_2, QB_0, QB_1, QB_2⟩ (fun hHeld => ?_)
  refine wpAnyH_take (i := 0) (v := ?v0) rfl (by kernel_rfl) (by kernel_rfl) (by kernel_rfl) (fun _ _ _ h => h) (Or.inl ⟨by rfl, ?hy0⟩) (by assumption) ?rest0
  case hy0 => (intro w hSw; (try dsimp only at hSw); go_simp; try with_reducible rfl)
  simp only [Act.put, List.setIfInBounds_toArray, List.set_cons_zero, List.set_cons_succ, List.getElem_toArray, List.getElem_cons_zero, List.getElem_cons_succ]
  refine wpAnyH_take (i := 1) (v := ?v1) rfl (by kernel_rfl) (by kernel_rfl) (by kernel_rfl) (fun _ _ _ h => h) (Or.inl ⟨by rfl, ?hy1⟩) (by assumption) ?rest1
  case hy1 => (intro w hSw; (try dsimp only at hSw); go_simp; try with_reducible rfl)
  simp only [Act.put, List.setIfInBounds_toArray, List.set_cons_zero, List.set_cons_succ, List.getElem_toArray, List.getElem_cons_zero, List.getElem_cons_succ]
  refine wpAnyH_take (i := 2) (v := ?v2) rfl (by kernel_rfl) (by kernel_rfl) (by kernel_rfl) (fun _ _ _ h => h) (Or.inl ⟨by rfl, ?hy2⟩) (by assumption) ?rest2
  case hy2 => (intro w hSw; (try dsimp only at hSw); go_simp; try with_reducible rfl)
  simp only [Act.put, List.setIfInBounds_toArray, List.set_cons_zero, List.set_cons_succ, List.getElem_toArray, List.getElem_cons_zero, List.getElem_cons_succ]
  refine wpAnyH_take (i := 3) (v := ?v3) rfl (by kernel_rfl) (by kernel_rfl) (by kernel_rfl) (fun _ _ _ h => h) (Or.inl ⟨by rfl, ?hy3⟩) (by assumption) ?rest3
  case hy3 => (intro w hSw; (try dsimp only at hSw); go_simp; try with_reducible rfl)
  simp only [Act.put, List.setIfInBounds_toArray, List.set_cons_zero, List.set_cons_succ, List.getElem_toArray, List.getElem_cons_zero, List.getElem_cons_succ]
  refine wpAnyH_take (i := 4) (v := ?v4) rfl (by kernel_rfl) (by kernel_rfl) (by kernel_rfl) (fun _ _ _ h => h) (Or.inl ⟨by rfl, ?hy4⟩) (by assumption) ?rest4
  case hy4 => (intro w hSw; (try dsimp only at hSw); go_simp; try with_reducible rfl)
  simp only [Act.put, List.setIfInBounds_toArray, List.set_cons_zero, List.set_cons_succ, List.getElem_toArray, List.getElem_cons_zero, List.getElem_cons_succ]
  refine wpAnyH_take (i := 5) (v := ?v5) rfl (by kernel_rfl) (by kernel_rfl) (by kernel_rfl) (fun _ _ _ h => h) (Or.inl ⟨by rfl, ?hy5⟩) (by assumption) ?rest5
  case hy5 => (intro w hSw; (try dsimp only at hSw); go_simp; try with_reducible rfl)
  simp only [Act.put, List.setIfInBounds_toArray, List.set_cons_zero, List.set_cons_succ, List.getElem_toArray, List.getElem_cons_zero, List.getElem_cons_succ]
  refine wpAnyH_take (i := 6) (v := ?v6) rfl (by kernel_rfl) (by kernel_rfl) (by kernel_rfl) (fun _ _ _ h => h) (Or.inl ⟨by rfl, ?hy6⟩) (by assumption) ?rest6
  case hy6 => (intro w hSw; (try dsimp only at hSw); go_simp; try with_reducible rfl)
  simp only [Act.put, List.setIfInBounds_toArray, List.set_cons_zero, List.set_cons_succ, List.getElem_toArray, List.getElem_cons_zero, List.getElem_cons_succ]
  refine wpAnyH_take (i := 7) (v := ?v7) rfl (by kernel_rfl) (by kernel_rfl) (by kernel_rfl) (fun _ _ _ h => h) (Or.inl ⟨by rfl, ?hy7⟩) (by assumption) ?rest7
  case hy7 => (intro w hSw; (try dsimp only at hSw); go_simp; try with_reducible rfl)
  simp only [Act.put, List.setIfInBounds_toArray, List.set_cons_zero, List.set_cons_succ, List.getElem_toArray, List.getElem_cons_zero, List.getElem_cons_succ]
  refine wpAnyH_take (i := 8) (v := ?v8) rfl (by kernel_rfl) (by kernel_rfl) (by kernel_rfl) (fun _ _ _ h => h) (Or.inl ⟨by rfl, ?hy8⟩) (by assumption) ?rest8
  case hy8 => (intro w hSw; (try dsimp only at hSw); go_simp; try with_reducible rfl)
  simp only [Act.put, List.setIfInBounds_toArray, List.set_cons_zero, List.set_cons_succ, List.getElem_toArray, List.getElem_cons_zero, List.getElem_cons_succ]
  refine wpAnyH_take (i := 10) (v := ?v10) rfl (by kernel_rfl) (by kernel_rfl) (by kernel_rfl) (fun _ _ _ h => h) (Or.inl ⟨by rfl, ?hy10⟩) (by assumption) ?rest10
  case hy10 => (intro w hSw; (try dsimp only at hSw); go_simp; try with_reducible rfl)
  simp only [Act.put, List.setIfInBounds_toArray, List.set_cons_zero, List.set_cons_succ, List.getElem_toArray, List.getElem_cons_zero, List.getElem_cons_succ]
  refine wpAnyH_take (i := 11) (v := ?v11) rfl (by kernel_rfl) (by kernel_rfl) (by kernel_rfl) (fun _ _ _ h => h) (Or.inl ⟨by rfl, ?hy11⟩) (by assumption) ?rest11
  case hy11 => (intro w hSw; (try dsimp only at hSw); go_simp; try with_reducible rfl)
  simp only [Act.put, List.setIfInBounds_toArray, List.set_cons_zero, List.set_cons_succ, List.getElem_toArray, List.getElem_cons_zero, List.getElem_cons_succ]
  refine wpAnyH_take (i := 12) (v := ?v12) rfl (by kernel_rfl) (by kernel_rfl) (by kernel_rfl) (fun _ _ _ h => h) (Or.inl ⟨by rfl, ?hy12⟩) (by assumption) ?rest12
  case hy12 => (intro w hSw; (try dsimp only at hSw); go_simp; try with_reducible rfl)
  simp only [Act.put, List.setIfInBounds_toArray, List.set_cons_zero, List.set_cons_succ, List.getElem_toArray, List.getElem_cons_zero, List.getElem_cons_succ]
  refine wpAnyH_take (i := 13) (v := ?v13) rfl (by kernel_rfl) (by kernel_rfl) (by kernel_rfl) (fun _ _ _ h => h) (Or.inl ⟨by rfl, ?hy13⟩) (by assumption) ?rest13
  case hy13 => (intro w hSw; (try dsimp only at hSw); go_simp; try with_reducible rfl)
  simp only [Act.put, List.setIfInBounds_toArray, List.set_cons_zero, List.set_cons_succ, List.getElem_toArray, List.getElem_cons_zero, List.getElem_cons_succ]
  refine wpAnyH_take (i := 14) (v := ?v14) rfl (by kernel_rfl) (by kernel_rfl) (by kernel_rfl) (fun _ _ _ h => h) (Or.inl ⟨by rfl, ?hy14⟩) (by assumption) ?rest14
  case hy14 => (intro w hSw; (try dsimp only at hSw); go_simp; try with_reducible rfl)
  simp only [Act.put, List.setIfInBounds_toArray, List.set_cons_zero, List.set_cons_succ, List.getElem_toArray, List.getElem_cons_zero, List.getElem_cons_succ]
  clear PB_0 PB_1 PB_2 PB_f0 PB_f1 PB_f2
  clear QB_0 QB_1 QB_2 QB_f0 QB_f1 QB_f2
  clear DB_0 DB_1 DB_2 DB_f0 DB_f1 DB_f2
  clear PB QB
  refine wpAnyH_ready (rs := [9]) (by kernel_rfl) (by simp) ?_
  refine AllReadyH.cons rfl (fun K hK => ?_) AllReadyH.nil
  go_simp
  with_reducible refine (refMul_lv (m3.on (Below.refl _ _).drew) (m4.on (Below.refl _ _).drew) (by omega) (by omega)).mono ?_
  rintro e w5 ⟨q5, A5, c5, rfl, k5, v5, m5, hb5⟩
  have hs5 := hb5.size
  simp only [World.size_drew] at hs5
  replace bw : Below w.heap.size w w5 := dy_end (dy_end bw (Below.refl _ _).drew) hb5
  replace DB := (Blk.drew DB).on hb5
  have hq5 : q5.length ≤ 4096 := length_le_of_lt (b := 18446744073709551616) (by omega) m5.lim k5 (by rw [v5.out]; exact HV.out)
  have p6 := fun W (mm : Lv W A5 q5.length c5 q5) => rDone_any (b := !(b3 == b4)) (x := x3 + x4) mm hq5 (by omega) (by omega)
  rw [v5.out, HM.out] at p6
  refine hK.out _ _ (⟨(hb5.cell (p := ⟨w.heap.size, 0, none⟩) (by first | omega | (dsimp only; omega) | (simp; omega) | (simp; done))).trans hHeld.1, (hb5.cell (p := ⟨w.heap.size, 1, none⟩) (by first | omega | (dsimp only; omega) | (simp; omega) | (simp; done))).trans hHeld.2.1, (hb5.cell (p := ⟨w.heap.size, 2, none⟩) (by first | omega | (dsimp only; omega) | (simp; omega) | (simp; done))).trans hHeld.2.2.1, (hb5.cell (p := ⟨w.heap.size + 1, 0, none⟩) (by first | omega | (dsimp only; omega) | (simp; omega) | (simp; done))).trans hHeld.2.2.2.1, (hb5.cell (p := ⟨w.heap.size + 1, 1, none⟩) (by first | omega | (dsimp only; omega) | (simp; omega) | (simp; done))).trans hHeld.2.2.2.2.1, (hb5.cell (p := ⟨w.heap.size + 1, 2, none⟩) (by first | omega | (dsimp only; omega) | (simp; omega) | (simp; done))).trans hHeld.2.2.2.2.2⟩) (fun hHeld => ?_)
  clear hK K
  try simp only [Act.put, List.setIfInBounds_toArray, List.set_cons_zero, List.set_cons_succ, List.getElem_toArray, List.getElem_cons_zero, List.getElem_cons_succ]
  clear hb5
  refine wpAnyH_take (i := 15) (v := ?v15) rfl (by kernel_rfl) (by kernel_rfl) (by kernel_rfl) (fun _ _ _ h => h) (Or.inl ⟨by rfl, ?hy15⟩) (by assumption) ?rest15
  case hy15 => (intro w hSw; (try dsimp only at hSw); go_simp; try with_reducible rfl)
  simp only [Act.put, List.setIfInBounds_toArray, List.set_cons_zero, List.set_cons_succ, List.getElem_toArray, List.getElem_cons_zero, List.getElem_cons_succ]
  refine wpAnyH_ready (rs := [16]) (by kernel_rfl) (by simp) ?_
  refine AllReadyH.cons rfl (fun K hK => ?_) AllReadyH.nil
  go_simp
  have W9 : IntKind.i64.wrap (x3 + x4) = x3 + x4 := IntWalk.i64_in _ (by omega)
  rw [W9]
  clear W9
  with_reducible refine (p6 _ m5).mono ?_
  rintro e w6 ⟨b6, q6, A6, c6, x6, rfl, hd6, m6, hb6⟩
  have hs6 := hb6.size
  replace bw : Below w.heap.size w w6 := dy_end bw hb6
  replace DB := Blk.on DB hb6
  refine hK.out _ _ (⟨(hb6.cell (p := ⟨w.heap.size, 0, none⟩) (by first | omega | (dsimp only; omega) | (simp; omega) | (simp; done))).trans hHeld.1, (hb6.cell (p := ⟨w.heap.size, 1, none⟩) (by first | omega | (dsimp only; omega) | (simp; omega) | (simp; done))).trans hHeld.2.1, (hb6.cell (p := ⟨w.heap.size, 2, none⟩) (by first | omega | (dsimp only; omega) | (simp; omega) | (simp; done))).trans hHeld.2.2.1, (hb6.cell (p := ⟨w.heap.size + 1, 0, none⟩) (by first | omega | (dsimp only; omega) | (simp; omega) | (simp; done))).trans hHeld.2.2.2.1, (hb6.cell (p := ⟨w.heap.size + 1, 1, none⟩) (by first | omega | (dsimp only; omega) | (simp; omega) | (simp; done))).trans hHeld.2.2.2.2.1, (hb6.cell (p := ⟨w.heap.size + 1, 2, none⟩) (by first | omega | (dsimp only; omega) | (simp; omega) | (simp; done))).trans hHeld.2.2.2.2.2⟩) (fun hHeld => ?_)
  clear hK K
  try simp only [Act.put, List.setIfInBounds_toArray, List.set_cons_zero, List.set_cons_succ, List.getElem_toArray, List.getElem_cons_zero, List.getElem_cons_succ]
  clear hb6 p6 m5
  obtain ⟨DB_0, DB_1, DB_2, DB_f0, DB_f1, DB_f2⟩ := Dbx.cells DB
  refine wpAnyH_take (i := 17) (v := ?v17) rfl (by kernel_rfl) (by kernel_rfl) (by kernel_rfl) (fun _ _ _ h => h) (Or.inl ⟨by rfl, ?hy17⟩) (by assumption) ?rest17
  case hy17 => (intro w hSw; (try dsimp only at hSw); go_simp; try with_reducible rfl)
  simp only [Act.put, List.setIfInBounds_toArray, List.set_cons_zero, List.set_cons_succ, List.getElem_toArray, List.getElem_cons_zero, List.getElem_cons_succ]
  refine wpAnyH_take (i := 18) (v := ?v18) rfl (by kernel_rfl) (by kernel_rfl) (by kernel_rfl) (fun _ _ _ h => h) (Or.inl ⟨by rfl, ?hy18⟩) (by assumption) ?rest18
  case hy18 => (intro w hSw; (try dsimp only at hSw); go_simp; try with_reducible rfl)
  simp only [Act.put, List.setIfInBounds_toArray, List.set_cons_zero, List.set_cons_succ, List.getElem_toArray, List.getElem_cons_zero, List.getElem_cons_succ]
  refine wpAnyH_ready (rs := [19]) (by kernel_rfl) (by simp) ?_
  refine AllReadyH.cons rfl (fun K hK => ?_) AllReadyH.nil
  go_simp
  refine hK.out _ _ (⟨put_cell hHeld.1 (by dsimp only; omega) _ _ _, put_cell hHeld.2.1 (by dsimp only; omega) _ _ _, put_cell hHeld.2.2.1 (by dsimp only; omega) _ _ _, put_cell hHeld.2.2.2.1 (by dsimp only; omega) _ _ _, put_cell hHeld.2.2.2.2.1 (by dsimp only; omega) _ _ _, put_cell hHeld.2.2.2.2.2 (by dsimp only; omega) _ _ _⟩) (fun hHeld => ?_)
  clear hK K
  try simp only [Act.put, List.setIfInBounds_toArray, List.set_cons_zero, List.set_cons_succ, List.getElem_toArray, List.getElem_cons_zero, List.getElem_cons_succ]
  refine wpAnyH_take (i := 20) (v := ?v20) rfl (by kernel_rfl) (by kernel_rfl) (by kernel_rfl) (fun _ _ _ h => h) (Or.inl ⟨by rfl, ?hy20⟩) (by assumption) ?rest20
  case hy20 => (intro w hSw; (try dsimp only at hSw); go_simp; try with_reducible rfl)
  simp only [Act.put, List.setIfInBounds_toArray, List.set_cons_zero, List.set_cons_succ, List.getElem_toArray, List.getElem_cons_zero, List.getElem_cons_succ]
  refine wpAnyH_done (by kernel_rfl) ?_ _
  replace m6 := m6.put DB b6 A6 q6.length c6 x6
  clear DB_0 DB_1 DB_2 DB_f0 DB_f1 DB_f2
  replace DB := Dbx.put DB b6 A6 q6.length c6 x6
  clear hHeld
  obtain ⟨DB_0, DB_1, DB_2, DB_f0, DB_f1, DB_f2⟩ := Dbx.cells DB
  go_wp2_with fail
  refine bodyPost_ret (v := .tuple #[dyV b6 A6 q6.length c6 x6, .int .i64 (doneR (mulN (nfl b (val 18446744073709551616 l) x) (nfl b2 (val 18446744073709551616 l2) x2))).2]) (by simp [results, Tryz.results43, go_sem, DB_0, DB_1, DB_2, DB_f0, DB_f1, DB_f2]) rfl ?_
  exact ⟨b6, q6, A6, c6, x6, rfl, hd6, m6, by go_grown⟩


theorem rMul_any (h : Lv w A n c l) (hn : n ≤ 4096) (h2 : Lv w A2 n2 c2 l2) (hn2 : n2 ≤ 4096) (hN : may2 x x2 = true → val 18446744073709551616 l * val 18446744073709551616 l2 < 18446744073709551616 ^ 4096) :
    Calls Tryz.prog 43 #[dyV b A n c x, dyV b2 A2 n2 c2 x2] w (DyK (mulQ x x2 (nfl b (val 18446744073709551616 l) x) (nfl b2 (val 18446744073709551616 l2) x2)).1 (mulQ x x2 (nfl b (val 18446744073709551616 l) x) (nfl b2 (val 18446744073709551616 l2) x2)).2 w) := by
  cases h0 : okE x
  · have e : mulQ x x2 (nfl b (val 18446744073709551616 l) x) (nfl b2 (val 18446744073709551616 l2) x2) = (zeroN, 2) := by unfold mulQ may2; rw [if_neg (by rw [h0]; simp)]
    rw [e]; exact rMul_na h hn h2 hn2 h0
  · cases h1 : okE x2
    · have e : mulQ x x2 (nfl b (val 18446744073709551616 l) x) (nfl b2 (val 18446744073709551616 l2) x2) = (zeroN, 2) := by unfold mulQ may2; rw [if_neg (by rw [h0, h1]; simp)]
      rw [e]; exact rMul_nb h hn h2 hn2 h0 h1
    · have hm : may2 x x2 = true := by unfold may2; rw [h0, h1]; rfl
      have e : mulQ x x2 (nfl b (val 18446744073709551616 l) x) (nfl b2 (val 18446744073709551616 l2) x2) = doneR (mulN (nfl b (val 18446744073709551616 l) x) (nfl b2 (val 18446744073709551616 l2) x2)) := by unfold mulQ; rw [if_pos hm]; rfl
      rw [e]; exact rMul_yes h hn h2 hn2 h0 h1 (hN hm)
end
end Go.Proofs.YtknomchkfamajaaGreatDoor
