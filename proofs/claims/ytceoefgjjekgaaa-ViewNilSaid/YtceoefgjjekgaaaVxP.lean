/-
  Layer 7: lists of steps; the laws' cut. (Written by wip/tools/gen_vxp.py.)
-/
import Derived.Test.YtceoefgjjekgaaaVxO
import Derived.Test.YtceoefgjjekgaaaVxS
namespace Go.Proofs.Ytceoefgjjekgaaa
open Go.RowKit Go.Bw Go.Sort Go.Shelf
set_option linter.unusedVariables false
set_option linter.unusedSimpArgs false

/-- a step, in plain words -/
structure Sp where
  K : Int
  A : Int
  B : Int
  C : Int
  D : Int
abbrev Sp.L (x : Sp) : List Value := [.int .i64 x.K, .int .i64 x.A, .int .i64 x.B, .int .i64 x.C, .int .i64 x.D]
def i64B (x : Int) : Prop := -9223372036854775808 ≤ x ∧ x ≤ 9223372036854775807
/-- a list of steps that lies below B -/
def SL (w : World) (B : Nat) (A : Option Addr) (n c : Nat) (ss : List Sp) : Prop :=
  ss.length = n ∧ n ≤ 9223372036854775807 ∧ (∀ x ∈ ss, i64B x.K ∧ i64B x.A ∧ i64B x.B ∧ i64B x.C ∧ i64B x.D) ∧ B ≤ w.heap.size ∧
  (n ≠ 0 → ∃ ad : Addr, A = some ad ∧ ad.block < B ∧ ∀ (i : Nat) (x : Sp), ss[i]? = some x → w.cell? (ad.add (i * 5)) = some (.int .i64 x.K) ∧ w.cell? (ad.add (i * 5 + 1)) = some (.int .i64 x.A) ∧ w.cell? (ad.add (i * 5 + 2)) = some (.int .i64 x.B) ∧ w.cell? (ad.add (i * 5 + 3)) = some (.int .i64 x.C) ∧ w.cell? (ad.add (i * 5 + 4)) = some (.int .i64 x.D))
section
variable {w w' : World} {B n c b : Nat} {A : Option Addr} {ss : List Sp}
theorem SL.keep (h : SL w B A n c ss) (hk : ∀ p : Addr, p.block < B → w'.cell? p = w.cell? p) (hz : w.heap.size ≤ w'.heap.size) : SL w' B A n c ss := by
  obtain ⟨h1, h2, h3, h4, h5⟩ := h
  refine ⟨h1, h2, h3, Nat.le_trans h4 hz, fun hn => ?_⟩
  obtain ⟨ad, e, hb, hc⟩ := h5 hn
  refine ⟨ad, e, hb, fun i x hi => ?_⟩
  obtain ⟨c0, c1, c2, c3, c4⟩ := hc i x hi
  refine ⟨(hk _ ?_).trans c0, (hk _ ?_).trans c1, (hk _ ?_).trans c2, (hk _ ?_).trans c3, (hk _ ?_).trans c4⟩ <;> rw [add_block] <;> exact hb
theorem SL.on (h : SL w B A n c ss) (hb : Below w.heap.size w w') : SL w' B A n c ss := h.keep (fun p hp => hb.cell (Nat.lt_of_lt_of_le hp h.2.2.2.1)) hb.size
theorem SL.grown (h : SL w B A n c ss) (hg : w.grownBy w' (some b)) (hb : B ≤ b) : SL w' B A n c ss :=
  h.keep (fun p hp => World.cell?_of_block (hg.block p.block (Nat.lt_of_lt_of_le hp h.2.2.2.1) (fun e => by injection e with e; omega))) hg.size
theorem SL.grownR {row : Option Nat} (h : SL w B A n c ss) (hg : w.grownBy w' row) (hb : ∀ k, row = some k → B ≤ k) : SL w' B A n c ss :=
  h.keep (fun p hp => World.cell?_of_block (hg.block p.block (Nat.lt_of_lt_of_le hp h.2.2.2.1) (fun e => by have := hb _ e.symm; omega))) hg.size
theorem SL.drew (h : SL w B A n c ss) : SL w.drew B A n c ss := h
theorem SL.at_ (h : SL w B A n c ss) {k : Nat} (hk : k < n) : ∃ (x : Sp) (ad ea : Addr), ss[k]? = some x ∧ A = some ad ∧ ad.add (k * 5) = ea ∧ w.cell? ea = some (.int .i64 x.K) ∧ w.cell? ⟨ea.block, ea.off + 1, none⟩ = some (.int .i64 x.A) ∧ w.cell? ⟨ea.block, ea.off + 2, none⟩ = some (.int .i64 x.B) ∧ w.cell? ⟨ea.block, ea.off + 3, none⟩ = some (.int .i64 x.C) ∧ w.cell? ⟨ea.block, ea.off + 4, none⟩ = some (.int .i64 x.D) ∧ i64B x.K ∧ i64B x.A ∧ i64B x.B ∧ i64B x.C ∧ i64B x.D := by
  obtain ⟨h1, h2, h3, h4, h5⟩ := h
  obtain ⟨ad, e, hb, hc⟩ := h5 (by omega)
  have hi : k < ss.length := by omega
  obtain ⟨c0, c1, c2, c3, c4⟩ := hc k ss[k] (List.getElem?_eq_getElem hi)
  obtain ⟨q1, q2, q3, q4, q5⟩ := h3 ss[k] (List.getElem_mem hi)
  rw [← add_add] at c1 c2 c3 c4
  exact ⟨ss[k], ad, _, List.getElem?_eq_getElem hi, e, rfl, c0, c1, c2, c3, c4, q1, q2, q3, q4, q5⟩
end

/-- a view cut by a step, by steps -/
def Vu.step (v : Vu) (x : Sp) : Vu :=
  if x.K = 1 then v.turnO else if x.K = 2 then v.partO x.A 0 1 v.C else if x.K = 3 then v.partO 0 x.A v.R 1 else if x.K = 4 then v.partO x.A x.B x.C x.D else if x.K = 5 then v.diagO else v
def cutV (v : Vu) (ss : List Sp) : Vu := ss.foldl Vu.step v
theorem cut_next {v : Vu} {ss : List Sp} {k : Nat} {x : Sp} (h : ss[k]? = some x) : cutV v (ss.take (k + 1)) = (cutV v (ss.take k)).step x := by
  obtain ⟨hk, e⟩ := List.getElem?_eq_some_iff.1 h
  unfold cutV
  rw [List.take_succ_eq_append_getElem hk, List.foldl_append, e]
  rfl
def pk : Nat → Int
  | 0 => 1
  | k + 1 => 2 * pk k
theorem pk_bd {k : Nat} (h : k ≤ 12) : 1 ≤ pk k ∧ pk k ≤ 4096 := by
  have : ∀ k : Fin 13, 1 ≤ pk k ∧ pk k ≤ 4096 := by decide
  exact this ⟨k, by omega⟩
/-- where the places of a view made of r lie: where r's do, or in new blocks -/
def Low (B : Nat) (r r' : Ru) : Prop := r'.A2 = r.A2 ∨ ∀ a2, r'.A2 = some a2 → B ≤ a2.block
/-- what cut answers -/
def CutA (w : World) (B s g cap c n : Nat) (l l2 : List Int) (A : Option Addr) (cd : Nat) (r : Ru) (v : Vu) (e : Ending) (w' : World) : Prop :=
  ∃ r', e = .returned (.tuple #[v.V, Ru.V r']) ∧ Two w' B s g cap c n l l2 A cd ∧ Pr w' s g c n A cd r' v 4096 ∧ Low w.heap.size r r' ∧ Below w.heap.size w w'
/-- the places of r are not in the boxes of cut -/
def Offs (H : Nat) (r : Ru) (v : Vu) (c : Nat) : Prop := 0 < (v.ats c).length → ∀ a, r.A2 = some a → a.block < H ∨ H + 4 ≤ a.block

section
variable {w : World} {B s g cap c n : Nat} {l l2 : List Int} {A : Option Addr} {cd : Nat} {r : Ru} {v : Vu} {A9 : Option Addr} {m c9 : Nat} {ss : List Sp}
set_option maxRecDepth 100000 in
set_option maxHeartbeats 16000000 in
theorem cut_any (hT : Two w B s g cap c n l l2 A cd) (hP : Pr w s g c n A cd r v 1) (hL : SL w w.heap.size A9 m c9 ss) (hm : m ≤ 12) :
    Calls Try.prog 28 #[v.V, Ru.V r, .slice A9 m c9] w (CutA w B s g cap c n l l2 A cd r (cutV v ss)) := by
  have HB := Lib.hid (show (s < w.heap.size ∧ g < w.heap.size) ∧ ∀ a, A = some a → a.block < w.heap.size from ⟨⟨hT.st.lt, hT.st.gt.2⟩, fun a e => (hT.sr.own.gt e).2⟩)
  have HO := Lib.hid (show Offs w.heap.size r v c from fun h0 a e => .inl (hP.rk.up h0 a e))
  have DV := (((Blk.new w v.L 30).alloc (.cells (Ru.L r).toArray 51)).alloc (.cells Vu.zero.L.toArray 30)).alloc (.cells Ru.zero.L.toArray 51)
  have DR := ((Blk.new (w.alloc (.cells v.L.toArray 30)) (Ru.L r) 51).alloc (.cells Vu.zero.L.toArray 30)).alloc (.cells Ru.zero.L.toArray 51)
  have D6 := (Blk.new ((w.alloc (.cells v.L.toArray 30)).alloc (.cells (Ru.L r).toArray 51)) Vu.zero.L 30).alloc (.cells Ru.zero.L.toArray 51)
  have D7 := Blk.new (((w.alloc (.cells v.L.toArray 30)).alloc (.cells (Ru.L r).toArray 51)).alloc (.cells Vu.zero.L.toArray 30)) Ru.zero.L 51
  rw [World.size_alloc] at DR
  rw [World.size_alloc, World.size_alloc] at D6
  rw [World.size_alloc, World.size_alloc, World.size_alloc] at D7
  have bz := ((((Below.refl _ w).alloc (Nat.le_refl _) (.cells v.L.toArray 30)).alloc (by simp) (.cells (Ru.L r).toArray 51)).alloc (by simp; omega) (.cells Vu.zero.L.toArray 30)).alloc (by simp; omega) (.cells Ru.zero.L.toArray 51)
  have hsz : ((((w.alloc (.cells v.L.toArray 30)).alloc (.cells (Ru.L r).toArray 51)).alloc (.cells Vu.zero.L.toArray 30)).alloc (.cells Ru.zero.L.toArray 51)).heap.size = w.heap.size + 4 := by simp
  replace hT := hT.on bz
  replace hP := hP.on bz
  replace hL := hL.on bz
  have HSL := Lib.hid hL.1
  go_enter Try.func28, Try.ntmps28
  go_wp2_with fail
  generalize (((w.alloc (.cells v.L.toArray 30)).alloc (.cells (Ru.L r).toArray 51)).alloc (.cells Vu.zero.L.toArray 30)).alloc (.cells Ru.zero.L.toArray 51) = W at DV DR D6 D7 bz hsz hT hP hL ⊢
  have HZ := Lib.hid hsz
  clear hsz
  go_loopw [8] (fun i wr => ∃ (k : Nat) (r1 : Ru), k ≤ m ∧ i = .int .i64 k ∧ Two wr B s g cap c n l l2 A cd ∧ Pr wr s g c n A cd r1 (cutV v (ss.take k)) (pk k) ∧ Low w.heap.size r r1 ∧ Offs w.heap.size r1 (cutV v (ss.take k)) c ∧ Vbx wr w.heap.size (cutV v (ss.take k)) ∧ Rbx wr (w.heap.size + 1) r1 ∧ Vbx wr (w.heap.size + 2) Vu.zero ∧ Rbx wr (w.heap.size + 3) Ru.zero ∧ SL wr w.heap.size A9 m c9 ss ∧ Below w.heap.size w wr ∧ w.heap.size + 4 ≤ wr.heap.size) (fun i _ => m - (intOf i).toNat)
  case atStart => exact ⟨0, r, Nat.zero_le _, rfl, hT, hP, .inl rfl, HO.out, DV, DR, D6, D7, hL, bz, by rw [HZ.out]; exact Nat.le_refl _⟩
  case round =>
    clear DV DR D6 D7 bz hT hP hL HO HZ
    obtain ⟨k, r1, hk, rfl, hT, hP, HW, HO, DV, DR, D6, D7, hL, bz, hsz⟩ := hrel
    obtain ⟨V1, hV⟩ : ∃ V1, cutV v (ss.take k) = V1 := ⟨_, rfl⟩
    rw [hV] at hP HO DV
    have HV := Lib.hid hV
    clear hV
    by_cases hlt : k < m
    · have hkb := pk_bd (k := k) (by omega)
      have HKB := Lib.hid hkb
      clear hkb
      obtain ⟨x, ad, ea, hx, rfl, hea, x0, x1, x2, x3, x4, b0, b1, b2, b3, b4⟩ := hL.at_ hlt
      have HX := Lib.hid (cut_next (v := v) hx)
      rw [HV.out] at HX
      clear hx
      have HW2 := Lib.hid HW
      have HO2 := Lib.hid HO
      clear HW HO
      obtain ⟨K0, A0, B0, C0, D0⟩ := x
      simp only at x0 x1 x2 x3 x4 b0 b1 b2 b3 b4
      unfold i64B at b0 b1 b2 b3 b4
      have i0 : (0 : Int) ≤ k := by omega
      have i1 : (k : Int) < m := by omega
      have DS := Blk.new wr [.int .i64 K0, .int .i64 A0, .int .i64 B0, .int .i64 C0, .int .i64 D0] 72
      have hHS : w.heap.size + 4 ≤ wr.heap.size := hsz
      obtain ⟨HS, eHS⟩ : ∃ H, wr.heap.size = H := ⟨_, rfl⟩
      rw [eHS] at DS hsz
      replace hT := hT.on ((Below.refl _ _).alloc (Nat.le_refl _) (.cells #[.int .i64 K0, .int .i64 A0, .int .i64 B0, .int .i64 C0, .int .i64 D0] 72))
      replace hP := hP.on ((Below.refl _ _).alloc (Nat.le_refl _) (.cells #[.int .i64 K0, .int .i64 A0, .int .i64 B0, .int .i64 C0, .int .i64 D0] 72))
      replace hL := hL.on ((Below.refl _ _).alloc (Nat.le_refl _) (.cells #[.int .i64 K0, .int .i64 A0, .int .i64 B0, .int .i64 C0, .int .i64 D0] 72))
      replace DV := DV.alloc (.cells #[.int .i64 K0, .int .i64 A0, .int .i64 B0, .int .i64 C0, .int .i64 D0] 72)
      replace DR := DR.alloc (.cells #[.int .i64 K0, .int .i64 A0, .int .i64 B0, .int .i64 C0, .int .i64 D0] 72)
      replace D6 := D6.alloc (.cells #[.int .i64 K0, .int .i64 A0, .int .i64 B0, .int .i64 C0, .int .i64 D0] 72)
      replace D7 := D7.alloc (.cells #[.int .i64 K0, .int .i64 A0, .int .i64 B0, .int .i64 C0, .int .i64 D0] 72)
      replace bz := bz.alloc bz.size (.cells #[.int .i64 K0, .int .i64 A0, .int .i64 B0, .int .i64 C0, .int .i64 D0] 72)
      obtain ⟨s0, s1, s2, s3, s4⟩ : _ ∧ _ ∧ _ ∧ _ ∧ _ := ⟨Blk.cell DS 0 rfl, Blk.cell DS 1 rfl, Blk.cell DS 2 rfl, Blk.cell DS 3 rfl, Blk.cell DS 4 rfl⟩
      by_cases e1 : K0 = 1
      · subst e1
        have HX2 : Hid (cutV v (ss.take (k + 1)) = V1.turnO) := Lib.hid (by rw [HX.out]; unfold Vu.step; simp)
        clear HX
        go_wp2_with fail
        clear s0 s1 s2 s3 s4 x0 x1 x2 x3 x4
        generalize (wr.alloc (.cells #[.int .i64 1, .int .i64 A0, .int .i64 B0, .int .i64 C0, .int .i64 D0] 72)) = W0 at DV DR D6 D7 DS hT hP hL bz ⊢
        replace DV := DV.drew
        replace DR := DR.drew
        replace D6 := D6.drew
        replace D7 := D7.drew
        replace DS := DS.drew
        replace hT := hT.drew
        replace hP := hP.drew
        replace hL := hL.drew
        replace bz := bz.drew
        refine wp_region_late [4, 5] (S := fun w9 : World => Vbx w9 w.heap.size V1 ∧ Rbx w9 (w.heap.size + 1) r1 ∧ Blk w9 HS [.int .i64 1, .int .i64 A0, .int .i64 B0, .int .i64 C0, .int .i64 D0]) (by kernel_rfl) ⟨DV, DR, DS⟩ (fun hS => ?_)
        refine wpAnyL_take (i := 0) (v := ?v0_37) rfl (by kernel_rfl) (by kernel_rfl) (by kernel_rfl) (fun _ _ _ h => h) (Or.inl ⟨by rfl, ?hy0_37⟩) (by assumption) ?rest0_37
        case hy0_37 => (intro w9 hSw; obtain ⟨sv, sr, ss1⟩ := hSw; obtain ⟨k0, k1, k2, k3, k4, k5, k6, k7, k8⟩ := Vbx.cells sv; obtain ⟨c0, c1, c2, c3, c4⟩ := Rbx.cells sr; obtain ⟨t0, t1, t2, t3, t4⟩ : _ ∧ _ ∧ _ ∧ _ ∧ _ := ⟨Blk.cell ss1 0 rfl, Blk.cell ss1 1 rfl, Blk.cell ss1 2 rfl, Blk.cell ss1 3 rfl, Blk.cell ss1 4 rfl⟩; go_simp; try with_reducible rfl)
        try simp only [Act.put, List.setIfInBounds_toArray, List.set_cons_zero, List.set_cons_succ, List.getElem_toArray, List.getElem_cons_zero, List.getElem_cons_succ]
        refine wpAnyL_take (i := 2) (v := ?v2_38) rfl (by kernel_rfl) (by kernel_rfl) (by kernel_rfl) (fun _ _ _ h => h) (Or.inl ⟨by rfl, ?hy2_38⟩) (by assumption) ?rest2_38
        case hy2_38 => (intro w9 hSw; obtain ⟨sv, sr, ss1⟩ := hSw; obtain ⟨k0, k1, k2, k3, k4, k5, k6, k7, k8⟩ := Vbx.cells sv; obtain ⟨c0, c1, c2, c3, c4⟩ := Rbx.cells sr; obtain ⟨t0, t1, t2, t3, t4⟩ : _ ∧ _ ∧ _ ∧ _ ∧ _ := ⟨Blk.cell ss1 0 rfl, Blk.cell ss1 1 rfl, Blk.cell ss1 2 rfl, Blk.cell ss1 3 rfl, Blk.cell ss1 4 rfl⟩; go_simp; try with_reducible rfl)
        try simp only [Act.put, List.setIfInBounds_toArray, List.set_cons_zero, List.set_cons_succ, List.getElem_toArray, List.getElem_cons_zero, List.getElem_cons_succ]
        refine wpAnyL_ready (rs := [1]) (by kernel_rfl) (by simp) ?_
        refine AllReadyL.cons rfl (fun K hK => ?_) AllReadyL.nil
        go_simp
        with_reducible refine (T_any V1 _).mono ?_
        rintro e w1 ⟨rfl, hb⟩
        replace DV := DV.on hb
        replace DR := DR.on hb
        replace D6 := D6.on hb
        replace D7 := D7.on hb
        replace DS := DS.on hb
        replace hT := hT.on hb
        replace hP := hP.on hb
        replace hL := hL.on hb
        replace bz := bz.trans (hb.mono bz.size)
        clear hb
        refine hK.out _ _ ⟨DV, DR, DS⟩ (fun hH => ?_)
        clear hK K hS
        have hS := hH
        clear hH
        try simp only [Act.put, List.setIfInBounds_toArray, List.set_cons_zero, List.set_cons_succ, List.getElem_toArray, List.getElem_cons_zero, List.getElem_cons_succ]
        refine wpAnyL_ready (rs := [3]) (by kernel_rfl) (by simp) ?_
        refine AllReadyL.cons rfl (fun K hK => ?_) AllReadyL.nil
        go_simp
        have hlg := hT.st.gt.2
        have hls := DS.lt
        with_reducible refine (rT_any hP.rk hT.sr hP.vk).mono ?_
        rintro e w2 ⟨r2, rfl, hrk2, hb, hlow⟩
        replace DV := DV.on hb
        replace DR := DR.on hb
        replace D6 := D6.on hb
        replace D7 := D7.on hb
        replace DS := DS.on hb
        replace hT := hT.on hb
        replace hP := hP.on hb
        replace hL := hL.on hb
        replace bz := bz.trans (hb.mono bz.size)
        have hP2 : Pr _ s g c n A cd r2 (V1.turnO) (2 * pk k) := ⟨(turn_vk hP.vk).more (by have := HKB.out; show pk k ≤ 2 * pk k; omega) (by have := HKB.out; show 2 * pk k ≤ _; omega), hrk2, fun a e => by have := hlow a e; omega⟩
        have hA2 : ∀ a, r2.A2 = some a → w.heap.size + 4 ≤ a.block := fun a e => by have := hlow a e; omega
        clear hb hlow hlg hls hrk2 hP
        refine hK.out _ _ ⟨DV, DR, DS⟩ (fun hH => ?_)
        clear hK K hS
        have hS := hH
        clear hH
        try simp only [Act.put, List.setIfInBounds_toArray, List.set_cons_zero, List.set_cons_succ, List.getElem_toArray, List.getElem_cons_zero, List.getElem_cons_succ]
        obtain ⟨fc0, fc1, fc2, fc3, fc4, fc5, fc6, fc7, fc8⟩ := Vbx.cells DV
        obtain ⟨fr0, fr1, fr2, fr3, fr4, fr5, fr6, fr7, fr8⟩ := Vbx.free DV
        refine wpAnyL_ready (rs := [4]) (by kernel_rfl) (by simp) ?_
        refine AllReadyL.lat (by rfl) rfl (fun K hK => ?_) AllReadyL.nil
        go_simp
        clear fc0 fr0 fc1 fr1 fc2 fr2 fc3 fr3 fc4 fr4 fc5 fr5 fc6 fr6 fc7 fr7 fc8 fr8
        have hgS := set9_grown w2 (w.heap.size) (.pointer (V1.turnO).p) (.int .i64 (V1.turnO).f0) (.int .i64 (V1.turnO).f1) (.int .i64 (V1.turnO).d0) (.int .i64 (V1.turnO).d1) (.int .i64 (V1.turnO).r0) (.int .i64 (V1.turnO).r1) (.int .i64 (V1.turnO).R) (.int .i64 (V1.turnO).C)
        replace DV := Vbx.put DV (V1.turnO)
        replace DR := DR.grown hgS (by simp <;> omega)
        replace D6 := D6.grown hgS (by simp <;> omega)
        replace D7 := D7.grown hgS (by simp <;> omega)
        replace DS := DS.grown hgS (by simp <;> omega)
        replace hT := hT.grown hgS (by have := HB.out; omega) (by have := HB.out; omega) (fun a e => by have := HB.out.2 a e; omega)
        replace hL := hL.grown hgS (by omega)
        replace hP2 := hP2.grown hgS (fun _ a e => by have := hA2 a e; omega)
        replace bz := bz.grown hgS bz.size (fun k e => by cases e; omega)
        refine hK.out _ _ trivial (fun _ => ?_)
        clear hK K
        try simp only [Act.put, List.setIfInBounds_toArray, List.set_cons_zero, List.set_cons_succ, List.getElem_toArray, List.getElem_cons_zero, List.getElem_cons_succ]
        generalize (((((((((w2.setCell ⟨w.heap.size, 0, none⟩ (.pointer (V1.turnO).p)).setCell ⟨w.heap.size, 1, none⟩ (.int .i64 (V1.turnO).f0)).setCell ⟨w.heap.size, 2, none⟩ (.int .i64 (V1.turnO).f1)).setCell ⟨w.heap.size, 3, none⟩ (.int .i64 (V1.turnO).d0)).setCell ⟨w.heap.size, 4, none⟩ (.int .i64 (V1.turnO).d1)).setCell ⟨w.heap.size, 5, none⟩ (.int .i64 (V1.turnO).r0)).setCell ⟨w.heap.size, 6, none⟩ (.int .i64 (V1.turnO).r1)).setCell ⟨w.heap.size, 7, none⟩ (.int .i64 (V1.turnO).R)).setCell ⟨w.heap.size, 8, none⟩ (.int .i64 (V1.turnO).C)) = W3 at hgS DV DR D6 D7 DS hT hL hP2 bz ⊢
        clear hgS
        obtain ⟨fc0, fc1, fc2, fc3, fc4⟩ := Rbx.cells DR
        obtain ⟨fr0, fr1, fr2, fr3, fr4⟩ := Rbx.free DR
        refine wpAnyL_ready (rs := [5]) (by kernel_rfl) (by simp) ?_
        refine AllReadyL.lat (by rfl) rfl (fun K hK => ?_) AllReadyL.nil
        go_simp
        clear fc0 fr0 fc1 fr1 fc2 fr2 fc3 fr3 fc4 fr4
        have hgS := set5_grown W3 (w.heap.size + 1) (.slice (r2).A (r2).n (r2).c) (.int .i64 (r2).R) (.int .i64 (r2).C) (.slice (r2).A2 (r2).n2 (r2).c2) (.bool (r2).b)
        replace DR := Rbx.put DR (r2)
        replace DV := DV.grown hgS (by simp <;> omega)
        replace D6 := D6.grown hgS (by simp <;> omega)
        replace D7 := D7.grown hgS (by simp <;> omega)
        replace DS := DS.grown hgS (by simp <;> omega)
        replace hT := hT.grown hgS (by have := HB.out; omega) (by have := HB.out; omega) (fun a e => by have := HB.out.2 a e; omega)
        replace hL := hL.grown hgS (by omega)
        replace hP2 := hP2.grown hgS (fun _ a e => by have := hA2 a e; omega)
        replace bz := bz.grown hgS bz.size (fun k e => by cases e; omega)
        refine hK.out _ _ trivial (fun _ => ?_)
        clear hK K
        try simp only [Act.put, List.setIfInBounds_toArray, List.set_cons_zero, List.set_cons_succ, List.getElem_toArray, List.getElem_cons_zero, List.getElem_cons_succ]
        refine wpAnyL_done (by kernel_rfl) ?_ _
        generalize (((((W3.setCell ⟨w.heap.size + 1, 0, none⟩ (.slice (r2).A (r2).n (r2).c)).setCell ⟨w.heap.size + 1, 1, none⟩ (.int .i64 (r2).R)).setCell ⟨w.heap.size + 1, 2, none⟩ (.int .i64 (r2).C)).setCell ⟨w.heap.size + 1, 3, none⟩ (.slice (r2).A2 (r2).n2 (r2).c2)).setCell ⟨w.heap.size + 1, 4, none⟩ (.bool (r2).b)) = W4 at hgS DV DR D6 D7 DS hT hL hP2 bz ⊢
        clear hgS
        go_wp2_with fail
        go_roundw
        case rel => exact ⟨k + 1, r2, by omega, by go_num, hT, by rw [HX2.out]; exact hP2, .inr (fun a e => by have := hA2 a e; omega), fun _ a e => .inr (hA2 a e), by rw [HX2.out]; exact DV, DR, D6, D7, hL, bz, by have := DS.lt; omega⟩
        case measure => simp [intOf]; omega
      · by_cases e2 : K0 = 2
        · subst e2
          clear e1
          have HX2 : Hid (cutV v (ss.take (k + 1)) = V1.partO A0 0 1 V1.C) := Lib.hid (by rw [HX.out]; unfold Vu.step; simp)
          clear HX
          go_wp2_with fail
          clear s0 s1 s2 s3 s4 x0 x1 x2 x3 x4
          generalize (wr.alloc (.cells #[.int .i64 2, .int .i64 A0, .int .i64 B0, .int .i64 C0, .int .i64 D0] 72)) = W0 at DV DR D6 D7 DS hT hP hL bz ⊢
          replace DV := DV.drew
          replace DR := DR.drew
          replace D6 := D6.drew
          replace D7 := D7.drew
          replace DS := DS.drew
          replace hT := hT.drew
          replace hP := hP.drew
          replace hL := hL.drew
          replace bz := bz.drew
          refine wp_region_late [8, 9] (S := fun w9 : World => Vbx w9 w.heap.size V1 ∧ Rbx w9 (w.heap.size + 1) r1 ∧ Blk w9 HS [.int .i64 2, .int .i64 A0, .int .i64 B0, .int .i64 C0, .int .i64 D0]) (by kernel_rfl) ⟨DV, DR, DS⟩ (fun hS => ?_)
          refine wpAnyL_take (i := 0) (v := ?v0_45) rfl (by kernel_rfl) (by kernel_rfl) (by kernel_rfl) (fun _ _ _ h => h) (Or.inl ⟨by rfl, ?hy0_45⟩) (by assumption) ?rest0_45
          case hy0_45 => (intro w9 hSw; obtain ⟨sv, sr, ss1⟩ := hSw; obtain ⟨k0, k1, k2, k3, k4, k5, k6, k7, k8⟩ := Vbx.cells sv; obtain ⟨c0, c1, c2, c3, c4⟩ := Rbx.cells sr; obtain ⟨t0, t1, t2, t3, t4⟩ : _ ∧ _ ∧ _ ∧ _ ∧ _ := ⟨Blk.cell ss1 0 rfl, Blk.cell ss1 1 rfl, Blk.cell ss1 2 rfl, Blk.cell ss1 3 rfl, Blk.cell ss1 4 rfl⟩; go_simp; try with_reducible rfl)
          try simp only [Act.put, List.setIfInBounds_toArray, List.set_cons_zero, List.set_cons_succ, List.getElem_toArray, List.getElem_cons_zero, List.getElem_cons_succ]
          refine wpAnyL_take (i := 1) (v := ?v1_46) rfl (by kernel_rfl) (by kernel_rfl) (by kernel_rfl) (fun _ _ _ h => h) (Or.inl ⟨by rfl, ?hy1_46⟩) (by assumption) ?rest1_46
          case hy1_46 => (intro w9 hSw; clear hSw; go_simp; try with_reducible rfl)
          try simp only [Act.put, List.setIfInBounds_toArray, List.set_cons_zero, List.set_cons_succ, List.getElem_toArray, List.getElem_cons_zero, List.getElem_cons_succ]
          refine wpAnyL_take (i := 2) (v := ?v2_47) rfl (by kernel_rfl) (by kernel_rfl) (by kernel_rfl) (fun _ _ _ h => h) (Or.inl ⟨by rfl, ?hy2_47⟩) (by assumption) ?rest2_47
          case hy2_47 => (intro w9 hSw; obtain ⟨sv, sr, ss1⟩ := hSw; obtain ⟨k0, k1, k2, k3, k4, k5, k6, k7, k8⟩ := Vbx.cells sv; obtain ⟨c0, c1, c2, c3, c4⟩ := Rbx.cells sr; obtain ⟨t0, t1, t2, t3, t4⟩ : _ ∧ _ ∧ _ ∧ _ ∧ _ := ⟨Blk.cell ss1 0 rfl, Blk.cell ss1 1 rfl, Blk.cell ss1 2 rfl, Blk.cell ss1 3 rfl, Blk.cell ss1 4 rfl⟩; go_simp; try with_reducible rfl)
          try simp only [Act.put, List.setIfInBounds_toArray, List.set_cons_zero, List.set_cons_succ, List.getElem_toArray, List.getElem_cons_zero, List.getElem_cons_succ]
          refine wpAnyL_take (i := 4) (v := ?v4_48) rfl (by kernel_rfl) (by kernel_rfl) (by kernel_rfl) (fun _ _ _ h => h) (Or.inl ⟨by rfl, ?hy4_48⟩) (by assumption) ?rest4_48
          case hy4_48 => (intro w9 hSw; obtain ⟨sv, sr, ss1⟩ := hSw; obtain ⟨k0, k1, k2, k3, k4, k5, k6, k7, k8⟩ := Vbx.cells sv; obtain ⟨c0, c1, c2, c3, c4⟩ := Rbx.cells sr; obtain ⟨t0, t1, t2, t3, t4⟩ : _ ∧ _ ∧ _ ∧ _ ∧ _ := ⟨Blk.cell ss1 0 rfl, Blk.cell ss1 1 rfl, Blk.cell ss1 2 rfl, Blk.cell ss1 3 rfl, Blk.cell ss1 4 rfl⟩; go_simp; try with_reducible rfl)
          try simp only [Act.put, List.setIfInBounds_toArray, List.set_cons_zero, List.set_cons_succ, List.getElem_toArray, List.getElem_cons_zero, List.getElem_cons_succ]
          refine wpAnyL_take (i := 5) (v := ?v5_49) rfl (by kernel_rfl) (by kernel_rfl) (by kernel_rfl) (fun _ _ _ h => h) (Or.inl ⟨by rfl, ?hy5_49⟩) (by assumption) ?rest5_49
          case hy5_49 => (intro w9 hSw; clear hSw; go_simp; try with_reducible rfl)
          try simp only [Act.put, List.setIfInBounds_toArray, List.set_cons_zero, List.set_cons_succ, List.getElem_toArray, List.getElem_cons_zero, List.getElem_cons_succ]
          refine wpAnyL_take (i := 6) (v := ?v6_50) rfl (by kernel_rfl) (by kernel_rfl) (by kernel_rfl) (fun _ _ _ h => h) (Or.inl ⟨by rfl, ?hy6_50⟩) (by assumption) ?rest6_50
          case hy6_50 => (intro w9 hSw; obtain ⟨sv, sr, ss1⟩ := hSw; obtain ⟨k0, k1, k2, k3, k4, k5, k6, k7, k8⟩ := Vbx.cells sv; obtain ⟨c0, c1, c2, c3, c4⟩ := Rbx.cells sr; obtain ⟨t0, t1, t2, t3, t4⟩ : _ ∧ _ ∧ _ ∧ _ ∧ _ := ⟨Blk.cell ss1 0 rfl, Blk.cell ss1 1 rfl, Blk.cell ss1 2 rfl, Blk.cell ss1 3 rfl, Blk.cell ss1 4 rfl⟩; go_simp; try with_reducible rfl)
          try simp only [Act.put, List.setIfInBounds_toArray, List.set_cons_zero, List.set_cons_succ, List.getElem_toArray, List.getElem_cons_zero, List.getElem_cons_succ]
          refine wpAnyL_ready (rs := [3]) (by kernel_rfl) (by simp) ?_
          refine AllReadyL.cons rfl (fun K hK => ?_) AllReadyL.nil
          go_simp
          with_reducible refine (Row_any hP.vk.bd (by omega) _).mono ?_
          rintro e w1 ⟨rfl, hb⟩
          replace DV := DV.on hb
          replace DR := DR.on hb
          replace D6 := D6.on hb
          replace D7 := D7.on hb
          replace DS := DS.on hb
          replace hT := hT.on hb
          replace hP := hP.on hb
          replace hL := hL.on hb
          replace bz := bz.trans (hb.mono bz.size)
          clear hb
          refine hK.out _ _ ⟨DV, DR, DS⟩ (fun hH => ?_)
          clear hK K hS
          have hS := hH
          clear hH
          try simp only [Act.put, List.setIfInBounds_toArray, List.set_cons_zero, List.set_cons_succ, List.getElem_toArray, List.getElem_cons_zero, List.getElem_cons_succ]
          refine wpAnyL_ready (rs := [7]) (by kernel_rfl) (by simp) ?_
          refine AllReadyL.cons rfl (fun K hK => ?_) AllReadyL.nil
          go_simp
          have hlg := hT.st.gt.2
          have hls := DS.lt
          with_reducible refine (rRow_any hP.rk hT.sr hP.vk (by omega)).mono ?_
          rintro e w2 ⟨r2, rfl, hrk2, hb, hlow⟩
          replace DV := DV.on hb
          replace DR := DR.on hb
          replace D6 := D6.on hb
          replace D7 := D7.on hb
          replace DS := DS.on hb
          replace hT := hT.on hb
          replace hP := hP.on hb
          replace hL := hL.on hb
          replace bz := bz.trans (hb.mono bz.size)
          have hP2 : Pr _ s g c n A cd r2 (V1.partO A0 0 1 V1.C) (2 * pk k) := ⟨part_vk hP.vk (by have := HKB.out; omega) A0 0 1 V1.C, hrk2, fun a e => by have := hlow a e; omega⟩
          have hA2 : ∀ a, r2.A2 = some a → w.heap.size + 4 ≤ a.block := fun a e => by have := hlow a e; omega
          clear hb hlow hlg hls hrk2 hP
          refine hK.out _ _ ⟨DV, DR, DS⟩ (fun hH => ?_)
          clear hK K hS
          have hS := hH
          clear hH
          try simp only [Act.put, List.setIfInBounds_toArray, List.set_cons_zero, List.set_cons_succ, List.getElem_toArray, List.getElem_cons_zero, List.getElem_cons_succ]
          obtain ⟨fc0, fc1, fc2, fc3, fc4, fc5, fc6, fc7, fc8⟩ := Vbx.cells DV
          obtain ⟨fr0, fr1, fr2, fr3, fr4, fr5, fr6, fr7, fr8⟩ := Vbx.free DV
          refine wpAnyL_ready (rs := [8]) (by kernel_rfl) (by simp) ?_
          refine AllReadyL.lat (by rfl) rfl (fun K hK => ?_) AllReadyL.nil
          go_simp
          clear fc0 fr0 fc1 fr1 fc2 fr2 fc3 fr3 fc4 fr4 fc5 fr5 fc6 fr6 fc7 fr7 fc8 fr8
          have hgS := set9_grown w2 (w.heap.size) (.pointer (V1.partO A0 0 1 V1.C).p) (.int .i64 (V1.partO A0 0 1 V1.C).f0) (.int .i64 (V1.partO A0 0 1 V1.C).f1) (.int .i64 (V1.partO A0 0 1 V1.C).d0) (.int .i64 (V1.partO A0 0 1 V1.C).d1) (.int .i64 (V1.partO A0 0 1 V1.C).r0) (.int .i64 (V1.partO A0 0 1 V1.C).r1) (.int .i64 (V1.partO A0 0 1 V1.C).R) (.int .i64 (V1.partO A0 0 1 V1.C).C)
          replace DV := Vbx.put DV (V1.partO A0 0 1 V1.C)
          replace DR := DR.grown hgS (by simp <;> omega)
          replace D6 := D6.grown hgS (by simp <;> omega)
          replace D7 := D7.grown hgS (by simp <;> omega)
          replace DS := DS.grown hgS (by simp <;> omega)
          replace hT := hT.grown hgS (by have := HB.out; omega) (by have := HB.out; omega) (fun a e => by have := HB.out.2 a e; omega)
          replace hL := hL.grown hgS (by omega)
          replace hP2 := hP2.grown hgS (fun _ a e => by have := hA2 a e; omega)
          replace bz := bz.grown hgS bz.size (fun k e => by cases e; omega)
          refine hK.out _ _ trivial (fun _ => ?_)
          clear hK K
          try simp only [Act.put, List.setIfInBounds_toArray, List.set_cons_zero, List.set_cons_succ, List.getElem_toArray, List.getElem_cons_zero, List.getElem_cons_succ]
          generalize (((((((((w2.setCell ⟨w.heap.size, 0, none⟩ (.pointer (V1.partO A0 0 1 V1.C).p)).setCell ⟨w.heap.size, 1, none⟩ (.int .i64 (V1.partO A0 0 1 V1.C).f0)).setCell ⟨w.heap.size, 2, none⟩ (.int .i64 (V1.partO A0 0 1 V1.C).f1)).setCell ⟨w.heap.size, 3, none⟩ (.int .i64 (V1.partO A0 0 1 V1.C).d0)).setCell ⟨w.heap.size, 4, none⟩ (.int .i64 (V1.partO A0 0 1 V1.C).d1)).setCell ⟨w.heap.size, 5, none⟩ (.int .i64 (V1.partO A0 0 1 V1.C).r0)).setCell ⟨w.heap.size, 6, none⟩ (.int .i64 (V1.partO A0 0 1 V1.C).r1)).setCell ⟨w.heap.size, 7, none⟩ (.int .i64 (V1.partO A0 0 1 V1.C).R)).setCell ⟨w.heap.size, 8, none⟩ (.int .i64 (V1.partO A0 0 1 V1.C).C)) = W3 at hgS DV DR D6 D7 DS hT hL hP2 bz ⊢
          clear hgS
          obtain ⟨fc0, fc1, fc2, fc3, fc4⟩ := Rbx.cells DR
          obtain ⟨fr0, fr1, fr2, fr3, fr4⟩ := Rbx.free DR
          refine wpAnyL_ready (rs := [9]) (by kernel_rfl) (by simp) ?_
          refine AllReadyL.lat (by rfl) rfl (fun K hK => ?_) AllReadyL.nil
          go_simp
          clear fc0 fr0 fc1 fr1 fc2 fr2 fc3 fr3 fc4 fr4
          have hgS := set5_grown W3 (w.heap.size + 1) (.slice (r2).A (r2).n (r2).c) (.int .i64 (r2).R) (.int .i64 (r2).C) (.slice (r2).A2 (r2).n2 (r2).c2) (.bool (r2).b)
          replace DR := Rbx.put DR (r2)
          replace DV := DV.grown hgS (by simp <;> omega)
          replace D6 := D6.grown hgS (by simp <;> omega)
          replace D7 := D7.grown hgS (by simp <;> omega)
          replace DS := DS.grown hgS (by simp <;> omega)
          replace hT := hT.grown hgS (by have := HB.out; omega) (by have := HB.out; omega) (fun a e => by have := HB.out.2 a e; omega)
          replace hL := hL.grown hgS (by omega)
          replace hP2 := hP2.grown hgS (fun _ a e => by have := hA2 a e; omega)
          replace bz := bz.grown hgS bz.size (fun k e => by cases e; omega)
          refine hK.out _ _ trivial (fun _ => ?_)
          clear hK K
          try simp only [Act.put, List.setIfInBounds_toArray, List.set_cons_zero, List.set_cons_succ, List.getElem_toArray, List.getElem_cons_zero, List.getElem_cons_succ]
          refine wpAnyL_done (by kernel_rfl) ?_ _
          generalize (((((W3.setCell ⟨w.heap.size + 1, 0, none⟩ (.slice (r2).A (r2).n (r2).c)).setCell ⟨w.heap.size + 1, 1, none⟩ (.int .i64 (r2).R)).setCell ⟨w.heap.size + 1, 2, none⟩ (.int .i64 (r2).C)).setCell ⟨w.heap.size + 1, 3, none⟩ (.slice (r2).A2 (r2).n2 (r2).c2)).setCell ⟨w.heap.size + 1, 4, none⟩ (.bool (r2).b)) = W4 at hgS DV DR D6 D7 DS hT hL hP2 bz ⊢
          clear hgS
          go_wp2_with fail
          go_roundw
          case rel => exact ⟨k + 1, r2, by omega, by go_num, hT, by rw [HX2.out]; exact hP2, .inr (fun a e => by have := hA2 a e; omega), fun _ a e => .inr (hA2 a e), by rw [HX2.out]; exact DV, DR, D6, D7, hL, bz, by have := DS.lt; omega⟩
          case measure => simp [intOf]; omega
        · by_cases e3 : K0 = 3
          · subst e3
            clear e1 e2
            have HX2 : Hid (cutV v (ss.take (k + 1)) = V1.partO 0 A0 V1.R 1) := Lib.hid (by rw [HX.out]; unfold Vu.step; simp)
            clear HX
            go_wp2_with fail
            clear s0 s1 s2 s3 s4 x0 x1 x2 x3 x4
            generalize (wr.alloc (.cells #[.int .i64 3, .int .i64 A0, .int .i64 B0, .int .i64 C0, .int .i64 D0] 72)) = W0 at DV DR D6 D7 DS hT hP hL bz ⊢
            replace DV := DV.drew
            replace DR := DR.drew
            replace D6 := D6.drew
            replace D7 := D7.drew
            replace DS := DS.drew
            replace hT := hT.drew
            replace hP := hP.drew
            replace hL := hL.drew
            replace bz := bz.drew
            refine wp_region_late [8, 9] (S := fun w9 : World => Vbx w9 w.heap.size V1 ∧ Rbx w9 (w.heap.size + 1) r1 ∧ Blk w9 HS [.int .i64 3, .int .i64 A0, .int .i64 B0, .int .i64 C0, .int .i64 D0]) (by kernel_rfl) ⟨DV, DR, DS⟩ (fun hS => ?_)
            refine wpAnyL_take (i := 0) (v := ?v0_57) rfl (by kernel_rfl) (by kernel_rfl) (by kernel_rfl) (fun _ _ _ h => h) (Or.inl ⟨by rfl, ?hy0_57⟩) (by assumption) ?rest0_57
            case hy0_57 => (intro w9 hSw; obtain ⟨sv, sr, ss1⟩ := hSw; obtain ⟨k0, k1, k2, k3, k4, k5, k6, k7, k8⟩ := Vbx.cells sv; obtain ⟨c0, c1, c2, c3, c4⟩ := Rbx.cells sr; obtain ⟨t0, t1, t2, t3, t4⟩ : _ ∧ _ ∧ _ ∧ _ ∧ _ := ⟨Blk.cell ss1 0 rfl, Blk.cell ss1 1 rfl, Blk.cell ss1 2 rfl, Blk.cell ss1 3 rfl, Blk.cell ss1 4 rfl⟩; go_simp; try with_reducible rfl)
            try simp only [Act.put, List.setIfInBounds_toArray, List.set_cons_zero, List.set_cons_succ, List.getElem_toArray, List.getElem_cons_zero, List.getElem_cons_succ]
            refine wpAnyL_take (i := 1) (v := ?v1_58) rfl (by kernel_rfl) (by kernel_rfl) (by kernel_rfl) (fun _ _ _ h => h) (Or.inl ⟨by rfl, ?hy1_58⟩) (by assumption) ?rest1_58
            case hy1_58 => (intro w9 hSw; clear hSw; go_simp; try with_reducible rfl)
            try simp only [Act.put, List.setIfInBounds_toArray, List.set_cons_zero, List.set_cons_succ, List.getElem_toArray, List.getElem_cons_zero, List.getElem_cons_succ]
            refine wpAnyL_take (i := 2) (v := ?v2_59) rfl (by kernel_rfl) (by kernel_rfl) (by kernel_rfl) (fun _ _ _ h => h) (Or.inl ⟨by rfl, ?hy2_59⟩) (by assumption) ?rest2_59
            case hy2_59 => (intro w9 hSw; obtain ⟨sv, sr, ss1⟩ := hSw; obtain ⟨k0, k1, k2, k3, k4, k5, k6, k7, k8⟩ := Vbx.cells sv; obtain ⟨c0, c1, c2, c3, c4⟩ := Rbx.cells sr; obtain ⟨t0, t1, t2, t3, t4⟩ : _ ∧ _ ∧ _ ∧ _ ∧ _ := ⟨Blk.cell ss1 0 rfl, Blk.cell ss1 1 rfl, Blk.cell ss1 2 rfl, Blk.cell ss1 3 rfl, Blk.cell ss1 4 rfl⟩; go_simp; try with_reducible rfl)
            try simp only [Act.put, List.setIfInBounds_toArray, List.set_cons_zero, List.set_cons_succ, List.getElem_toArray, List.getElem_cons_zero, List.getElem_cons_succ]
            refine wpAnyL_take (i := 4) (v := ?v4_60) rfl (by kernel_rfl) (by kernel_rfl) (by kernel_rfl) (fun _ _ _ h => h) (Or.inl ⟨by rfl, ?hy4_60⟩) (by assumption) ?rest4_60
            case hy4_60 => (intro w9 hSw; obtain ⟨sv, sr, ss1⟩ := hSw; obtain ⟨k0, k1, k2, k3, k4, k5, k6, k7, k8⟩ := Vbx.cells sv; obtain ⟨c0, c1, c2, c3, c4⟩ := Rbx.cells sr; obtain ⟨t0, t1, t2, t3, t4⟩ : _ ∧ _ ∧ _ ∧ _ ∧ _ := ⟨Blk.cell ss1 0 rfl, Blk.cell ss1 1 rfl, Blk.cell ss1 2 rfl, Blk.cell ss1 3 rfl, Blk.cell ss1 4 rfl⟩; go_simp; try with_reducible rfl)
            try simp only [Act.put, List.setIfInBounds_toArray, List.set_cons_zero, List.set_cons_succ, List.getElem_toArray, List.getElem_cons_zero, List.getElem_cons_succ]
            refine wpAnyL_take (i := 5) (v := ?v5_61) rfl (by kernel_rfl) (by kernel_rfl) (by kernel_rfl) (fun _ _ _ h => h) (Or.inl ⟨by rfl, ?hy5_61⟩) (by assumption) ?rest5_61
            case hy5_61 => (intro w9 hSw; clear hSw; go_simp; try with_reducible rfl)
            try simp only [Act.put, List.setIfInBounds_toArray, List.set_cons_zero, List.set_cons_succ, List.getElem_toArray, List.getElem_cons_zero, List.getElem_cons_succ]
            refine wpAnyL_take (i := 6) (v := ?v6_62) rfl (by kernel_rfl) (by kernel_rfl) (by kernel_rfl) (fun _ _ _ h => h) (Or.inl ⟨by rfl, ?hy6_62⟩) (by assumption) ?rest6_62
            case hy6_62 => (intro w9 hSw; obtain ⟨sv, sr, ss1⟩ := hSw; obtain ⟨k0, k1, k2, k3, k4, k5, k6, k7, k8⟩ := Vbx.cells sv; obtain ⟨c0, c1, c2, c3, c4⟩ := Rbx.cells sr; obtain ⟨t0, t1, t2, t3, t4⟩ : _ ∧ _ ∧ _ ∧ _ ∧ _ := ⟨Blk.cell ss1 0 rfl, Blk.cell ss1 1 rfl, Blk.cell ss1 2 rfl, Blk.cell ss1 3 rfl, Blk.cell ss1 4 rfl⟩; go_simp; try with_reducible rfl)
            try simp only [Act.put, List.setIfInBounds_toArray, List.set_cons_zero, List.set_cons_succ, List.getElem_toArray, List.getElem_cons_zero, List.getElem_cons_succ]
            refine wpAnyL_ready (rs := [3]) (by kernel_rfl) (by simp) ?_
            refine AllReadyL.cons rfl (fun K hK => ?_) AllReadyL.nil
            go_simp
            with_reducible refine (Col_any hP.vk.bd (by omega) _).mono ?_
            rintro e w1 ⟨rfl, hb⟩
            replace DV := DV.on hb
            replace DR := DR.on hb
            replace D6 := D6.on hb
            replace D7 := D7.on hb
            replace DS := DS.on hb
            replace hT := hT.on hb
            replace hP := hP.on hb
            replace hL := hL.on hb
            replace bz := bz.trans (hb.mono bz.size)
            clear hb
            refine hK.out _ _ ⟨DV, DR, DS⟩ (fun hH => ?_)
            clear hK K hS
            have hS := hH
            clear hH
            try simp only [Act.put, List.setIfInBounds_toArray, List.set_cons_zero, List.set_cons_succ, List.getElem_toArray, List.getElem_cons_zero, List.getElem_cons_succ]
            refine wpAnyL_ready (rs := [7]) (by kernel_rfl) (by simp) ?_
            refine AllReadyL.cons rfl (fun K hK => ?_) AllReadyL.nil
            go_simp
            have hlg := hT.st.gt.2
            have hls := DS.lt
            with_reducible refine (rCol_any hP.rk hT.sr hP.vk (by omega)).mono ?_
            rintro e w2 ⟨r2, rfl, hrk2, hb, hlow⟩
            replace DV := DV.on hb
            replace DR := DR.on hb
            replace D6 := D6.on hb
            replace D7 := D7.on hb
            replace DS := DS.on hb
            replace hT := hT.on hb
            replace hP := hP.on hb
            replace hL := hL.on hb
            replace bz := bz.trans (hb.mono bz.size)
            have hP2 : Pr _ s g c n A cd r2 (V1.partO 0 A0 V1.R 1) (2 * pk k) := ⟨part_vk hP.vk (by have := HKB.out; omega) 0 A0 V1.R 1, hrk2, fun a e => by have := hlow a e; omega⟩
            have hA2 : ∀ a, r2.A2 = some a → w.heap.size + 4 ≤ a.block := fun a e => by have := hlow a e; omega
            clear hb hlow hlg hls hrk2 hP
            refine hK.out _ _ ⟨DV, DR, DS⟩ (fun hH => ?_)
            clear hK K hS
            have hS := hH
            clear hH
            try simp only [Act.put, List.setIfInBounds_toArray, List.set_cons_zero, List.set_cons_succ, List.getElem_toArray, List.getElem_cons_zero, List.getElem_cons_succ]
            obtain ⟨fc0, fc1, fc2, fc3, fc4, fc5, fc6, fc7, fc8⟩ := Vbx.cells DV
            obtain ⟨fr0, fr1, fr2, fr3, fr4, fr5, fr6, fr7, fr8⟩ := Vbx.free DV
            refine wpAnyL_ready (rs := [8]) (by kernel_rfl) (by simp) ?_
            refine AllReadyL.lat (by rfl) rfl (fun K hK => ?_) AllReadyL.nil
            go_simp
            clear fc0 fr0 fc1 fr1 fc2 fr2 fc3 fr3 fc4 fr4 fc5 fr5 fc6 fr6 fc7 fr7 fc8 fr8
            have hgS := set9_grown w2 (w.heap.size) (.pointer (V1.partO 0 A0 V1.R 1).p) (.int .i64 (V1.partO 0 A0 V1.R 1).f0) (.int .i64 (V1.partO 0 A0 V1.R 1).f1) (.int .i64 (V1.partO 0 A0 V1.R 1).d0) (.int .i64 (V1.partO 0 A0 V1.R 1).d1) (.int .i64 (V1.partO 0 A0 V1.R 1).r0) (.int .i64 (V1.partO 0 A0 V1.R 1).r1) (.int .i64 (V1.partO 0 A0 V1.R 1).R) (.int .i64 (V1.partO 0 A0 V1.R 1).C)
            replace DV := Vbx.put DV (V1.partO 0 A0 V1.R 1)
            replace DR := DR.grown hgS (by simp <;> omega)
            replace D6 := D6.grown hgS (by simp <;> omega)
            replace D7 := D7.grown hgS (by simp <;> omega)
            replace DS := DS.grown hgS (by simp <;> omega)
            replace hT := hT.grown hgS (by have := HB.out; omega) (by have := HB.out; omega) (fun a e => by have := HB.out.2 a e; omega)
            replace hL := hL.grown hgS (by omega)
            replace hP2 := hP2.grown hgS (fun _ a e => by have := hA2 a e; omega)
            replace bz := bz.grown hgS bz.size (fun k e => by cases e; omega)
            refine hK.out _ _ trivial (fun _ => ?_)
            clear hK K
            try simp only [Act.put, List.setIfInBounds_toArray, List.set_cons_zero, List.set_cons_succ, List.getElem_toArray, List.getElem_cons_zero, List.getElem_cons_succ]
            generalize (((((((((w2.setCell ⟨w.heap.size, 0, none⟩ (.pointer (V1.partO 0 A0 V1.R 1).p)).setCell ⟨w.heap.size, 1, none⟩ (.int .i64 (V1.partO 0 A0 V1.R 1).f0)).setCell ⟨w.heap.size, 2, none⟩ (.int .i64 (V1.partO 0 A0 V1.R 1).f1)).setCell ⟨w.heap.size, 3, none⟩ (.int .i64 (V1.partO 0 A0 V1.R 1).d0)).setCell ⟨w.heap.size, 4, none⟩ (.int .i64 (V1.partO 0 A0 V1.R 1).d1)).setCell ⟨w.heap.size, 5, none⟩ (.int .i64 (V1.partO 0 A0 V1.R 1).r0)).setCell ⟨w.heap.size, 6, none⟩ (.int .i64 (V1.partO 0 A0 V1.R 1).r1)).setCell ⟨w.heap.size, 7, none⟩ (.int .i64 (V1.partO 0 A0 V1.R 1).R)).setCell ⟨w.heap.size, 8, none⟩ (.int .i64 (V1.partO 0 A0 V1.R 1).C)) = W3 at hgS DV DR D6 D7 DS hT hL hP2 bz ⊢
            clear hgS
            obtain ⟨fc0, fc1, fc2, fc3, fc4⟩ := Rbx.cells DR
            obtain ⟨fr0, fr1, fr2, fr3, fr4⟩ := Rbx.free DR
            refine wpAnyL_ready (rs := [9]) (by kernel_rfl) (by simp) ?_
            refine AllReadyL.lat (by rfl) rfl (fun K hK => ?_) AllReadyL.nil
            go_simp
            clear fc0 fr0 fc1 fr1 fc2 fr2 fc3 fr3 fc4 fr4
            have hgS := set5_grown W3 (w.heap.size + 1) (.slice (r2).A (r2).n (r2).c) (.int .i64 (r2).R) (.int .i64 (r2).C) (.slice (r2).A2 (r2).n2 (r2).c2) (.bool (r2).b)
            replace DR := Rbx.put DR (r2)
            replace DV := DV.grown hgS (by simp <;> omega)
            replace D6 := D6.grown hgS (by simp <;> omega)
            replace D7 := D7.grown hgS (by simp <;> omega)
            replace DS := DS.grown hgS (by simp <;> omega)
            replace hT := hT.grown hgS (by have := HB.out; omega) (by have := HB.out; omega) (fun a e => by have := HB.out.2 a e; omega)
            replace hL := hL.grown hgS (by omega)
            replace hP2 := hP2.grown hgS (fun _ a e => by have := hA2 a e; omega)
            replace bz := bz.grown hgS bz.size (fun k e => by cases e; omega)
            refine hK.out _ _ trivial (fun _ => ?_)
            clear hK K
            try simp only [Act.put, List.setIfInBounds_toArray, List.set_cons_zero, List.set_cons_succ, List.getElem_toArray, List.getElem_cons_zero, List.getElem_cons_succ]
            refine wpAnyL_done (by kernel_rfl) ?_ _
            generalize (((((W3.setCell ⟨w.heap.size + 1, 0, none⟩ (.slice (r2).A (r2).n (r2).c)).setCell ⟨w.heap.size + 1, 1, none⟩ (.int .i64 (r2).R)).setCell ⟨w.heap.size + 1, 2, none⟩ (.int .i64 (r2).C)).setCell ⟨w.heap.size + 1, 3, none⟩ (.slice (r2).A2 (r2).n2 (r2).c2)).setCell ⟨w.heap.size + 1, 4, none⟩ (.bool (r2).b)) = W4 at hgS DV DR D6 D7 DS hT hL hP2 bz ⊢
            clear hgS
            go_wp2_with fail
            go_roundw
            case rel => exact ⟨k + 1, r2, by omega, by go_num, hT, by rw [HX2.out]; exact hP2, .inr (fun a e => by have := hA2 a e; omega), fun _ a e => .inr (hA2 a e), by rw [HX2.out]; exact DV, DR, D6, D7, hL, bz, by have := DS.lt; omega⟩
            case measure => simp [intOf]; omega
          · by_cases e4 : K0 = 4
            · subst e4
              clear e1 e2 e3
              have HX2 : Hid (cutV v (ss.take (k + 1)) = V1.partO A0 B0 C0 D0) := Lib.hid (by rw [HX.out]; unfold Vu.step; simp)
              clear HX
              go_wp2_with fail
              clear s0 s1 s2 s3 s4 x0 x1 x2 x3 x4
              generalize (wr.alloc (.cells #[.int .i64 4, .int .i64 A0, .int .i64 B0, .int .i64 C0, .int .i64 D0] 72)) = W0 at DV DR D6 D7 DS hT hP hL bz ⊢
              replace DV := DV.drew
              replace DR := DR.drew
              replace D6 := D6.drew
              replace D7 := D7.drew
              replace DS := DS.drew
              replace hT := hT.drew
              replace hP := hP.drew
              replace hL := hL.drew
              replace bz := bz.drew
              refine wp_region_late [20, 21] (S := fun w9 : World => Vbx w9 w.heap.size V1 ∧ Rbx w9 (w.heap.size + 1) r1 ∧ Blk w9 HS [.int .i64 4, .int .i64 A0, .int .i64 B0, .int .i64 C0, .int .i64 D0]) (by kernel_rfl) ⟨DV, DR, DS⟩ (fun hS => ?_)
              refine wpAnyL_take (i := 0) (v := ?v0_81) rfl (by kernel_rfl) (by kernel_rfl) (by kernel_rfl) (fun _ _ _ h => h) (Or.inl ⟨by rfl, ?hy0_81⟩) (by assumption) ?rest0_81
              case hy0_81 => (intro w9 hSw; obtain ⟨sv, sr, ss1⟩ := hSw; obtain ⟨k0, k1, k2, k3, k4, k5, k6, k7, k8⟩ := Vbx.cells sv; obtain ⟨c0, c1, c2, c3, c4⟩ := Rbx.cells sr; obtain ⟨t0, t1, t2, t3, t4⟩ : _ ∧ _ ∧ _ ∧ _ ∧ _ := ⟨Blk.cell ss1 0 rfl, Blk.cell ss1 1 rfl, Blk.cell ss1 2 rfl, Blk.cell ss1 3 rfl, Blk.cell ss1 4 rfl⟩; go_simp; try with_reducible rfl)
              try simp only [Act.put, List.setIfInBounds_toArray, List.set_cons_zero, List.set_cons_succ, List.getElem_toArray, List.getElem_cons_zero, List.getElem_cons_succ]
              refine wpAnyL_take (i := 1) (v := ?v1_82) rfl (by kernel_rfl) (by kernel_rfl) (by kernel_rfl) (fun _ _ _ h => h) (Or.inl ⟨by rfl, ?hy1_82⟩) (by assumption) ?rest1_82
              case hy1_82 => (intro w9 hSw; clear hSw; go_simp; try with_reducible rfl)
              try simp only [Act.put, List.setIfInBounds_toArray, List.set_cons_zero, List.set_cons_succ, List.getElem_toArray, List.getElem_cons_zero, List.getElem_cons_succ]
              refine wpAnyL_take (i := 2) (v := ?v2_83) rfl (by kernel_rfl) (by kernel_rfl) (by kernel_rfl) (fun _ _ _ h => h) (Or.inl ⟨by rfl, ?hy2_83⟩) (by assumption) ?rest2_83
              case hy2_83 => (intro w9 hSw; obtain ⟨sv, sr, ss1⟩ := hSw; obtain ⟨k0, k1, k2, k3, k4, k5, k6, k7, k8⟩ := Vbx.cells sv; obtain ⟨c0, c1, c2, c3, c4⟩ := Rbx.cells sr; obtain ⟨t0, t1, t2, t3, t4⟩ : _ ∧ _ ∧ _ ∧ _ ∧ _ := ⟨Blk.cell ss1 0 rfl, Blk.cell ss1 1 rfl, Blk.cell ss1 2 rfl, Blk.cell ss1 3 rfl, Blk.cell ss1 4 rfl⟩; go_simp; try with_reducible rfl)
              try simp only [Act.put, List.setIfInBounds_toArray, List.set_cons_zero, List.set_cons_succ, List.getElem_toArray, List.getElem_cons_zero, List.getElem_cons_succ]
              refine wpAnyL_take (i := 3) (v := ?v3_84) rfl (by kernel_rfl) (by kernel_rfl) (by kernel_rfl) (fun _ _ _ h => h) (Or.inl ⟨by rfl, ?hy3_84⟩) (by assumption) ?rest3_84
              case hy3_84 => (intro w9 hSw; clear hSw; go_simp; try with_reducible rfl)
              try simp only [Act.put, List.setIfInBounds_toArray, List.set_cons_zero, List.set_cons_succ, List.getElem_toArray, List.getElem_cons_zero, List.getElem_cons_succ]
              refine wpAnyL_take (i := 4) (v := ?v4_85) rfl (by kernel_rfl) (by kernel_rfl) (by kernel_rfl) (fun _ _ _ h => h) (Or.inl ⟨by rfl, ?hy4_85⟩) (by assumption) ?rest4_85
              case hy4_85 => (intro w9 hSw; obtain ⟨sv, sr, ss1⟩ := hSw; obtain ⟨k0, k1, k2, k3, k4, k5, k6, k7, k8⟩ := Vbx.cells sv; obtain ⟨c0, c1, c2, c3, c4⟩ := Rbx.cells sr; obtain ⟨t0, t1, t2, t3, t4⟩ : _ ∧ _ ∧ _ ∧ _ ∧ _ := ⟨Blk.cell ss1 0 rfl, Blk.cell ss1 1 rfl, Blk.cell ss1 2 rfl, Blk.cell ss1 3 rfl, Blk.cell ss1 4 rfl⟩; go_simp; try with_reducible rfl)
              try simp only [Act.put, List.setIfInBounds_toArray, List.set_cons_zero, List.set_cons_succ, List.getElem_toArray, List.getElem_cons_zero, List.getElem_cons_succ]
              refine wpAnyL_take (i := 5) (v := ?v5_86) rfl (by kernel_rfl) (by kernel_rfl) (by kernel_rfl) (fun _ _ _ h => h) (Or.inl ⟨by rfl, ?hy5_86⟩) (by assumption) ?rest5_86
              case hy5_86 => (intro w9 hSw; clear hSw; go_simp; try with_reducible rfl)
              try simp only [Act.put, List.setIfInBounds_toArray, List.set_cons_zero, List.set_cons_succ, List.getElem_toArray, List.getElem_cons_zero, List.getElem_cons_succ]
              refine wpAnyL_take (i := 6) (v := ?v6_87) rfl (by kernel_rfl) (by kernel_rfl) (by kernel_rfl) (fun _ _ _ h => h) (Or.inl ⟨by rfl, ?hy6_87⟩) (by assumption) ?rest6_87
              case hy6_87 => (intro w9 hSw; obtain ⟨sv, sr, ss1⟩ := hSw; obtain ⟨k0, k1, k2, k3, k4, k5, k6, k7, k8⟩ := Vbx.cells sv; obtain ⟨c0, c1, c2, c3, c4⟩ := Rbx.cells sr; obtain ⟨t0, t1, t2, t3, t4⟩ : _ ∧ _ ∧ _ ∧ _ ∧ _ := ⟨Blk.cell ss1 0 rfl, Blk.cell ss1 1 rfl, Blk.cell ss1 2 rfl, Blk.cell ss1 3 rfl, Blk.cell ss1 4 rfl⟩; go_simp; try with_reducible rfl)
              try simp only [Act.put, List.setIfInBounds_toArray, List.set_cons_zero, List.set_cons_succ, List.getElem_toArray, List.getElem_cons_zero, List.getElem_cons_succ]
              refine wpAnyL_take (i := 7) (v := ?v7_88) rfl (by kernel_rfl) (by kernel_rfl) (by kernel_rfl) (fun _ _ _ h => h) (Or.inl ⟨by rfl, ?hy7_88⟩) (by assumption) ?rest7_88
              case hy7_88 => (intro w9 hSw; clear hSw; go_simp; try with_reducible rfl)
              try simp only [Act.put, List.setIfInBounds_toArray, List.set_cons_zero, List.set_cons_succ, List.getElem_toArray, List.getElem_cons_zero, List.getElem_cons_succ]
              refine wpAnyL_take (i := 8) (v := ?v8_89) rfl (by kernel_rfl) (by kernel_rfl) (by kernel_rfl) (fun _ _ _ h => h) (Or.inl ⟨by rfl, ?hy8_89⟩) (by assumption) ?rest8_89
              case hy8_89 => (intro w9 hSw; obtain ⟨sv, sr, ss1⟩ := hSw; obtain ⟨k0, k1, k2, k3, k4, k5, k6, k7, k8⟩ := Vbx.cells sv; obtain ⟨c0, c1, c2, c3, c4⟩ := Rbx.cells sr; obtain ⟨t0, t1, t2, t3, t4⟩ : _ ∧ _ ∧ _ ∧ _ ∧ _ := ⟨Blk.cell ss1 0 rfl, Blk.cell ss1 1 rfl, Blk.cell ss1 2 rfl, Blk.cell ss1 3 rfl, Blk.cell ss1 4 rfl⟩; go_simp; try with_reducible rfl)
              try simp only [Act.put, List.setIfInBounds_toArray, List.set_cons_zero, List.set_cons_succ, List.getElem_toArray, List.getElem_cons_zero, List.getElem_cons_succ]
              refine wpAnyL_take (i := 10) (v := ?v10_90) rfl (by kernel_rfl) (by kernel_rfl) (by kernel_rfl) (fun _ _ _ h => h) (Or.inl ⟨by rfl, ?hy10_90⟩) (by assumption) ?rest10_90
              case hy10_90 => (intro w9 hSw; obtain ⟨sv, sr, ss1⟩ := hSw; obtain ⟨k0, k1, k2, k3, k4, k5, k6, k7, k8⟩ := Vbx.cells sv; obtain ⟨c0, c1, c2, c3, c4⟩ := Rbx.cells sr; obtain ⟨t0, t1, t2, t3, t4⟩ : _ ∧ _ ∧ _ ∧ _ ∧ _ := ⟨Blk.cell ss1 0 rfl, Blk.cell ss1 1 rfl, Blk.cell ss1 2 rfl, Blk.cell ss1 3 rfl, Blk.cell ss1 4 rfl⟩; go_simp; try with_reducible rfl)
              try simp only [Act.put, List.setIfInBounds_toArray, List.set_cons_zero, List.set_cons_succ, List.getElem_toArray, List.getElem_cons_zero, List.getElem_cons_succ]
              refine wpAnyL_take (i := 11) (v := ?v11_91) rfl (by kernel_rfl) (by kernel_rfl) (by kernel_rfl) (fun _ _ _ h => h) (Or.inl ⟨by rfl, ?hy11_91⟩) (by assumption) ?rest11_91
              case hy11_91 => (intro w9 hSw; clear hSw; go_simp; try with_reducible rfl)
              try simp only [Act.put, List.setIfInBounds_toArray, List.set_cons_zero, List.set_cons_succ, List.getElem_toArray, List.getElem_cons_zero, List.getElem_cons_succ]
              refine wpAnyL_take (i := 12) (v := ?v12_92) rfl (by kernel_rfl) (by kernel_rfl) (by kernel_rfl) (fun _ _ _ h => h) (Or.inl ⟨by rfl, ?hy12_92⟩) (by assumption) ?rest12_92
              case hy12_92 => (intro w9 hSw; obtain ⟨sv, sr, ss1⟩ := hSw; obtain ⟨k0, k1, k2, k3, k4, k5, k6, k7, k8⟩ := Vbx.cells sv; obtain ⟨c0, c1, c2, c3, c4⟩ := Rbx.cells sr; obtain ⟨t0, t1, t2, t3, t4⟩ : _ ∧ _ ∧ _ ∧ _ ∧ _ := ⟨Blk.cell ss1 0 rfl, Blk.cell ss1 1 rfl, Blk.cell ss1 2 rfl, Blk.cell ss1 3 rfl, Blk.cell ss1 4 rfl⟩; go_simp; try with_reducible rfl)
              try simp only [Act.put, List.setIfInBounds_toArray, List.set_cons_zero, List.set_cons_succ, List.getElem_toArray, List.getElem_cons_zero, List.getElem_cons_succ]
              refine wpAnyL_take (i := 13) (v := ?v13_93) rfl (by kernel_rfl) (by kernel_rfl) (by kernel_rfl) (fun _ _ _ h => h) (Or.inl ⟨by rfl, ?hy13_93⟩) (by assumption) ?rest13_93
              case hy13_93 => (intro w9 hSw; clear hSw; go_simp; try with_reducible rfl)
              try simp only [Act.put, List.setIfInBounds_toArray, List.set_cons_zero, List.set_cons_succ, List.getElem_toArray, List.getElem_cons_zero, List.getElem_cons_succ]
              refine wpAnyL_take (i := 14) (v := ?v14_94) rfl (by kernel_rfl) (by kernel_rfl) (by kernel_rfl) (fun _ _ _ h => h) (Or.inl ⟨by rfl, ?hy14_94⟩) (by assumption) ?rest14_94
              case hy14_94 => (intro w9 hSw; obtain ⟨sv, sr, ss1⟩ := hSw; obtain ⟨k0, k1, k2, k3, k4, k5, k6, k7, k8⟩ := Vbx.cells sv; obtain ⟨c0, c1, c2, c3, c4⟩ := Rbx.cells sr; obtain ⟨t0, t1, t2, t3, t4⟩ : _ ∧ _ ∧ _ ∧ _ ∧ _ := ⟨Blk.cell ss1 0 rfl, Blk.cell ss1 1 rfl, Blk.cell ss1 2 rfl, Blk.cell ss1 3 rfl, Blk.cell ss1 4 rfl⟩; go_simp; try with_reducible rfl)
              try simp only [Act.put, List.setIfInBounds_toArray, List.set_cons_zero, List.set_cons_succ, List.getElem_toArray, List.getElem_cons_zero, List.getElem_cons_succ]
              refine wpAnyL_take (i := 15) (v := ?v15_95) rfl (by kernel_rfl) (by kernel_rfl) (by kernel_rfl) (fun _ _ _ h => h) (Or.inl ⟨by rfl, ?hy15_95⟩) (by assumption) ?rest15_95
              case hy15_95 => (intro w9 hSw; clear hSw; go_simp; try with_reducible rfl)
              try simp only [Act.put, List.setIfInBounds_toArray, List.set_cons_zero, List.set_cons_succ, List.getElem_toArray, List.getElem_cons_zero, List.getElem_cons_succ]
              refine wpAnyL_take (i := 16) (v := ?v16_96) rfl (by kernel_rfl) (by kernel_rfl) (by kernel_rfl) (fun _ _ _ h => h) (Or.inl ⟨by rfl, ?hy16_96⟩) (by assumption) ?rest16_96
              case hy16_96 => (intro w9 hSw; obtain ⟨sv, sr, ss1⟩ := hSw; obtain ⟨k0, k1, k2, k3, k4, k5, k6, k7, k8⟩ := Vbx.cells sv; obtain ⟨c0, c1, c2, c3, c4⟩ := Rbx.cells sr; obtain ⟨t0, t1, t2, t3, t4⟩ : _ ∧ _ ∧ _ ∧ _ ∧ _ := ⟨Blk.cell ss1 0 rfl, Blk.cell ss1 1 rfl, Blk.cell ss1 2 rfl, Blk.cell ss1 3 rfl, Blk.cell ss1 4 rfl⟩; go_simp; try with_reducible rfl)
              try simp only [Act.put, List.setIfInBounds_toArray, List.set_cons_zero, List.set_cons_succ, List.getElem_toArray, List.getElem_cons_zero, List.getElem_cons_succ]
              refine wpAnyL_take (i := 17) (v := ?v17_97) rfl (by kernel_rfl) (by kernel_rfl) (by kernel_rfl) (fun _ _ _ h => h) (Or.inl ⟨by rfl, ?hy17_97⟩) (by assumption) ?rest17_97
              case hy17_97 => (intro w9 hSw; clear hSw; go_simp; try with_reducible rfl)
              try simp only [Act.put, List.setIfInBounds_toArray, List.set_cons_zero, List.set_cons_succ, List.getElem_toArray, List.getElem_cons_zero, List.getElem_cons_succ]
              refine wpAnyL_take (i := 18) (v := ?v18_98) rfl (by kernel_rfl) (by kernel_rfl) (by kernel_rfl) (fun _ _ _ h => h) (Or.inl ⟨by rfl, ?hy18_98⟩) (by assumption) ?rest18_98
              case hy18_98 => (intro w9 hSw; obtain ⟨sv, sr, ss1⟩ := hSw; obtain ⟨k0, k1, k2, k3, k4, k5, k6, k7, k8⟩ := Vbx.cells sv; obtain ⟨c0, c1, c2, c3, c4⟩ := Rbx.cells sr; obtain ⟨t0, t1, t2, t3, t4⟩ : _ ∧ _ ∧ _ ∧ _ ∧ _ := ⟨Blk.cell ss1 0 rfl, Blk.cell ss1 1 rfl, Blk.cell ss1 2 rfl, Blk.cell ss1 3 rfl, Blk.cell ss1 4 rfl⟩; go_simp; try with_reducible rfl)
              try simp only [Act.put, List.setIfInBounds_toArray, List.set_cons_zero, List.set_cons_succ, List.getElem_toArray, List.getElem_cons_zero, List.getElem_cons_succ]
              refine wpAnyL_ready (rs := [9]) (by kernel_rfl) (by simp) ?_
              refine AllReadyL.cons rfl (fun K hK => ?_) AllReadyL.nil
              go_simp
              with_reducible refine (Part_any hP.vk.bd (by omega) (by omega) _).mono ?_
              rintro e w1 ⟨rfl, hb⟩
              replace DV := DV.on hb
              replace DR := DR.on hb
              replace D6 := D6.on hb
              replace D7 := D7.on hb
              replace DS := DS.on hb
              replace hT := hT.on hb
              replace hP := hP.on hb
              replace hL := hL.on hb
              replace bz := bz.trans (hb.mono bz.size)
              clear hb
              refine hK.out _ _ ⟨DV, DR, DS⟩ (fun hH => ?_)
              clear hK K hS
              have hS := hH
              clear hH
              try simp only [Act.put, List.setIfInBounds_toArray, List.set_cons_zero, List.set_cons_succ, List.getElem_toArray, List.getElem_cons_zero, List.getElem_cons_succ]
              refine wpAnyL_ready (rs := [19]) (by kernel_rfl) (by simp) ?_
              refine AllReadyL.cons rfl (fun K hK => ?_) AllReadyL.nil
              go_simp
              have hlg := hT.st.gt.2
              have hls := DS.lt
              with_reducible refine (rPart_any hP.rk hT.sr hP.vk (by omega) (by omega)).mono ?_
              rintro e w2 ⟨r2, rfl, hrk2, hb, hlow⟩
              replace DV := DV.on hb
              replace DR := DR.on hb
              replace D6 := D6.on hb
              replace D7 := D7.on hb
              replace DS := DS.on hb
              replace hT := hT.on hb
              replace hP := hP.on hb
              replace hL := hL.on hb
              replace bz := bz.trans (hb.mono bz.size)
              have hP2 : Pr _ s g c n A cd r2 (V1.partO A0 B0 C0 D0) (2 * pk k) := ⟨part_vk hP.vk (by have := HKB.out; omega) A0 B0 C0 D0, hrk2, fun a e => by have := hlow a e; omega⟩
              have hA2 : ∀ a, r2.A2 = some a → w.heap.size + 4 ≤ a.block := fun a e => by have := hlow a e; omega
              clear hb hlow hlg hls hrk2 hP
              refine hK.out _ _ ⟨DV, DR, DS⟩ (fun hH => ?_)
              clear hK K hS
              have hS := hH
              clear hH
              try simp only [Act.put, List.setIfInBounds_toArray, List.set_cons_zero, List.set_cons_succ, List.getElem_toArray, List.getElem_cons_zero, List.getElem_cons_succ]
              obtain ⟨fc0, fc1, fc2, fc3, fc4, fc5, fc6, fc7, fc8⟩ := Vbx.cells DV
              obtain ⟨fr0, fr1, fr2, fr3, fr4, fr5, fr6, fr7, fr8⟩ := Vbx.free DV
              refine wpAnyL_ready (rs := [20]) (by kernel_rfl) (by simp) ?_
              refine AllReadyL.lat (by rfl) rfl (fun K hK => ?_) AllReadyL.nil
              go_simp
              clear fc0 fr0 fc1 fr1 fc2 fr2 fc3 fr3 fc4 fr4 fc5 fr5 fc6 fr6 fc7 fr7 fc8 fr8
              have hgS := set9_grown w2 (w.heap.size) (.pointer (V1.partO A0 B0 C0 D0).p) (.int .i64 (V1.partO A0 B0 C0 D0).f0) (.int .i64 (V1.partO A0 B0 C0 D0).f1) (.int .i64 (V1.partO A0 B0 C0 D0).d0) (.int .i64 (V1.partO A0 B0 C0 D0).d1) (.int .i64 (V1.partO A0 B0 C0 D0).r0) (.int .i64 (V1.partO A0 B0 C0 D0).r1) (.int .i64 (V1.partO A0 B0 C0 D0).R) (.int .i64 (V1.partO A0 B0 C0 D0).C)
              replace DV := Vbx.put DV (V1.partO A0 B0 C0 D0)
              replace DR := DR.grown hgS (by simp <;> omega)
              replace D6 := D6.grown hgS (by simp <;> omega)
              replace D7 := D7.grown hgS (by simp <;> omega)
              replace DS := DS.grown hgS (by simp <;> omega)
              replace hT := hT.grown hgS (by have := HB.out; omega) (by have := HB.out; omega) (fun a e => by have := HB.out.2 a e; omega)
              replace hL := hL.grown hgS (by omega)
              replace hP2 := hP2.grown hgS (fun _ a e => by have := hA2 a e; omega)
              replace bz := bz.grown hgS bz.size (fun k e => by cases e; omega)
              refine hK.out _ _ trivial (fun _ => ?_)
              clear hK K
              try simp only [Act.put, List.setIfInBounds_toArray, List.set_cons_zero, List.set_cons_succ, List.getElem_toArray, List.getElem_cons_zero, List.getElem_cons_succ]
              generalize (((((((((w2.setCell ⟨w.heap.size, 0, none⟩ (.pointer (V1.partO A0 B0 C0 D0).p)).setCell ⟨w.heap.size, 1, none⟩ (.int .i64 (V1.partO A0 B0 C0 D0).f0)).setCell ⟨w.heap.size, 2, none⟩ (.int .i64 (V1.partO A0 B0 C0 D0).f1)).setCell ⟨w.heap.size, 3, none⟩ (.int .i64 (V1.partO A0 B0 C0 D0).d0)).setCell ⟨w.heap.size, 4, none⟩ (.int .i64 (V1.partO A0 B0 C0 D0).d1)).setCell ⟨w.heap.size, 5, none⟩ (.int .i64 (V1.partO A0 B0 C0 D0).r0)).setCell ⟨w.heap.size, 6, none⟩ (.int .i64 (V1.partO A0 B0 C0 D0).r1)).setCell ⟨w.heap.size, 7, none⟩ (.int .i64 (V1.partO A0 B0 C0 D0).R)).setCell ⟨w.heap.size, 8, none⟩ (.int .i64 (V1.partO A0 B0 C0 D0).C)) = W3 at hgS DV DR D6 D7 DS hT hL hP2 bz ⊢
              clear hgS
              obtain ⟨fc0, fc1, fc2, fc3, fc4⟩ := Rbx.cells DR
              obtain ⟨fr0, fr1, fr2, fr3, fr4⟩ := Rbx.free DR
              refine wpAnyL_ready (rs := [21]) (by kernel_rfl) (by simp) ?_
              refine AllReadyL.lat (by rfl) rfl (fun K hK => ?_) AllReadyL.nil
              go_simp
              clear fc0 fr0 fc1 fr1 fc2 fr2 fc3 fr3 fc4 fr4
              have hgS := set5_grown W3 (w.heap.size + 1) (.slice (r2).A (r2).n (r2).c) (.int .i64 (r2).R) (.int .i64 (r2).C) (.slice (r2).A2 (r2).n2 (r2).c2) (.bool (r2).b)
              replace DR := Rbx.put DR (r2)
              replace DV := DV.grown hgS (by simp <;> omega)
              replace D6 := D6.grown hgS (by simp <;> omega)
              replace D7 := D7.grown hgS (by simp <;> omega)
              replace DS := DS.grown hgS (by simp <;> omega)
              replace hT := hT.grown hgS (by have := HB.out; omega) (by have := HB.out; omega) (fun a e => by have := HB.out.2 a e; omega)
              replace hL := hL.grown hgS (by omega)
              replace hP2 := hP2.grown hgS (fun _ a e => by have := hA2 a e; omega)
              replace bz := bz.grown hgS bz.size (fun k e => by cases e; omega)
              refine hK.out _ _ trivial (fun _ => ?_)
              clear hK K
              try simp only [Act.put, List.setIfInBounds_toArray, List.set_cons_zero, List.set_cons_succ, List.getElem_toArray, List.getElem_cons_zero, List.getElem_cons_succ]
              refine wpAnyL_done (by kernel_rfl) ?_ _
              generalize (((((W3.setCell ⟨w.heap.size + 1, 0, none⟩ (.slice (r2).A (r2).n (r2).c)).setCell ⟨w.heap.size + 1, 1, none⟩ (.int .i64 (r2).R)).setCell ⟨w.heap.size + 1, 2, none⟩ (.int .i64 (r2).C)).setCell ⟨w.heap.size + 1, 3, none⟩ (.slice (r2).A2 (r2).n2 (r2).c2)).setCell ⟨w.heap.size + 1, 4, none⟩ (.bool (r2).b)) = W4 at hgS DV DR D6 D7 DS hT hL hP2 bz ⊢
              clear hgS
              go_wp2_with fail
              go_roundw
              case rel => exact ⟨k + 1, r2, by omega, by go_num, hT, by rw [HX2.out]; exact hP2, .inr (fun a e => by have := hA2 a e; omega), fun _ a e => .inr (hA2 a e), by rw [HX2.out]; exact DV, DR, D6, D7, hL, bz, by have := DS.lt; omega⟩
              case measure => simp [intOf]; omega
            · by_cases e5 : K0 = 5
              · subst e5
                clear e1 e2 e3 e4
                have HX2 : Hid (cutV v (ss.take (k + 1)) = V1.diagO) := Lib.hid (by rw [HX.out]; unfold Vu.step; simp)
                clear HX
                go_wp2_with fail
                clear s0 s1 s2 s3 s4 x0 x1 x2 x3 x4
                generalize (wr.alloc (.cells #[.int .i64 5, .int .i64 A0, .int .i64 B0, .int .i64 C0, .int .i64 D0] 72)) = W0 at DV DR D6 D7 DS hT hP hL bz ⊢
                replace DV := DV.drew
                replace DR := DR.drew
                replace D6 := D6.drew
                replace D7 := D7.drew
                replace DS := DS.drew
                replace hT := hT.drew
                replace hP := hP.drew
                replace hL := hL.drew
                replace bz := bz.drew
                refine wp_region_late [4, 5] (S := fun w9 : World => Vbx w9 w.heap.size V1 ∧ Rbx w9 (w.heap.size + 1) r1 ∧ Blk w9 HS [.int .i64 5, .int .i64 A0, .int .i64 B0, .int .i64 C0, .int .i64 D0]) (by kernel_rfl) ⟨DV, DR, DS⟩ (fun hS => ?_)
                refine wpAnyL_take (i := 0) (v := ?v0_101) rfl (by kernel_rfl) (by kernel_rfl) (by kernel_rfl) (fun _ _ _ h => h) (Or.inl ⟨by rfl, ?hy0_101⟩) (by assumption) ?rest0_101
                case hy0_101 => (intro w9 hSw; obtain ⟨sv, sr, ss1⟩ := hSw; obtain ⟨k0, k1, k2, k3, k4, k5, k6, k7, k8⟩ := Vbx.cells sv; obtain ⟨c0, c1, c2, c3, c4⟩ := Rbx.cells sr; obtain ⟨t0, t1, t2, t3, t4⟩ : _ ∧ _ ∧ _ ∧ _ ∧ _ := ⟨Blk.cell ss1 0 rfl, Blk.cell ss1 1 rfl, Blk.cell ss1 2 rfl, Blk.cell ss1 3 rfl, Blk.cell ss1 4 rfl⟩; go_simp; try with_reducible rfl)
                try simp only [Act.put, List.setIfInBounds_toArray, List.set_cons_zero, List.set_cons_succ, List.getElem_toArray, List.getElem_cons_zero, List.getElem_cons_succ]
                refine wpAnyL_take (i := 2) (v := ?v2_102) rfl (by kernel_rfl) (by kernel_rfl) (by kernel_rfl) (fun _ _ _ h => h) (Or.inl ⟨by rfl, ?hy2_102⟩) (by assumption) ?rest2_102
                case hy2_102 => (intro w9 hSw; obtain ⟨sv, sr, ss1⟩ := hSw; obtain ⟨k0, k1, k2, k3, k4, k5, k6, k7, k8⟩ := Vbx.cells sv; obtain ⟨c0, c1, c2, c3, c4⟩ := Rbx.cells sr; obtain ⟨t0, t1, t2, t3, t4⟩ : _ ∧ _ ∧ _ ∧ _ ∧ _ := ⟨Blk.cell ss1 0 rfl, Blk.cell ss1 1 rfl, Blk.cell ss1 2 rfl, Blk.cell ss1 3 rfl, Blk.cell ss1 4 rfl⟩; go_simp; try with_reducible rfl)
                try simp only [Act.put, List.setIfInBounds_toArray, List.set_cons_zero, List.set_cons_succ, List.getElem_toArray, List.getElem_cons_zero, List.getElem_cons_succ]
                refine wpAnyL_ready (rs := [1]) (by kernel_rfl) (by simp) ?_
                refine AllReadyL.cons rfl (fun K hK => ?_) AllReadyL.nil
                go_simp
                with_reducible refine (Diag_any hP.vk.bd _).mono ?_
                rintro e w1 ⟨rfl, hb⟩
                replace DV := DV.on hb
                replace DR := DR.on hb
                replace D6 := D6.on hb
                replace D7 := D7.on hb
                replace DS := DS.on hb
                replace hT := hT.on hb
                replace hP := hP.on hb
                replace hL := hL.on hb
                replace bz := bz.trans (hb.mono bz.size)
                clear hb
                refine hK.out _ _ ⟨DV, DR, DS⟩ (fun hH => ?_)
                clear hK K hS
                have hS := hH
                clear hH
                try simp only [Act.put, List.setIfInBounds_toArray, List.set_cons_zero, List.set_cons_succ, List.getElem_toArray, List.getElem_cons_zero, List.getElem_cons_succ]
                refine wpAnyL_ready (rs := [3]) (by kernel_rfl) (by simp) ?_
                refine AllReadyL.cons rfl (fun K hK => ?_) AllReadyL.nil
                go_simp
                have hlg := hT.st.gt.2
                have hls := DS.lt
                with_reducible refine (rDiag_any hP.rk hT.sr hP.vk).mono ?_
                rintro e w2 ⟨r2, rfl, hrk2, hb, hlow⟩
                replace DV := DV.on hb
                replace DR := DR.on hb
                replace D6 := D6.on hb
                replace D7 := D7.on hb
                replace DS := DS.on hb
                replace hT := hT.on hb
                replace hP := hP.on hb
                replace hL := hL.on hb
                replace bz := bz.trans (hb.mono bz.size)
                have hP2 : Pr _ s g c n A cd r2 (V1.diagO) (2 * pk k) := ⟨diag_vk hP.vk (by have := HKB.out; omega), hrk2, fun a e => by have := hlow a e; omega⟩
                have hA2 : ∀ a, r2.A2 = some a → w.heap.size + 4 ≤ a.block := fun a e => by have := hlow a e; omega
                clear hb hlow hlg hls hrk2 hP
                refine hK.out _ _ ⟨DV, DR, DS⟩ (fun hH => ?_)
                clear hK K hS
                have hS := hH
                clear hH
                try simp only [Act.put, List.setIfInBounds_toArray, List.set_cons_zero, List.set_cons_succ, List.getElem_toArray, List.getElem_cons_zero, List.getElem_cons_succ]
                obtain ⟨fc0, fc1, fc2, fc3, fc4, fc5, fc6, fc7, fc8⟩ := Vbx.cells DV
                obtain ⟨fr0, fr1, fr2, fr3, fr4, fr5, fr6, fr7, fr8⟩ := Vbx.free DV
                refine wpAnyL_ready (rs := [4]) (by kernel_rfl) (by simp) ?_
                refine AllReadyL.lat (by rfl) rfl (fun K hK => ?_) AllReadyL.nil
                go_simp
                clear fc0 fr0 fc1 fr1 fc2 fr2 fc3 fr3 fc4 fr4 fc5 fr5 fc6 fr6 fc7 fr7 fc8 fr8
                have hgS := set9_grown w2 (w.heap.size) (.pointer (V1.diagO).p) (.int .i64 (V1.diagO).f0) (.int .i64 (V1.diagO).f1) (.int .i64 (V1.diagO).d0) (.int .i64 (V1.diagO).d1) (.int .i64 (V1.diagO).r0) (.int .i64 (V1.diagO).r1) (.int .i64 (V1.diagO).R) (.int .i64 (V1.diagO).C)
                replace DV := Vbx.put DV (V1.diagO)
                replace DR := DR.grown hgS (by simp <;> omega)
                replace D6 := D6.grown hgS (by simp <;> omega)
                replace D7 := D7.grown hgS (by simp <;> omega)
                replace DS := DS.grown hgS (by simp <;> omega)
                replace hT := hT.grown hgS (by have := HB.out; omega) (by have := HB.out; omega) (fun a e => by have := HB.out.2 a e; omega)
                replace hL := hL.grown hgS (by omega)
                replace hP2 := hP2.grown hgS (fun _ a e => by have := hA2 a e; omega)
                replace bz := bz.grown hgS bz.size (fun k e => by cases e; omega)
                refine hK.out _ _ trivial (fun _ => ?_)
                clear hK K
                try simp only [Act.put, List.setIfInBounds_toArray, List.set_cons_zero, List.set_cons_succ, List.getElem_toArray, List.getElem_cons_zero, List.getElem_cons_succ]
                generalize (((((((((w2.setCell ⟨w.heap.size, 0, none⟩ (.pointer (V1.diagO).p)).setCell ⟨w.heap.size, 1, none⟩ (.int .i64 (V1.diagO).f0)).setCell ⟨w.heap.size, 2, none⟩ (.int .i64 (V1.diagO).f1)).setCell ⟨w.heap.size, 3, none⟩ (.int .i64 (V1.diagO).d0)).setCell ⟨w.heap.size, 4, none⟩ (.int .i64 (V1.diagO).d1)).setCell ⟨w.heap.size, 5, none⟩ (.int .i64 (V1.diagO).r0)).setCell ⟨w.heap.size, 6, none⟩ (.int .i64 (V1.diagO).r1)).setCell ⟨w.heap.size, 7, none⟩ (.int .i64 (V1.diagO).R)).setCell ⟨w.heap.size, 8, none⟩ (.int .i64 (V1.diagO).C)) = W3 at hgS DV DR D6 D7 DS hT hL hP2 bz ⊢
                clear hgS
                obtain ⟨fc0, fc1, fc2, fc3, fc4⟩ := Rbx.cells DR
                obtain ⟨fr0, fr1, fr2, fr3, fr4⟩ := Rbx.free DR
                refine wpAnyL_ready (rs := [5]) (by kernel_rfl) (by simp) ?_
                refine AllReadyL.lat (by rfl) rfl (fun K hK => ?_) AllReadyL.nil
                go_simp
                clear fc0 fr0 fc1 fr1 fc2 fr2 fc3 fr3 fc4 fr4
                have hgS := set5_grown W3 (w.heap.size + 1) (.slice (r2).A (r2).n (r2).c) (.int .i64 (r2).R) (.int .i64 (r2).C) (.slice (r2).A2 (r2).n2 (r2).c2) (.bool (r2).b)
                replace DR := Rbx.put DR (r2)
                replace DV := DV.grown hgS (by simp <;> omega)
                replace D6 := D6.grown hgS (by simp <;> omega)
                replace D7 := D7.grown hgS (by simp <;> omega)
                replace DS := DS.grown hgS (by simp <;> omega)
                replace hT := hT.grown hgS (by have := HB.out; omega) (by have := HB.out; omega) (fun a e => by have := HB.out.2 a e; omega)
                replace hL := hL.grown hgS (by omega)
                replace hP2 := hP2.grown hgS (fun _ a e => by have := hA2 a e; omega)
                replace bz := bz.grown hgS bz.size (fun k e => by cases e; omega)
                refine hK.out _ _ trivial (fun _ => ?_)
                clear hK K
                try simp only [Act.put, List.setIfInBounds_toArray, List.set_cons_zero, List.set_cons_succ, List.getElem_toArray, List.getElem_cons_zero, List.getElem_cons_succ]
                refine wpAnyL_done (by kernel_rfl) ?_ _
                generalize (((((W3.setCell ⟨w.heap.size + 1, 0, none⟩ (.slice (r2).A (r2).n (r2).c)).setCell ⟨w.heap.size + 1, 1, none⟩ (.int .i64 (r2).R)).setCell ⟨w.heap.size + 1, 2, none⟩ (.int .i64 (r2).C)).setCell ⟨w.heap.size + 1, 3, none⟩ (.slice (r2).A2 (r2).n2 (r2).c2)).setCell ⟨w.heap.size + 1, 4, none⟩ (.bool (r2).b)) = W4 at hgS DV DR D6 D7 DS hT hL hP2 bz ⊢
                clear hgS
                go_wp2_with fail
                go_roundw
                case rel => exact ⟨k + 1, r2, by omega, by go_num, hT, by rw [HX2.out]; exact hP2, .inr (fun a e => by have := hA2 a e; omega), fun _ a e => .inr (hA2 a e), by rw [HX2.out]; exact DV, DR, D6, D7, hL, bz, by have := DS.lt; omega⟩
                case measure => simp [intOf]; omega
              · have d1 : (K0 == 1) = false := by simp; omega
                have d2 : (K0 == 2) = false := by simp; omega
                have d3 : (K0 == 3) = false := by simp; omega
                have d4 : (K0 == 4) = false := by simp; omega
                have d5 : (K0 == 5) = false := by simp; omega
                have HX2 : Hid (cutV v (ss.take (k + 1)) = V1) := Lib.hid (by rw [HX.out]; unfold Vu.step; simp [e1, e2, e3, e4, e5])
                clear HX e1 e2 e3 e4 e5
                go_wp2_with fail
                go_roundw
                case rel => exact ⟨k + 1, r1, by omega, by go_num, hT, by rw [HX2.out]; exact ⟨hP.vk.more (by have := HKB.out; show pk k ≤ 2 * pk k; omega) (by have := HKB.out; show 2 * pk k ≤ _; omega), hP.rk, hP.fr⟩, HW2.out, by rw [HX2.out]; exact HO2.out, by rw [HX2.out]; exact DV, DR, D6, D7, hL, bz, by have := DS.lt; omega⟩
                case measure => simp [intOf]; omega
    · obtain rfl : k = m := by omega
      have HV2 : Hid (cutV v ss = V1) := Lib.hid (by rw [← HV.out, ← HSL.out, List.take_length])
      clear HV
      have HW2 := Lib.hid HW
      have HO2 := Lib.hid HO
      clear HW HO
      go_wp2_with fail
      replace DV := DV.drew
      replace DR := DR.drew
      replace D6 := D6.drew
      replace D7 := D7.drew
      replace hT := hT.drew
      replace hP := hP.drew
      replace hL := hL.drew
      replace bz := bz.drew
      replace D6 : Vbx wr.drew (w.heap.size + 1 + 1) Vu.zero := D6
      replace D7 : Rbx wr.drew (w.heap.size + 1 + 1 + 1) Ru.zero := D7
      refine wp_region_held_drew (S := fun w9 : World => Vbx w9 w.heap.size V1 ∧ Rbx w9 (w.heap.size + 1) r1) (by kernel_rfl) ⟨DV, DR⟩ (fun hS => ?_)
      generalize wr.drew = W1 at hS DV DR D6 D7 hT hP hL bz ⊢
      refine wpAnyH_take (i := 0) (v := ?v0_35) rfl (by kernel_rfl) (by kernel_rfl) (by kernel_rfl) (fun _ _ _ h => h) (Or.inl ⟨by rfl, ?hy0_35⟩) (by assumption) ?rest0_35
      case hy0_35 => (intro w9 hSw; obtain ⟨sv, sr⟩ := hSw; obtain ⟨k0, k1, k2, k3, k4, k5, k6, k7, k8⟩ := Vbx.cells sv; obtain ⟨c0, c1, c2, c3, c4⟩ := Rbx.cells sr; go_simp; try with_reducible rfl)
      try simp only [Act.put, List.setIfInBounds_toArray, List.set_cons_zero, List.set_cons_succ, List.getElem_toArray, List.getElem_cons_zero, List.getElem_cons_succ]
      refine wpAnyH_take (i := 1) (v := ?v1_36) rfl (by kernel_rfl) (by kernel_rfl) (by kernel_rfl) (fun _ _ _ h => h) (Or.inl ⟨by rfl, ?hy1_36⟩) (by assumption) ?rest1_36
      case hy1_36 => (intro w9 hSw; obtain ⟨sv, sr⟩ := hSw; obtain ⟨k0, k1, k2, k3, k4, k5, k6, k7, k8⟩ := Vbx.cells sv; obtain ⟨c0, c1, c2, c3, c4⟩ := Rbx.cells sr; go_simp; try with_reducible rfl)
      try simp only [Act.put, List.setIfInBounds_toArray, List.set_cons_zero, List.set_cons_succ, List.getElem_toArray, List.getElem_cons_zero, List.getElem_cons_succ]
      obtain ⟨fc0, fc1, fc2, fc3, fc4, fc5, fc6, fc7, fc8⟩ := Vbx.cells D6
      obtain ⟨fr0, fr1, fr2, fr3, fr4, fr5, fr6, fr7, fr8⟩ := Vbx.free D6
      refine wpAnyH_ready (rs := [2]) (by kernel_rfl) (by simp) ?_
      refine AllReadyH.cons rfl (fun K hK => ?_) AllReadyH.nil
      go_simp
      clear fc0 fr0 fc1 fr1 fc2 fr2 fc3 fr3 fc4 fr4 fc5 fr5 fc6 fr6 fc7 fr7 fc8 fr8
      have hgS := set9_grown W1 (w.heap.size + 1 + 1) (.pointer (V1).p) (.int .i64 (V1).f0) (.int .i64 (V1).f1) (.int .i64 (V1).d0) (.int .i64 (V1).d1) (.int .i64 (V1).r0) (.int .i64 (V1).r1) (.int .i64 (V1).R) (.int .i64 (V1).C)
      replace D6 := Vbx.put D6 (V1)
      replace DV := DV.grown hgS (by simp <;> omega)
      replace DR := DR.grown hgS (by simp <;> omega)
      replace D7 := D7.grown hgS (by simp <;> omega)
      replace hT := hT.grown hgS (by have := HB.out; omega) (by have := HB.out; omega) (fun a e => by have := HB.out.2 a e; omega)
      replace hP := hP.grown hgS (fun h0 a e => by have := HO2.out h0 a e; omega)
      replace hL := hL.grown hgS (by omega)
      replace bz := bz.grown hgS bz.size (fun k e => by cases e; omega)
      refine hK.out _ _ ⟨DV, DR⟩ (fun hH => ?_)
      clear hK K hS
      have hS := hH
      clear hH
      try simp only [Act.put, List.setIfInBounds_toArray, List.set_cons_zero, List.set_cons_succ, List.getElem_toArray, List.getElem_cons_zero, List.getElem_cons_succ]
      generalize (((((((((W1.setCell ⟨w.heap.size + 1 + 1, 0, none⟩ (.pointer (V1).p)).setCell ⟨w.heap.size + 1 + 1, 1, none⟩ (.int .i64 (V1).f0)).setCell ⟨w.heap.size + 1 + 1, 2, none⟩ (.int .i64 (V1).f1)).setCell ⟨w.heap.size + 1 + 1, 3, none⟩ (.int .i64 (V1).d0)).setCell ⟨w.heap.size + 1 + 1, 4, none⟩ (.int .i64 (V1).d1)).setCell ⟨w.heap.size + 1 + 1, 5, none⟩ (.int .i64 (V1).r0)).setCell ⟨w.heap.size + 1 + 1, 6, none⟩ (.int .i64 (V1).r1)).setCell ⟨w.heap.size + 1 + 1, 7, none⟩ (.int .i64 (V1).R)).setCell ⟨w.heap.size + 1 + 1, 8, none⟩ (.int .i64 (V1).C)) = W3 at hgS DV DR D6 D7 hT hP hL bz ⊢
      clear hgS
      obtain ⟨fc0, fc1, fc2, fc3, fc4⟩ := Rbx.cells D7
      obtain ⟨fr0, fr1, fr2, fr3, fr4⟩ := Rbx.free D7
      refine wpAnyH_ready (rs := [3]) (by kernel_rfl) (by simp) ?_
      refine AllReadyH.cons rfl (fun K hK => ?_) AllReadyH.nil
      go_simp
      clear fc0 fr0 fc1 fr1 fc2 fr2 fc3 fr3 fc4 fr4
      have hgS := set5_grown W3 (w.heap.size + 1 + 1 + 1) (.slice (r1).A (r1).n (r1).c) (.int .i64 (r1).R) (.int .i64 (r1).C) (.slice (r1).A2 (r1).n2 (r1).c2) (.bool (r1).b)
      replace D7 := Rbx.put D7 (r1)
      replace DV := DV.grown hgS (by simp <;> omega)
      replace DR := DR.grown hgS (by simp <;> omega)
      replace D6 := D6.grown hgS (by simp <;> omega)
      replace hT := hT.grown hgS (by have := HB.out; omega) (by have := HB.out; omega) (fun a e => by have := HB.out.2 a e; omega)
      replace hP := hP.grown hgS (fun h0 a e => by have := HO2.out h0 a e; omega)
      replace hL := hL.grown hgS (by omega)
      replace bz := bz.grown hgS bz.size (fun k e => by cases e; omega)
      refine hK.out _ _ ⟨DV, DR⟩ (fun hH => ?_)
      clear hK K hS
      have hS := hH
      clear hH
      try simp only [Act.put, List.setIfInBounds_toArray, List.set_cons_zero, List.set_cons_succ, List.getElem_toArray, List.getElem_cons_zero, List.getElem_cons_succ]
      refine wpAnyH_done (by kernel_rfl) ?_ _
      generalize (((((W3.setCell ⟨w.heap.size + 1 + 1 + 1, 0, none⟩ (.slice (r1).A (r1).n (r1).c)).setCell ⟨w.heap.size + 1 + 1 + 1, 1, none⟩ (.int .i64 (r1).R)).setCell ⟨w.heap.size + 1 + 1 + 1, 2, none⟩ (.int .i64 (r1).C)).setCell ⟨w.heap.size + 1 + 1 + 1, 3, none⟩ (.slice (r1).A2 (r1).n2 (r1).c2)).setCell ⟨w.heap.size + 1 + 1 + 1, 4, none⟩ (.bool (r1).b)) = W4 at hgS DV DR D6 D7 hT hP hL bz ⊢
      clear hgS
      have D62 : Vbx W4 (w.heap.size + 2) V1 := D6
      have D72 : Rbx W4 (w.heap.size + 3) r1 := D7
      obtain ⟨v0, v1, v2, v3, v4, v5, v6, v7, v8⟩ := Vbx.cells D62
      obtain ⟨u0, u1, u2, u3, u4⟩ := Rbx.cells D72
      obtain ⟨y0, y1, y2, y3, y4, y5, y6, y7, y8⟩ := Vbx.cells D6
      obtain ⟨z0, z1, z2, z3, z4⟩ := Rbx.cells D7
      go_wp2_with fail
      refine bodyPost_ret (v := .tuple #[V1.V, Ru.V r1]) (by simp [results, Try.results28, go_sem, y0, y1, y2, y3, y4, y5, y6, y7, y8, z0, z1, z2, z3, z4, v0, v1, v2, v3, v4, v5, v6, v7, v8, u0, u1, u2, u3, u4]) rfl ?_
      rw [HV2.out]
      exact ⟨r1, rfl, hT, hP.more (pk_bd hm).2 (by omega), HW2.out, bz⟩
end
end Go.Proofs.Ytceoefgjjekgaaa
