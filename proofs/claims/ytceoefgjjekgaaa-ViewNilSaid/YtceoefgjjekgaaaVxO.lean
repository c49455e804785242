/-
  Layer 7: both sides' stores and views together (plain words); the laws' open. (Written by wip/tools/gen_vxo.py.)
-/
import Derived.Test.YtceoefgjjekgaaaVxN
import Derived.Test.YtceoefgjjekgaaaVxM
namespace Go.Proofs.Ytceoefgjjekgaaa
open Go.RowKit Go.Bw Go.Sort Go.Shelf
set_option linter.unusedVariables false
set_option linter.unusedSimpArgs false

theorem set9_grown (W : World) (b : Nat) (x0 x1 x2 x3 x4 x5 x6 x7 x8 : Value) : W.grownBy (((((((((W.setCell ⟨b, 0, none⟩ x0).setCell ⟨b, 1, none⟩ x1).setCell ⟨b, 2, none⟩ x2).setCell ⟨b, 3, none⟩ x3).setCell ⟨b, 4, none⟩ x4).setCell ⟨b, 5, none⟩ x5).setCell ⟨b, 6, none⟩ x6).setCell ⟨b, 7, none⟩ x7).setCell ⟨b, 8, none⟩ x8) (some b) :=
  setb_grown (setb_grown (setb_grown (setb_grown (setb_grown (setb_grown (setb_grown (setb_grown (setb_grown (World.grownBy.refl W _) 0 x0) 1 x1) 2 x2) 3 x3) 4 x4) 5 x5) 6 x6) 7 x7) 8 x8
theorem set5_grown (W : World) (b : Nat) (x0 x1 x2 x3 x4 : Value) : W.grownBy (((((W.setCell ⟨b, 0, none⟩ x0).setCell ⟨b, 1, none⟩ x1).setCell ⟨b, 2, none⟩ x2).setCell ⟨b, 3, none⟩ x3).setCell ⟨b, 4, none⟩ x4) (some b) :=
  setb_grown (setb_grown (setb_grown (setb_grown (setb_grown (World.grownBy.refl W _) 0 x0) 1 x1) 2 x2) 3 x3) 4 x4

/-- a list of floats that lay below B -/
def FLo (w : World) (B : Nat) (A : Option Addr) (n c : Nat) (l : List Int) : Prop := l.length = n ∧ NumF w B A c l ∧ Wd l ∧ B ≤ w.heap.size
section
variable {w w' : World} {B s g cap c n cd b : Nat} {A : Option Addr} {l l2 : List Int} {r : Ru} {v : Vu} {K : Int} {row : Option Nat}
theorem FL.lo (h : FL w A n c l) : FLo w w.heap.size A n c l := ⟨h.1, h.2.1, h.2.2, Nat.le_refl _⟩
theorem FLo.fl (h : FLo w B A n c l) : FL w A n c l := ⟨h.1, h.2.1.more h.2.2.2, h.2.2.1⟩
theorem FLo.on (h : FLo w B A n c l) (hb : Below w.heap.size w w') : FLo w' B A n c l := ⟨h.1, h.2.1.keep (fun p hp => hb.cell (Nat.lt_of_lt_of_le hp h.2.2.2)), h.2.2.1, Nat.le_trans h.2.2.2 hb.size⟩
theorem FLo.grown (h : FLo w B A n c l) (hg : w.grownBy w' (some b)) (hb : B ≤ b) : FLo w' B A n c l := ⟨h.1, h.2.1.grown hg h.2.2.2 (fun k e => by cases e; exact hb), h.2.2.1, Nat.le_trans h.2.2.2 hg.size⟩
theorem FLo.grownR (h : FLo w B A n c l) (hg : w.grownBy w' row) (hb : ∀ k, row = some k → B ≤ k) : FLo w' B A n c l := ⟨h.1, h.2.1.grown hg h.2.2.2 hb, h.2.2.1, Nat.le_trans h.2.2.2 hg.size⟩
theorem FLo.drew (h : FLo w B A n c l) : FLo w.drew B A n c l := h

theorem Sr.grown (h : Sr w B A n cd l) (hg : w.grownBy w' row) (hA : ∀ a, A = some a → some a.block ≠ row) : Sr w' B A n cd l := ⟨h.own.grown_ hg hA, h.len, h.wd⟩
theorem Sr.drew (h : Sr w B A n cd l) : Sr w.drew B A n cd l := ⟨h.own, h.len, h.wd⟩
/-- a view of the reference stays where a block is written that its places don't lie in -/
theorem Rk.far2 (h : Rk w A n cd r v c) (hg : w.grownBy w' row) (hf : 0 < (v.ats c).length → ∀ a, r.A2 = some a → some a.block ≠ row) : Rk w' A n cd r v c := by
  rcases Nat.eq_zero_or_pos (v.ats c).length with h0 | h0
  · exact ⟨h.R, h.C, h.b, ⟨h.num.1, h.num.2.1, fun hn => by omega⟩, h.n2, h.far, h.data, h.zero⟩
  · exact h.far_ hg (hf h0)
theorem Rk.drew (h : Rk w A n cd r v c) : Rk w.drew A n cd r v c := ⟨h.R, h.C, h.b, h.num, h.n2, h.far, h.data, h.zero⟩
/-- where its places lie -/
theorem Rk.up (h : Rk w A n cd r v c) (h0 : 0 < (v.ats c).length) : ∀ a, r.A2 = some a → a.block < w.heap.size := fun a e => by
  obtain ⟨ad, e1, hb, _⟩ := h.num.2.2 h0
  rw [e] at e1
  cases e1
  exact hb

/-- the stores of both sides, apart from each other -/
structure Two (w : World) (B s g cap c n : Nat) (l l2 : List Int) (A : Option Addr) (cd : Nat) : Prop where
  st : St w B s g cap c l
  sr : Sr w B A n cd l2
  len : l.length = n
  ap : ∀ a, A = some a → a.block ≠ g ∧ a.block ≠ s
theorem Two.on (h : Two w B s g cap c n l l2 A cd) (hb : Below w.heap.size w w') : Two w' B s g cap c n l l2 A cd := ⟨h.st.on hb, h.sr.on hb, h.len, h.ap⟩
theorem Two.drew (h : Two w B s g cap c n l l2 A cd) : Two w.drew B s g cap c n l l2 A cd := ⟨h.st.drew, h.sr.drew, h.len, h.ap⟩
theorem Two.grown (h : Two w B s g cap c n l l2 A cd) (hg : w.grownBy w' (some b)) (h1 : s ≠ b) (h2 : g ≠ b) (h3 : ∀ a, A = some a → a.block ≠ b) : Two w' B s g cap c n l l2 A cd :=
  ⟨h.st.grown hg h1 h2, h.sr.grown hg (fun a e e2 => h3 a e (by injection e2)), h.len, h.ap⟩
/-- the program has written its store -/
theorem Two.left {l' : List Int} (h : Two w B s g cap c n l l2 A cd) (hs : St w' B s g cap c l') (hl : l'.length = l.length) (hg : w.grownBy w' (some g)) : Two w' B s g cap c n l' l2 A cd :=
  ⟨hs, h.sr.grown hg (fun a e e2 => (h.ap a e).1 (by injection e2)), by rw [hl]; exact h.len, h.ap⟩
/-- the reference has written its own -/
theorem Two.right {l' : List Int} (h : Two w B s g cap c n l l2 A cd) (hs : Sr w' B A n cd l') (hg : w.grownBy w' (A.map (·.block))) : Two w' B s g cap c n l l' A cd := by
  refine ⟨?_, hs, h.len, h.ap⟩
  cases A with
  | none => exact h.st.on ⟨hg.os, hg.tape, hg.output, hg.size, fun k hk => hg.block k hk (by simp)⟩
  | some a => exact h.st.grown hg (fun e => (h.ap a rfl).2 e.symm) (fun e => (h.ap a rfl).1 e.symm)
/-- a view of each side, of these stores, the same one -/
structure Pr (w : World) (s g c n : Nat) (A : Option Addr) (cd : Nat) (r : Ru) (v : Vu) (K : Int) : Prop where
  vk : Vk v s c n K
  rk : Rk w A n cd r v c
  fr : ∀ a2, r.A2 = some a2 → a2.block ≠ g
theorem Pr.on (h : Pr w s g c n A cd r v K) (hb : Below w.heap.size w w') : Pr w' s g c n A cd r v K := ⟨h.vk, h.rk.on hb, h.fr⟩
theorem Pr.drew (h : Pr w s g c n A cd r v K) : Pr w.drew s g c n A cd r v K := ⟨h.vk, h.rk.drew, h.fr⟩
theorem Pr.grown (h : Pr w s g c n A cd r v K) (hg : w.grownBy w' (some b)) (hf : 0 < (v.ats c).length → ∀ a, r.A2 = some a → a.block ≠ b) : Pr w' s g c n A cd r v K :=
  ⟨h.vk, h.rk.far2 hg (fun h0 a e e2 => hf h0 a e (by injection e2)), h.fr⟩
theorem Pr.left (h : Pr w s g c n A cd r v K) (hg : w.grownBy w' (some g)) : Pr w' s g c n A cd r v K := ⟨h.vk, h.rk.far_ hg (fun a e e2 => h.fr a e (by injection e2)), h.fr⟩
theorem Pr.right (h : Pr w s g c n A cd r v K) (hg : w.grownBy w' (A.map (·.block))) : Pr w' s g c n A cd r v K := ⟨h.vk, h.rk.wrote hg, h.fr⟩
theorem Pr.more {K2 : Int} (h : Pr w s g c n A cd r v K) (hk : K ≤ K2) (h2 : K2 ≤ 1099511627776) : Pr w s g c n A cd r v K2 := ⟨h.vk.more hk h2, h.rk, h.fr⟩

/-- what the laws' open answers, of a matrix that may be -/
def Opn (w : World) (R C : Int) (n : Nat) (l : List Int) (e : Ending) (w' : World) : Prop :=
  ∃ s g cap A5 c5 r, e = .returned (.tuple #[(Vu.all s R C).V, Ru.V r, .bool true]) ∧ Two w' w.heap.size s g cap C.toNat n l l A5 c5 ∧ Pr w' s g C.toNat n A5 c5 r (Vu.all s R C) 1 ∧ (∀ a2, r.A2 = some a2 → w.heap.size ≤ a2.block ∧ a2.block < w'.heap.size) ∧ Below w.heap.size w w'
end

section
variable {w : World} {R C : Int} {A : Option Addr} {n c : Nat} {l : List Int}
set_option maxRecDepth 100000 in
set_option maxHeartbeats 8000000 in
theorem open_yes (h : FL w A n c l) (hs : szB R C = true) (hl : (n : Int) = R * C) :
    Calls Try.prog 27 #[mV R C A n c] w (Opn w R C n l) := by
  have hmx := h.max
  have pO := fun (W : World) (hF : FLo W w.heap.size A n c l) => Of_yes hF.fl hs hl
  have pR := fun (W : World) (hF : FLo W w.heap.size A n c l) => rOf_any hF.fl hs hl
  obtain ⟨⟨R0, R1, C0, C1⟩, p0, p1⟩ := szB_bd hs
  have HV := Lib.hid (show ∀ s, Vk (Vu.all s R C) s C.toNat n 1 from fun s => all_vk s R0 R1 C0 C1 hl)
  have hll := h.1
  clear hs hl p0 p1
  have HB := Lib.hid (And.intro (And.intro R0 R1) (And.intro C0 C1))
  clear R0 R1 C0 C1
  have DM := ((Blk.new w [.int .i64 R, .int .i64 C, .slice A n c] 24).alloc (.cells Vu.zero.L.toArray 30)).alloc (.cells Ru.zero.L.toArray 51)
  have DV := (Blk.new (w.alloc (.cells #[.int .i64 R, .int .i64 C, .slice A n c] 24)) Vu.zero.L 30).alloc (.cells Ru.zero.L.toArray 51)
  have DR := Blk.new ((w.alloc (.cells #[.int .i64 R, .int .i64 C, .slice A n c] 24)).alloc (.cells Vu.zero.L.toArray 30)) Ru.zero.L 51
  rw [World.size_alloc] at DV
  rw [World.size_alloc, World.size_alloc] at DR
  have bz := (((Below.refl _ w).alloc (Nat.le_refl _) (.cells #[.int .i64 R, .int .i64 C, .slice A n c] 24)).alloc (by simp) (.cells Vu.zero.L.toArray 30)).alloc (by simp; omega) (.cells Ru.zero.L.toArray 51)
  have hF := h.lo.on bz
  have hsz : (((w.alloc (.cells #[.int .i64 R, .int .i64 C, .slice A n c] 24)).alloc (.cells Vu.zero.L.toArray 30)).alloc (.cells Ru.zero.L.toArray 51)).heap.size = w.heap.size + 3 := by simp
  clear h
  go_enter Try.func27, Try.ntmps27
  obtain ⟨c0, c1, c2, f0, f1, f2⟩ := Mbx.cells DM
  go_wp2_with fail
  clear c0 c1 c2 f0 f1 f2
  with_reducible refine (pO _ hF).mono ?_
  rintro e w1 ⟨s, g, cap, rfl, hst, hb⟩
  replace DM := DM.on hb
  replace DV := DV.on hb
  replace DR := DR.on hb
  replace hF := hF.on hb
  replace bz := bz.trans (hb.mono bz.size)
  rw [hsz] at hst
  clear hsz hb
  have hlo : w.heap.size + 3 ≤ s ∧ w.heap.size + 3 ≤ g := ⟨hst.lo, hst.gt.1⟩
  have hlt := And.intro hst.lt hst.gt.2
  have D5 := Blk.new w1 (Vu.all s R C).L 30
  obtain ⟨HD5, eHD5⟩ : ∃ H, w1.heap.size = H := ⟨_, rfl⟩
  rw [eHD5] at D5
  replace DM := DM.on ((Below.refl _ _).alloc (Nat.le_refl _) (.cells (Vu.all s R C).L.toArray 30))
  replace DV := DV.on ((Below.refl _ _).alloc (Nat.le_refl _) (.cells (Vu.all s R C).L.toArray 30))
  replace DR := DR.on ((Below.refl _ _).alloc (Nat.le_refl _) (.cells (Vu.all s R C).L.toArray 30))
  replace hF := hF.on ((Below.refl _ _).alloc (Nat.le_refl _) (.cells (Vu.all s R C).L.toArray 30))
  replace hst := hst.on ((Below.refl _ _).alloc (Nat.le_refl _) (.cells (Vu.all s R C).L.toArray 30))
  replace bz := bz.alloc bz.size (.cells (Vu.all s R C).L.toArray 30)
  have HHD5 := Lib.hid eHD5
  rw [eHD5] at hlt
  have hle : w.heap.size + 3 ≤ HD5 := by omega
  go_wp2_with fail
  with_reducible refine (num_any _ _).mono ?_
  rintro e v1 ⟨rfl, rfl⟩
  go_wp2_with fail
  generalize (w1.alloc (.cells (Vu.all s R C).L.toArray 30)) = W0 at DM DV DR hF hst D5 bz ⊢
  replace DM := DM.drew
  replace DV := DV.drew
  replace DR := DR.drew
  replace hF := hF.drew
  replace hst := hst.drew
  replace D5 := D5.drew
  replace bz := bz.drew
  refine wp_region_held_drew (S := fun w9 : World => Vbx w9 HD5 (Vu.all s R C) ∧ Mbx w9 w.heap.size R C A n c) (by kernel_rfl) ⟨D5, DM⟩ (fun hS => ?_)
  refine wpAnyH_take (i := 0) (v := ?v0_1) rfl (by kernel_rfl) (by kernel_rfl) (by kernel_rfl) (fun _ _ _ h => h) (Or.inl ⟨by rfl, ?hy0_1⟩) (by assumption) ?rest0_1
  case hy0_1 => (intro w9 hSw; obtain ⟨s1, s2⟩ := hSw; obtain ⟨k0, k1, k2, k3, k4, k5, k6, k7, k8⟩ := Vbx.cells s1; obtain ⟨c0, c1, c2, f0, f1, f2⟩ := Mbx.cells s2; go_simp; try with_reducible rfl)
  try simp only [Act.put, List.setIfInBounds_toArray, List.set_cons_zero, List.set_cons_succ, List.getElem_toArray, List.getElem_cons_zero, List.getElem_cons_succ]
  refine wpAnyH_take (i := 1) (v := ?v1_2) rfl (by kernel_rfl) (by kernel_rfl) (by kernel_rfl) (fun _ _ _ h => h) (Or.inl ⟨by rfl, ?hy1_2⟩) (by assumption) ?rest1_2
  case hy1_2 => (intro w9 hSw; obtain ⟨s1, s2⟩ := hSw; obtain ⟨k0, k1, k2, k3, k4, k5, k6, k7, k8⟩ := Vbx.cells s1; obtain ⟨c0, c1, c2, f0, f1, f2⟩ := Mbx.cells s2; go_simp; try with_reducible rfl)
  try simp only [Act.put, List.setIfInBounds_toArray, List.set_cons_zero, List.set_cons_succ, List.getElem_toArray, List.getElem_cons_zero, List.getElem_cons_succ]
  refine wpAnyH_ready (rs := [2]) (by kernel_rfl) (by simp) ?_
  refine AllReadyH.cons rfl (fun K hK => ?_) AllReadyH.nil
  go_simp
  have hz1 := bz.size
  have hz2 := hst.lt
  have hz3 := hst.gt.2
  have hz4 := D5.lt
  with_reducible refine (pR _ hF).mono ?_
  rintro e w2 ⟨r, A5, c5, rfl, hsr, hrk, hb, hlow⟩
  replace DM := DM.on hb
  replace DV := DV.on hb
  replace DR := DR.on hb
  replace hF := hF.on hb
  replace hst := hst.on hb
  replace D5 := D5.on hb
  replace bz := bz.trans (hb.mono bz.size)
  replace hrk := hrk s
  have hA5 : ∀ a, A5 = some a → a.block ≠ s ∧ a.block ≠ g ∧ w.heap.size + 3 ≤ a.block := fun a e => by have := (hsr.own.gt e).1; omega
  have hA2 : ∀ a, r.A2 = some a → a.block ≠ g ∧ w.heap.size + 3 ≤ a.block ∧ a.block < w2.heap.size := fun a e => by have := hlow a e; omega
  clear hb hlow hz2 hz3 hz4
  refine hK.out _ _ ⟨D5, DM⟩ (fun hH => ?_)
  clear hK K hS
  have hS := hH
  clear hH
  try simp only [Act.put, List.setIfInBounds_toArray, List.set_cons_zero, List.set_cons_succ, List.getElem_toArray, List.getElem_cons_zero, List.getElem_cons_succ]
  obtain ⟨fc0, fc1, fc2, fc3, fc4, fc5, fc6, fc7, fc8⟩ := Vbx.cells DV
  obtain ⟨fr0, fr1, fr2, fr3, fr4, fr5, fr6, fr7, fr8⟩ := Vbx.free DV
  refine wpAnyH_ready (rs := [3]) (by kernel_rfl) (by simp) ?_
  refine AllReadyH.cons rfl (fun K hK => ?_) AllReadyH.nil
  go_simp
  clear fc0 fr0 fc1 fr1 fc2 fr2 fc3 fr3 fc4 fr4 fc5 fr5 fc6 fr6 fc7 fr7 fc8 fr8
  have hgS := set9_grown w2 (w.heap.size + 1) (.pointer (Vu.all s R C).p) (.int .i64 (Vu.all s R C).f0) (.int .i64 (Vu.all s R C).f1) (.int .i64 (Vu.all s R C).d0) (.int .i64 (Vu.all s R C).d1) (.int .i64 (Vu.all s R C).r0) (.int .i64 (Vu.all s R C).r1) (.int .i64 (Vu.all s R C).R) (.int .i64 (Vu.all s R C).C)
  replace DV := Vbx.put DV (Vu.all s R C)
  replace DM := DM.grown hgS (by simp <;> omega)
  replace DR := DR.grown hgS (by simp <;> omega)
  replace hF := hF.grown hgS (by omega)
  replace hst := hst.grown hgS (by omega) (by omega)
  replace D5 := D5.grown hgS (by simp <;> omega)
  replace hsr := hsr.grown hgS (fun a e e2 => by have := hA5 a e; injection e2; omega)
  replace hrk := hrk.far2 hgS (fun _ a e e2 => by have := hA2 a e; injection e2; omega)
  replace bz := bz.grown hgS bz.size (fun k e => by cases e; omega)
  refine hK.out _ _ ⟨D5, DM⟩ (fun hH => ?_)
  clear hK K hS
  have hS := hH
  clear hH
  try simp only [Act.put, List.setIfInBounds_toArray, List.set_cons_zero, List.set_cons_succ, List.getElem_toArray, List.getElem_cons_zero, List.getElem_cons_succ]
  generalize (((((((((w2.setCell ⟨w.heap.size + 1, 0, none⟩ (.pointer (Vu.all s R C).p)).setCell ⟨w.heap.size + 1, 1, none⟩ (.int .i64 (Vu.all s R C).f0)).setCell ⟨w.heap.size + 1, 2, none⟩ (.int .i64 (Vu.all s R C).f1)).setCell ⟨w.heap.size + 1, 3, none⟩ (.int .i64 (Vu.all s R C).d0)).setCell ⟨w.heap.size + 1, 4, none⟩ (.int .i64 (Vu.all s R C).d1)).setCell ⟨w.heap.size + 1, 5, none⟩ (.int .i64 (Vu.all s R C).r0)).setCell ⟨w.heap.size + 1, 6, none⟩ (.int .i64 (Vu.all s R C).r1)).setCell ⟨w.heap.size + 1, 7, none⟩ (.int .i64 (Vu.all s R C).R)).setCell ⟨w.heap.size + 1, 8, none⟩ (.int .i64 (Vu.all s R C).C)) = W3 at hgS DM DV DR hF hst D5 hsr hrk bz ⊢
  have hz3s := hgS.size
  clear hgS hS
  have hS := And.intro D5 DM
  obtain ⟨fc0, fc1, fc2, fc3, fc4⟩ := Rbx.cells DR
  obtain ⟨fr0, fr1, fr2, fr3, fr4⟩ := Rbx.free DR
  refine wpAnyH_ready (rs := [4]) (by kernel_rfl) (by simp) ?_
  refine AllReadyH.cons rfl (fun K hK => ?_) AllReadyH.nil
  go_simp
  clear fc0 fr0 fc1 fr1 fc2 fr2 fc3 fr3 fc4 fr4
  have hgS := set5_grown W3 (w.heap.size + 2) (.slice (r).A (r).n (r).c) (.int .i64 (r).R) (.int .i64 (r).C) (.slice (r).A2 (r).n2 (r).c2) (.bool (r).b)
  replace DR := Rbx.put DR (r)
  replace DM := DM.grown hgS (by simp <;> omega)
  replace DV := DV.grown hgS (by simp <;> omega)
  replace hF := hF.grown hgS (by omega)
  replace hst := hst.grown hgS (by omega) (by omega)
  replace D5 := D5.grown hgS (by simp <;> omega)
  replace hsr := hsr.grown hgS (fun a e e2 => by have := hA5 a e; injection e2; omega)
  replace hrk := hrk.far2 hgS (fun _ a e e2 => by have := hA2 a e; injection e2; omega)
  replace bz := bz.grown hgS bz.size (fun k e => by cases e; omega)
  refine hK.out _ _ ⟨D5, DM⟩ (fun hH => ?_)
  clear hK K hS
  have hS := hH
  clear hH
  try simp only [Act.put, List.setIfInBounds_toArray, List.set_cons_zero, List.set_cons_succ, List.getElem_toArray, List.getElem_cons_zero, List.getElem_cons_succ]
  refine wpAnyH_take (i := 5) (v := ?v5_3) rfl (by kernel_rfl) (by kernel_rfl) (by kernel_rfl) (fun _ _ _ h => h) (Or.inl ⟨by rfl, ?hy5_3⟩) (by assumption) ?rest5_3
  case hy5_3 => (intro w9 hSw; clear hSw; go_simp; try with_reducible rfl)
  try simp only [Act.put, List.setIfInBounds_toArray, List.set_cons_zero, List.set_cons_succ, List.getElem_toArray, List.getElem_cons_zero, List.getElem_cons_succ]
  refine wpAnyH_done (by kernel_rfl) ?_ _
  generalize (((((W3.setCell ⟨w.heap.size + 2, 0, none⟩ (.slice (r).A (r).n (r).c)).setCell ⟨w.heap.size + 2, 1, none⟩ (.int .i64 (r).R)).setCell ⟨w.heap.size + 2, 2, none⟩ (.int .i64 (r).C)).setCell ⟨w.heap.size + 2, 3, none⟩ (.slice (r).A2 (r).n2 (r).c2)).setCell ⟨w.heap.size + 2, 4, none⟩ (.bool (r).b)) = W4 at hgS DM DV DR hF hst D5 hsr hrk bz hS ⊢
  have hzz := Nat.le_trans hz3s hgS.size
  clear hgS
  obtain ⟨y0, y1, y2, y3, y4, y5, y6, y7, y8⟩ := Vbx.cells DV
  obtain ⟨z0, z1, z2, z3, z4⟩ := Rbx.cells DR
  go_wp2_with fail
  refine bodyPost_ret (v := .tuple #[(Vu.all s R C).V, Ru.V r, .bool true]) (by simp [results, Try.results27, go_sem, y0, y1, y2, y3, y4, y5, y6, y7, y8, z0, z1, z2, z3, z4]) rfl ?_
  exact ⟨s, g, cap, A5, c5, r, rfl, ⟨⟨hst.box, hst.own.less (by omega), hst.ne, hst.wd, by omega, hst.len, hst.col⟩, ⟨hsr.own.less (by omega), hsr.len, hsr.wd⟩, hll, fun a e => ⟨(hA5 a e).2.1, (hA5 a e).1⟩⟩, ⟨HV.out s, hrk, fun a e => (hA2 a e).1⟩, fun a e => by have := (hA2 a e).2; have := hzz; omega, bz⟩
set_option maxRecDepth 100000 in
set_option maxHeartbeats 8000000 in
theorem open_no (h : FL w A n c l) (hs : mayB R C n = false) :
    Calls Try.prog 27 #[mV R C A n c] w (Ans w (.tuple #[Vu.zero.V, Ru.zero.V, .bool false])) := by
  have hmx := h.max
  have hs2 : szB R C = false ∨ (szB R C = true ∧ (n : Int) ≠ R * C) := by
    unfold mayB at hs
    cases h1 : szB R C
    · exact .inl rfl
    · rw [h1] at hs; exact .inr ⟨rfl, by simpa using hs⟩
  have pO := fun (W : World) (hF : FLo W w.heap.size A n c l) => Of_no hF.fl hs2
  clear hs hs2
  have DM := ((Blk.new w [.int .i64 R, .int .i64 C, .slice A n c] 24).alloc (.cells Vu.zero.L.toArray 30)).alloc (.cells Ru.zero.L.toArray 51)
  have DV := (Blk.new (w.alloc (.cells #[.int .i64 R, .int .i64 C, .slice A n c] 24)) Vu.zero.L 30).alloc (.cells Ru.zero.L.toArray 51)
  have DR := Blk.new ((w.alloc (.cells #[.int .i64 R, .int .i64 C, .slice A n c] 24)).alloc (.cells Vu.zero.L.toArray 30)) Ru.zero.L 51
  rw [World.size_alloc] at DV
  rw [World.size_alloc, World.size_alloc] at DR
  have bz := (((Below.refl _ w).alloc (Nat.le_refl _) (.cells #[.int .i64 R, .int .i64 C, .slice A n c] 24)).alloc (by simp) (.cells Vu.zero.L.toArray 30)).alloc (by simp; omega) (.cells Ru.zero.L.toArray 51)
  have hF := h.lo.on bz
  clear h
  obtain ⟨c0, c1, c2, f0, f1, f2⟩ := Mbx.cells DM
  go_enter Try.func27, Try.ntmps27
  go_wp2_with fail
  clear c0 c1 c2 f0 f1 f2
  with_reducible refine (pO _ hF).mono ?_
  rintro e w1 ⟨rfl, hb⟩
  replace DV := (DV.on hb).alloc (.cells Vu.zero.L.toArray 30)
  replace DR := (DR.on hb).alloc (.cells Vu.zero.L.toArray 30)
  replace bz := (bz.trans (hb.mono bz.size)).alloc (Nat.le_trans bz.size hb.size) (.cells Vu.zero.L.toArray 30)
  go_wp2_with fail
  with_reducible refine (num_any _ _).mono ?_
  rintro e v1 ⟨rfl, rfl⟩
  obtain ⟨y0, y1, y2, y3, y4, y5, y6, y7, y8⟩ := Vbx.cells DV
  obtain ⟨z0, z1, z2, z3, z4⟩ := Rbx.cells DR
  obtain ⟨p0, p1, p2, p3, p4, p5, p6, p7, p8⟩ := Vbx.free DV
  obtain ⟨q0, q1, q2, q3, q4⟩ := Rbx.free DR
  go_wp2_with fail
  refine bodyPost_ret (v := .tuple #[Vu.zero.V, Ru.zero.V, .bool false]) (by simp [results, Try.results27, go_sem, y0, y1, y2, y3, y4, y5, y6, y7, y8, z0, z1, z2, z3, z4, p0, p1, p2, p3, p4, p5, p6, p7, p8, q0, q1, q2, q3, q4]) rfl ?_
  exact ⟨rfl, by go_grown⟩
end
end Go.Proofs.Ytceoefgjjekgaaa
