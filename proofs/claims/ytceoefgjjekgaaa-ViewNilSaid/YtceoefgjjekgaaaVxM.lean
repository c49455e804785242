/-
  Layer 7, walks: the reference's Of. (Written by wip/tools/gen_vxm.py.)
-/
import Derived.Test.YtceoefgjjekgaaaVxL
namespace Go.Proofs.Ytceoefgjjekgaaa
open Go.RowKit Go.Bw Go.Sort Go.Shelf
set_option linter.unusedVariables false
set_option linter.unusedSimpArgs false

theorem Rbx.put {w : World} {g : Nat} {r : Ru} (h : Rbx w g r) (u : Ru) : Rbx (((((w.setCell ⟨g, 0, none⟩ (.slice u.A u.n u.c)).setCell ⟨g, 1, none⟩ (.int .i64 u.R)).setCell ⟨g, 2, none⟩ (.int .i64 u.C)).setCell ⟨g, 3, none⟩ (.slice u.A2 u.n2 u.c2)).setCell ⟨g, 4, none⟩ (.bool u.b)) g u := by
  have := ((((Blk.set_ h 0 (.slice u.A u.n u.c)).set_ 1 (.int .i64 u.R)).set_ 2 (.int .i64 u.C)).set_ 3 (.slice u.A2 u.n2 u.c2)).set_ 4 (.bool u.b)
  simpa using this
theorem Blk.far5 {w : World} {b g : Nat} {vs : List Value} (h : Blk w g vs) (hne : g ≠ b) (x0 x1 x2 x3 x4 : Value) : Blk (((((w.setCell ⟨b, 0, none⟩ x0).setCell ⟨b, 1, none⟩ x1).setCell ⟨b, 2, none⟩ x2).setCell ⟨b, 3, none⟩ x3).setCell ⟨b, 4, none⟩ x4) g vs :=
  ((((h.far (p := ⟨b, 0, none⟩) hne _).far (p := ⟨b, 1, none⟩) hne _).far (p := ⟨b, 2, none⟩) hne _).far (p := ⟨b, 3, none⟩) hne _).far (p := ⟨b, 4, none⟩) hne _
theorem OwnF.farB {w : World} {B cap b : Nat} {A : Option Addr} {l : List Int} (h : OwnF w B A cap l) (hA : ∀ a, A = some a → a.block ≠ b) (k : Nat) (u : Value) : OwnF (w.setCell ⟨b, k, none⟩ u) B A cap l := by
  rcases h with ⟨h1, h2⟩
  refine ⟨h1, h2.imp id fun ⟨g, cap, cur, hv, hg, hh, r⟩ => ⟨g, cap, cur, hv, hg, (Below.heap_setCell w ⟨b, k, none⟩ u g ?_).trans hh, r⟩⟩
  injection hv with e
  exact hA _ e
theorem OwnF.far5 {w : World} {B cap b : Nat} {A : Option Addr} {l : List Int} (h : OwnF w B A cap l) (hA : ∀ a, A = some a → a.block ≠ b) (x0 x1 x2 x3 x4 : Value) : OwnF (((((w.setCell ⟨b, 0, none⟩ x0).setCell ⟨b, 1, none⟩ x1).setCell ⟨b, 2, none⟩ x2).setCell ⟨b, 3, none⟩ x3).setCell ⟨b, 4, none⟩ x4) B A cap l :=
  ((((h.farB hA 0 _).farB hA 1 _).farB hA 2 _).farB hA 3 _).farB hA 4 _
theorem OwnF.grown_ {w w' : World} {B cap : Nat} {A : Option Addr} {l : List Int} {row : Option Nat} (h : OwnF w B A cap l) (hg : w.grownBy w' row) (hA : ∀ a, A = some a → some a.block ≠ row) : OwnF w' B A cap l := by
  rcases h with ⟨h1, h2⟩
  refine ⟨h1, h2.imp id fun ⟨g, cap, cur, hv, hgB, hh, r⟩ => ⟨g, cap, cur, hv, hgB, (hg.block g (lt_of_block hh) ?_).trans hh, r⟩⟩
  injection hv with e
  exact hA _ e
theorem setb_below {B : Nat} {w w' : World} {b : Nat} (h : Below B w w') (hb : B ≤ b) (x0 x1 x2 x3 x4 : Value) : Below B w (((((w'.setCell ⟨b, 0, none⟩ x0).setCell ⟨b, 1, none⟩ x1).setCell ⟨b, 2, none⟩ x2).setCell ⟨b, 3, none⟩ x3).setCell ⟨b, 4, none⟩ x4) :=
  ((((h.setCell (p := ⟨b, 0, none⟩) hb _).setCell (p := ⟨b, 1, none⟩) hb _).setCell (p := ⟨b, 2, none⟩) hb _).setCell (p := ⟨b, 3, none⟩) hb _).setCell (p := ⟨b, 4, none⟩) hb _

/-- the numbers from 0 on -/
def nums (n : Nat) : List Int := (List.range n).map fun k : Nat => (k : Int)
theorem nums_length (n : Nat) : (nums n).length = n := by simp [nums]
theorem nums_D {n k : Nat} (hk : k < n) : D (nums n) k = k := by rw [D_in (by rw [nums_length]; exact hk)]; simp [nums]
theorem all_ats (s : Nat) {R C : Int} {n : Nat} (R0 : 0 ≤ R) (C0 : 0 ≤ C) (hn : (n : Int) = R * C) : (Vu.all s R C).ats C.toNat = nums n := by
  unfold Vu.ats nums
  have e : ((Vu.all s R C).R * (Vu.all s R C).C).toNat = n := by show (R * C).toNat = n; omega
  rw [e]
  apply List.map_congr_left
  intro k hk
  rw [all_ix]
  unfold Vu.ei Vu.ej
  show (((k / C.toNat : Nat) : Int)) * ((C.toNat : Nat) : Int) + ((k % C.toNat : Nat) : Int) = k
  have := Nat.div_add_mod k C.toNat
  rw [Nat.mul_comm] at this
  exact_mod_cast this

/-- a new store of the reference, and a view of all of it -/
def NewO (w : World) (R C : Int) (n : Nat) (l : List Int) (e : Ending) (w' : World) : Prop := ∃ r A5 c5, e = .returned (Ru.V r) ∧ Sr w' w.heap.size A5 n c5 l ∧ (∀ s, Rk w' A5 n c5 r (Vu.all s R C) C.toNat) ∧ Below w.heap.size w w' ∧ ∀ a2, r.A2 = some a2 → w.heap.size ≤ a2.block ∧ a2.block < w'.heap.size

section
variable {w : World} {R C : Int} {A : Option Addr} {n c : Nat} {l : List Int}
set_option maxRecDepth 100000 in
set_option maxHeartbeats 8000000 in
theorem rOf_any (h : FL w A n c l) (hs : szB R C = true) (hl : (n : Int) = R * C) :
    Calls Try.prog 61 #[mV R C A n c] w (NewO w R C n l) := by
  have hmx := h.max
  obtain ⟨⟨R0, R1, C0, C1⟩, p0, p1⟩ := szB_bd hs
  have hn : n ≤ 262144 := by omega
  have HA := Lib.hid (show ∀ s, (Vu.all s R C).ats C.toNat = nums n from fun s => all_ats s R0 C0 hl)
  have HFL := Lib.hid (nums_length n)
  have HFD := Lib.hid (show ∀ k, k < n → D (nums n) k = k from fun k hk => nums_D hk)
  obtain ⟨F, hF⟩ : ∃ F, nums n = F := ⟨_, rfl⟩
  rw [hF] at HA HFL HFD
  clear hF hs hl p0 p1
  have DB := (Blk.new w [.int .i64 R, .int .i64 C, .slice A n c] 24).alloc (.cells Ru.zero.L.toArray 51)
  have DZ := Blk.new (w.alloc (.cells #[.int .i64 R, .int .i64 C, .slice A n c] 24)) Ru.zero.L 51
  have bz := ((Below.refl _ w).alloc (Nat.le_refl _) (.cells #[.int .i64 R, .int .i64 C, .slice A n c] 24)).alloc (by simp) (.cells Ru.zero.L.toArray 51)
  rw [World.size_alloc] at DZ
  have hsz : ((w.alloc (.cells #[.int .i64 R, .int .i64 C, .slice A n c] 24)).alloc (.cells Ru.zero.L.toArray 51)).heap.size = w.heap.size + 2 := by simp
  have h2 := h.on bz
  clear h
  go_enter Try.func61, Try.ntmps61
  go_wp2_with fail
  generalize (w.alloc (.cells #[.int .i64 R, .int .i64 C, .slice A n c] 24)).alloc (.cells Ru.zero.L.toArray 51) = W at DB DZ bz hsz h2 ⊢
  replace h2 : FL W.drew A n c l := h2
  replace DB := DB.drew
  replace DZ := DZ.drew
  replace bz := bz.drew
  have hsz2 : W.drew.heap.size = w.heap.size + 2 := hsz
  clear hsz
  refine wp_region_held_drew (S := fun w9 : World => Mbx w9 w.heap.size R C A n c) (by kernel_rfl) DB (fun hS => ?_)
  generalize W.drew = W at DB DZ bz hsz2 h2 hS ⊢
  refine wpAnyH_take (i := 0) (v := ?v0_1) rfl (by kernel_rfl) (by kernel_rfl) (by kernel_rfl) (fun _ _ _ h => h) (Or.inl ⟨by rfl, ?hy0_1⟩) (by assumption) ?rest0_1
  case hy0_1 => (intro w9 hSw; clear hSw; go_simp; try with_reducible rfl)
  try simp only [Act.put, List.setIfInBounds_toArray, List.set_cons_zero, List.set_cons_succ, List.getElem_toArray, List.getElem_cons_zero, List.getElem_cons_succ]
  refine wpAnyH_take (i := 1) (v := ?v1_2) rfl (by kernel_rfl) (by kernel_rfl) (by kernel_rfl) (fun _ _ _ h => h) (Or.inl ⟨by rfl, ?hy1_2⟩) (by assumption) ?rest1_2
  case hy1_2 => (intro w9 hSw; replace hSw : Mbx w9 w.heap.size R C A n c := hSw; obtain ⟨c0, c1, c2, f0, f1, f2⟩ := Mbx.cells hSw; go_simp; try with_reducible rfl)
  try simp only [Act.put, List.setIfInBounds_toArray, List.set_cons_zero, List.set_cons_succ, List.getElem_toArray, List.getElem_cons_zero, List.getElem_cons_succ]
  refine wpAnyH_take (i := 3) (v := ?v3_3) rfl (by kernel_rfl) (by kernel_rfl) (by kernel_rfl) (fun _ _ _ h => h) (Or.inl ⟨by rfl, ?hy3_3⟩) (by assumption) ?rest3_3
  case hy3_3 => (intro w9 hSw; clear hSw; go_simp; try with_reducible rfl)
  try simp only [Act.put, List.setIfInBounds_toArray, List.set_cons_zero, List.set_cons_succ, List.getElem_toArray, List.getElem_cons_zero, List.getElem_cons_succ]
  refine wpAnyH_take (i := 4) (v := ?v4_4) rfl (by kernel_rfl) (by kernel_rfl) (by kernel_rfl) (fun _ _ _ h => h) (Or.inl ⟨by rfl, ?hy4_4⟩) (by assumption) ?rest4_4
  case hy4_4 => (intro w9 hSw; replace hSw : Mbx w9 w.heap.size R C A n c := hSw; obtain ⟨c0, c1, c2, f0, f1, f2⟩ := Mbx.cells hSw; go_simp; try with_reducible rfl)
  try simp only [Act.put, List.setIfInBounds_toArray, List.set_cons_zero, List.set_cons_succ, List.getElem_toArray, List.getElem_cons_zero, List.getElem_cons_succ]
  refine wpAnyH_take (i := 5) (v := ?v5_5) rfl (by kernel_rfl) (by kernel_rfl) (by kernel_rfl) (fun _ _ _ h => h) (Or.inl ⟨by rfl, ?hy5_5⟩) (by assumption) ?rest5_5
  case hy5_5 => (intro w9 hSw; clear hSw; go_simp; try with_reducible rfl)
  try simp only [Act.put, List.setIfInBounds_toArray, List.set_cons_zero, List.set_cons_succ, List.getElem_toArray, List.getElem_cons_zero, List.getElem_cons_succ]
  refine wpAnyH_take (i := 6) (v := ?v6_6) rfl (by kernel_rfl) (by kernel_rfl) (by kernel_rfl) (fun _ _ _ h => h) (Or.inl ⟨by rfl, ?hy6_6⟩) (by assumption) ?rest6_6
  case hy6_6 => (intro w9 hSw; replace hSw : Mbx w9 w.heap.size R C A n c := hSw; obtain ⟨c0, c1, c2, f0, f1, f2⟩ := Mbx.cells hSw; go_simp; try with_reducible rfl)
  try simp only [Act.put, List.setIfInBounds_toArray, List.set_cons_zero, List.set_cons_succ, List.getElem_toArray, List.getElem_cons_zero, List.getElem_cons_succ]
  refine wpAnyH_ready (rs := [2, 8]) (by kernel_rfl) (by simp) ?_
  refine AllReadyH.cons rfl (fun K hK => ?_) (AllReadyH.cons rfl (fun K hK => ?_) AllReadyH.nil)
  · have hnil : OwnF W (w.heap.size + 2) none 0 [] := OwnF.nil _ _
    refine wp_appF _ _ _ (by rfl) (w.heap.size + 2) none 0 [] (by rfl) hnil _ A c l (by rw [h2.1]; rfl) h2.2.1 (by first | (rw [h2.1]; simp; omega) | (simp; rw [h2.1]; omega)) (by first | omega | (simp; omega)) ?_
    intro A5 c5 w4 hown hg hat
    try simp only [List.nil_append] at hown
    try simp only [List.nil_append] at hg
    try simp only [List.nil_append] at hat
    try simp only [List.nil_append]
    try rw [h2.1]
    have hz4 := hg.size
    replace DB := DB.grown hg (by simp [Value.ownBlock])
    replace DZ := DZ.grown hg (by simp [Value.ownBlock])
    replace bz := bz.grown hg bz.size (fun k e => by simp [Value.ownBlock] at e)
    have hAb : ∀ a, A5 = some a → w.heap.size + 2 ≤ a.block ∧ a.block < w4.heap.size := fun a e => hown.gt e
    refine hK.out _ _ DB (fun hH => ?_)
    clear hK K hS
    have hS := hH
    clear hH
    try simp only [Act.put, List.setIfInBounds_toArray, List.set_cons_zero, List.set_cons_succ, List.getElem_toArray, List.getElem_cons_zero, List.getElem_cons_succ]
    refine wpAnyH_take (i := 7) (v := ?v7_7) rfl (by kernel_rfl) (by kernel_rfl) (by kernel_rfl) (fun _ _ _ h => h) (Or.inl ⟨by rfl, ?hy7_7⟩) (by assumption) ?rest7_7
    case hy7_7 => (intro w9 hSw; clear hSw; go_simp; try with_reducible rfl)
    try simp only [Act.put, List.setIfInBounds_toArray, List.set_cons_zero, List.set_cons_succ, List.getElem_toArray, List.getElem_cons_zero, List.getElem_cons_succ]
    refine wpAnyH_ready (rs := [8]) (by kernel_rfl) (by simp) ?_
    refine AllReadyH.cons rfl (fun K hK => ?_) AllReadyH.nil
    go_simp
    have DO := Blk.new w4 Ru.zero.L 51
    replace DB := DB.alloc (.cells Ru.zero.L.toArray 51)
    replace DZ := DZ.alloc (.cells Ru.zero.L.toArray 51)
    replace bz := bz.alloc bz.size (.cells Ru.zero.L.toArray 51)
    replace hown := hown.alloc_ (.cells Ru.zero.L.toArray 51)
    have hz5 : (w4.alloc (.cells Ru.zero.L.toArray 51)).heap.size = w4.heap.size + 1 := by simp
    refine hK.out _ _ DB (fun hH => ?_)
    clear hK K hS
    have hS := hH
    clear hH
    try simp only [Act.put, List.setIfInBounds_toArray, List.set_cons_zero, List.set_cons_succ, List.getElem_toArray, List.getElem_cons_zero, List.getElem_cons_succ]
    generalize w4.alloc (.cells Ru.zero.L.toArray 51) = w5 at DO DB DZ bz hown hz5 hS ⊢
    obtain ⟨b, hb⟩ : ∃ b, w4.heap.size = b := ⟨_, rfl⟩
    rw [hb] at DO hz5 ⊢
    replace hAb : ∀ a, A5 = some a → a.block ≠ b ∧ w.heap.size + 2 ≤ a.block ∧ a.block < w5.heap.size := fun a e => by have := hAb a e; omega
    have hbb : w.heap.size + 2 ≤ b ∧ b < w5.heap.size := by omega
    clear hb hz5 hz4 hsz2 hg hat hnil
    obtain ⟨o0, o1, o2, o3, o4⟩ := Rbx.cells DO
    obtain ⟨p0, p1, p2, p3, p4⟩ := Rbx.free DO
    refine wpAnyH_ready (rs := [9]) (by kernel_rfl) (by simp) ?_
    refine AllReadyH.cons rfl (fun K hK => ?_) AllReadyH.nil
    go_simp
    clear o0 o1 o2 o3 o4 p0 p1 p2 p3 p4
    have DO := Rbx.put DO ⟨A5, n, c5, R, C, none, 0, 0, true⟩
    replace DB := DB.far5 (b := b) (by omega) (.slice A5 n c5) (.int .i64 R) (.int .i64 C) (.slice none 0 0) (.bool true)
    replace DZ := DZ.far5 (b := b) (by omega) (.slice A5 n c5) (.int .i64 R) (.int .i64 C) (.slice none 0 0) (.bool true)
    replace bz := setb_below bz (b := b) (by omega) (.slice A5 n c5) (.int .i64 R) (.int .i64 C) (.slice none 0 0) (.bool true)
    replace hown := hown.far5 (b := b) (fun a e => (hAb a e).1) (.slice A5 n c5) (.int .i64 R) (.int .i64 C) (.slice none 0 0) (.bool true)
    have hzz : ∀ W6 : World, W6 = (((((w5.setCell ⟨b, 0, none⟩ (.slice A5 n c5)).setCell ⟨b, 1, none⟩ (.int .i64 R)).setCell ⟨b, 2, none⟩ (.int .i64 C)).setCell ⟨b, 3, none⟩ (.slice none 0 0)).setCell ⟨b, 4, none⟩ (.bool true)) → W6.heap.size = w5.heap.size := fun W6 e => by rw [e]; simp only [World.size_setCell]
    refine hK.out _ _ DB (fun hH => ?_)
    clear hK K hS
    have hS := hH
    clear hH
    try simp only [Act.put, List.setIfInBounds_toArray, List.set_cons_zero, List.set_cons_succ, List.getElem_toArray, List.getElem_cons_zero, List.getElem_cons_succ]
    refine wpAnyH_done (by kernel_rfl) ?_ _
    generalize hW6 : (((((w5.setCell ⟨b, 0, none⟩ (.slice A5 n c5)).setCell ⟨b, 1, none⟩ (.int .i64 R)).setCell ⟨b, 2, none⟩ (.int .i64 C)).setCell ⟨b, 3, none⟩ (.slice none 0 0)).setCell ⟨b, 4, none⟩ (.bool true)) = w6 at DO DB DZ bz hown hS ⊢
    have hz6 := hzz _ hW6.symm
    clear hzz hW6 hS
    go_wp2_with fail
    obtain ⟨H, hH⟩ : ∃ H, w6.heap.size = H := ⟨_, rfl⟩
    have hbH : b < H ∧ ∀ a, A5 = some a → a.block < H := ⟨by omega, fun a e => by have := (hAb a e).2.2; omega⟩
    have HS := Lib.hid (show w6.heap.size = H from hH)
    clear hH hz6
    go_loopw [4] (fun i wr => ∃ (k : Nat) (A3 : Option Addr) (c3 : Nat), k ≤ n ∧ i = .int .i64 k ∧ OwnI wr H A3 c3 (F.take k) ∧ Rbx wr b ⟨A5, n, c5, R, C, A3, k, c3, true⟩ ∧ Mbx wr w.heap.size R C A n c ∧ Rbx wr (w.heap.size + 1) Ru.zero ∧ OwnF wr (w.heap.size + 2) A5 c5 l ∧ Below w.heap.size w wr ∧ H ≤ wr.heap.size) (fun i _ => n - (intOf i).toNat)
    case atStart => exact ⟨0, none, 0, Nat.zero_le _, rfl, OwnI.nil _ _, DO, DB, DZ, hown, bz, by rw [HS.out]; exact Nat.le_refl _⟩
    case round =>
      clear DO DB DZ hown bz
      obtain ⟨k, A3, c3, hk, rfl, ho, DO, DB, DZ, hown, bz, hsz⟩ := hrel
      have hlk : (F.take k).length = k := by rw [List.length_take, HFL.out]; omega
      obtain ⟨q0, q1, q2, qf0, qf1, qf2⟩ := Mbx.cells DB
      obtain ⟨o0, o1, o2, o3, o4⟩ := Rbx.cells DO
      by_cases hlt : k < n
      · have HT := Lib.hid (take_next (l := F) (k := k) (by rw [HFL.out]; exact hlt))
        rw [HFD.out k hlt] at HT
        obtain ⟨L, hL⟩ : ∃ L, F.take k = L := ⟨_, rfl⟩
        rw [hL] at ho hlk HT
        clear hL
        have i0 : (0 : Int) ≤ k := by omega
        have i1 : (k : Int) < n := by omega
        subst hlk
        obtain ⟨o, hoe⟩ : ∃ o, Obj.cells #[.int .i64 (L.length : Int)] 3 = o := ⟨_, rfl⟩
        have hsrc : NumI (wr.alloc o) (wr.heap.size + 1) (some ⟨wr.heap.size, 0, none⟩) 1 [(L.length : Int)] := by
          have := (RowI.one wr (L.length : Int)).nums (B := wr.heap.size + 1) (c := 1) 0 1 (by simp) (by omega) (by unfold maxLen; omega) (by simp)
          rw [← hoe]
          simpa using this
        have hown1 : OwnI (wr.alloc o) H A3 c3 L := ho.alloc_ o
        have DO1 := DO.alloc o
        have DB1 := DB.alloc o
        have DZ1 := DZ.alloc o
        have hF1 := hown.alloc_ o
        have bz1 := bz.alloc (by omega) o
        obtain ⟨v0, v1, v2, v3, v4⟩ := Rbx.cells DO1
        have HK := Lib.hid (show ∀ w4, (wr.alloc o).grownBy w4 (Value.slice A3 L.length c3).ownBlock → Rbx w4 b ⟨A5, n, c5, R, C, A3, L.length, c3, true⟩ ∧ Mbx w4 w.heap.size R C A n c ∧ Rbx w4 (w.heap.size + 1) Ru.zero ∧ OwnF w4 (w.heap.size + 2) A5 c5 l ∧ Below w.heap.size w w4 ∧ H ≤ w4.heap.size from fun w4 hg => by
          have hlo : ∀ g, (Value.slice A3 L.length c3).ownBlock = some g → H ≤ g := fun g hk => (World.ownsRow.lt hown1 g hk).1
          refine ⟨DO1.grown hg (fun e => ?_), DB1.grown hg (fun e => ?_), DZ1.grown hg (fun e => ?_), hF1.grown_ hg (fun a e1 e => ?_), below_appI bz1 (hown1.less (by omega)) hg (by simp; omega), ?_⟩
          · have := hlo _ e.symm; omega
          · have := hlo _ e.symm; omega
          · have := hlo _ e.symm; omega
          · have := hlo _ e.symm; have := hbH.2 a e1; omega
          · have := hg.size; simp at this; omega)
        subst hoe
        go_wp2_with (at_builtin; go_loud (refine wpList_appI _ rfl _ _ rfl H A3 c3 L rfl hown1 _ (some ⟨wr.heap.size, 0, none⟩) 1 [(L.length : Int)] rfl hsrc (by simp; omega) (by simp; omega) ?_; intro A4 c4 w4 hown4 hg hat; obtain ⟨hO4, hB4, hZ4, hF4, hb4, hs4⟩ := HK.out _ hg; obtain ⟨x0, x1, x2, x3, x4⟩ := Rbx.cells hO4; obtain ⟨y0, y1, y2, y3, y4⟩ := Rbx.free hO4))
        go_roundw
        case rel => exact ⟨L.length + 1, A4, c4, by omega, by go_num, by rw [HT.out]; exact hown4.farC (by simp; omega) _, by have := Blk.set_ hO4 3 (.slice A4 (L.length + 1) c4); simpa using this, hB4.far (p := ⟨b, 3, none⟩) (by simp; omega) _, hZ4.far (p := ⟨b, 3, none⟩) (by simp; omega) _, hF4.farB (fun a e => (hAb a e).1) 3 _, hb4.setCell (p := ⟨b, 3, none⟩) (by simp; omega) _, by simp; omega⟩
        case measure => simp [intOf]; omega
      · obtain rfl : k = n := by omega
        obtain ⟨z0, z1, z2, z3, z4⟩ := Rbx.cells DZ
        obtain ⟨y0, y1, y2, y3, y4⟩ := Rbx.free DZ
        go_wp2_with fail
        refine bodyPost_ret (v := Ru.V ⟨A5, k, c5, R, C, A3, k, c3, true⟩) (by simp [results, Try.results61, go_sem, z0, z1, z2, z3, z4, y0, y1, y2, y3, y4]) rfl ?_
        rw [List.take_of_length_le (by rw [HFL.out]; exact Nat.le_refl _)] at ho
        have hA5 : ∀ a, A5 = some a → a.block ≠ w.heap.size + 1 := fun a e => by have := (hAb a e).2.1; omega
        have ho5 : OwnI _ H A3 c3 F := ((((ho.farC (p := ⟨w.heap.size + 1, 0, none⟩) (by simp; omega) (.slice A5 k c5)).farC (p := ⟨w.heap.size + 1, 1, none⟩) (by simp; omega) (.int .i64 R)).farC (p := ⟨w.heap.size + 1, 2, none⟩) (by simp; omega) (.int .i64 C)).farC (p := ⟨w.heap.size + 1, 3, none⟩) (by simp; omega) (.slice A3 k c3)).farC (p := ⟨w.heap.size + 1, 4, none⟩) (by simp; omega) (.bool true)
        refine ⟨_, A5, c5, rfl, ⟨(hown.far5 (b := w.heap.size + 1) hA5 _ _ _ _ _).less (by omega), h2.1, h2.2.2⟩, fun s => ⟨rfl, rfl, rfl, ?_, ?_, ?_, fun _ => ⟨rfl, rfl, rfl⟩, fun e => by simp at e⟩, setb_below bz (by omega) _ _ _ _ _, fun a2 e2 => ⟨by have := (ho.gt e2).1; omega, (ho5.gt e2).2⟩⟩
        · rw [HA.out]; exact ho5.nums
        · rw [HA.out, HFL.out]
        · intro a a2 ea e2
          have h1 := hbH.2 a ea
          have h2 := (ho.gt e2).1
          omega
  · go_simp
    have DO := Blk.new W Ru.zero.L 51
    replace DB := DB.alloc (.cells Ru.zero.L.toArray 51)
    replace DZ := DZ.alloc (.cells Ru.zero.L.toArray 51)
    replace bz := bz.alloc bz.size (.cells Ru.zero.L.toArray 51)
    replace h2 := h2.alloc (.cells Ru.zero.L.toArray 51)
    have hz5 : (W.alloc (.cells Ru.zero.L.toArray 51)).heap.size = w.heap.size + 3 := by simp; omega
    refine hK.out _ _ DB (fun hH => ?_)
    clear hK K hS
    have hS := hH
    clear hH
    try simp only [Act.put, List.setIfInBounds_toArray, List.set_cons_zero, List.set_cons_succ, List.getElem_toArray, List.getElem_cons_zero, List.getElem_cons_succ]
    generalize W.alloc (.cells Ru.zero.L.toArray 51) = W5 at DO DB DZ bz h2 hz5 hS ⊢
    obtain ⟨b, hb⟩ : ∃ b, w.heap.size + 2 = b := ⟨_, rfl⟩
    rw [hsz2, hb] at DO
    rw [hb]
    refine wpAnyH_ready (rs := [2]) (by kernel_rfl) (by simp) ?_
    refine AllReadyH.cons rfl (fun K hK => ?_) AllReadyH.nil
    have hnil : OwnF W5 (w.heap.size + 3) none 0 [] := OwnF.nil _ _
    refine wp_appF _ _ _ (by rfl) (w.heap.size + 3) none 0 [] (by rfl) hnil _ A c l (by rw [h2.1]; rfl) h2.2.1 (by first | (rw [h2.1]; simp; omega) | (simp; rw [h2.1]; omega)) (by first | omega | (simp; omega)) ?_
    intro A5 c5 w4 hown hg hat
    try simp only [List.nil_append] at hown
    try simp only [List.nil_append] at hg
    try simp only [List.nil_append] at hat
    try simp only [List.nil_append]
    try rw [h2.1]
    have hz4 := hg.size
    replace DB := DB.grown hg (by simp [Value.ownBlock])
    replace DZ := DZ.grown hg (by simp [Value.ownBlock])
    replace bz := bz.grown hg bz.size (fun k e => by simp [Value.ownBlock] at e)
    have hAb : ∀ a, A5 = some a → w.heap.size + 3 ≤ a.block ∧ a.block < w4.heap.size := fun a e => hown.gt e
    replace DO := DO.grown hg (by simp [Value.ownBlock])
    refine hK.out _ _ DB (fun hH => ?_)
    clear hK K hS
    have hS := hH
    clear hH
    try simp only [Act.put, List.setIfInBounds_toArray, List.set_cons_zero, List.set_cons_succ, List.getElem_toArray, List.getElem_cons_zero, List.getElem_cons_succ]
    refine wpAnyH_take (i := 7) (v := ?v7_8) rfl (by kernel_rfl) (by kernel_rfl) (by kernel_rfl) (fun _ _ _ h => h) (Or.inl ⟨by rfl, ?hy7_8⟩) (by assumption) ?rest7_8
    case hy7_8 => (intro w9 hSw; clear hSw; go_simp; try with_reducible rfl)
    try simp only [Act.put, List.setIfInBounds_toArray, List.set_cons_zero, List.set_cons_succ, List.getElem_toArray, List.getElem_cons_zero, List.getElem_cons_succ]
    replace hAb : ∀ a, A5 = some a → a.block ≠ b ∧ w.heap.size + 2 ≤ a.block ∧ a.block < w4.heap.size := fun a e => by have := hAb a e; omega
    have hbb : w.heap.size + 2 ≤ b ∧ b < w4.heap.size := by omega
    replace hown := hown.less (B' := w.heap.size + 2) (by omega)
    clear hb hz5 hz4 hsz2 hg hat hnil
    obtain ⟨o0, o1, o2, o3, o4⟩ := Rbx.cells DO
    obtain ⟨p0, p1, p2, p3, p4⟩ := Rbx.free DO
    refine wpAnyH_ready (rs := [9]) (by kernel_rfl) (by simp) ?_
    refine AllReadyH.cons rfl (fun K hK => ?_) AllReadyH.nil
    go_simp
    clear o0 o1 o2 o3 o4 p0 p1 p2 p3 p4
    have DO := Rbx.put DO ⟨A5, n, c5, R, C, none, 0, 0, true⟩
    replace DB := DB.far5 (b := b) (by omega) (.slice A5 n c5) (.int .i64 R) (.int .i64 C) (.slice none 0 0) (.bool true)
    replace DZ := DZ.far5 (b := b) (by omega) (.slice A5 n c5) (.int .i64 R) (.int .i64 C) (.slice none 0 0) (.bool true)
    replace bz := setb_below bz (b := b) (by omega) (.slice A5 n c5) (.int .i64 R) (.int .i64 C) (.slice none 0 0) (.bool true)
    replace hown := hown.far5 (b := b) (fun a e => (hAb a e).1) (.slice A5 n c5) (.int .i64 R) (.int .i64 C) (.slice none 0 0) (.bool true)
    have hzz : ∀ W6 : World, W6 = (((((w4.setCell ⟨b, 0, none⟩ (.slice A5 n c5)).setCell ⟨b, 1, none⟩ (.int .i64 R)).setCell ⟨b, 2, none⟩ (.int .i64 C)).setCell ⟨b, 3, none⟩ (.slice none 0 0)).setCell ⟨b, 4, none⟩ (.bool true)) → W6.heap.size = w4.heap.size := fun W6 e => by rw [e]; simp only [World.size_setCell]
    refine hK.out _ _ DB (fun hH => ?_)
    clear hK K hS
    have hS := hH
    clear hH
    try simp only [Act.put, List.setIfInBounds_toArray, List.set_cons_zero, List.set_cons_succ, List.getElem_toArray, List.getElem_cons_zero, List.getElem_cons_succ]
    refine wpAnyH_done (by kernel_rfl) ?_ _
    generalize hW6 : (((((w4.setCell ⟨b, 0, none⟩ (.slice A5 n c5)).setCell ⟨b, 1, none⟩ (.int .i64 R)).setCell ⟨b, 2, none⟩ (.int .i64 C)).setCell ⟨b, 3, none⟩ (.slice none 0 0)).setCell ⟨b, 4, none⟩ (.bool true)) = w6 at DO DB DZ bz hown hS ⊢
    have hz6 := hzz _ hW6.symm
    clear hzz hW6 hS
    go_wp2_with fail
    obtain ⟨H, hH⟩ : ∃ H, w6.heap.size = H := ⟨_, rfl⟩
    have hbH : b < H ∧ ∀ a, A5 = some a → a.block < H := ⟨by omega, fun a e => by have := (hAb a e).2.2; omega⟩
    have HS := Lib.hid (show w6.heap.size = H from hH)
    clear hH hz6
    go_loopw [4] (fun i wr => ∃ (k : Nat) (A3 : Option Addr) (c3 : Nat), k ≤ n ∧ i = .int .i64 k ∧ OwnI wr H A3 c3 (F.take k) ∧ Rbx wr b ⟨A5, n, c5, R, C, A3, k, c3, true⟩ ∧ Mbx wr w.heap.size R C A n c ∧ Rbx wr (w.heap.size + 1) Ru.zero ∧ OwnF wr (w.heap.size + 2) A5 c5 l ∧ Below w.heap.size w wr ∧ H ≤ wr.heap.size) (fun i _ => n - (intOf i).toNat)
    case atStart => exact ⟨0, none, 0, Nat.zero_le _, rfl, OwnI.nil _ _, DO, DB, DZ, hown, bz, by rw [HS.out]; exact Nat.le_refl _⟩
    case round =>
      clear DO DB DZ hown bz
      obtain ⟨k, A3, c3, hk, rfl, ho, DO, DB, DZ, hown, bz, hsz⟩ := hrel
      have hlk : (F.take k).length = k := by rw [List.length_take, HFL.out]; omega
      obtain ⟨q0, q1, q2, qf0, qf1, qf2⟩ := Mbx.cells DB
      obtain ⟨o0, o1, o2, o3, o4⟩ := Rbx.cells DO
      by_cases hlt : k < n
      · have HT := Lib.hid (take_next (l := F) (k := k) (by rw [HFL.out]; exact hlt))
        rw [HFD.out k hlt] at HT
        obtain ⟨L, hL⟩ : ∃ L, F.take k = L := ⟨_, rfl⟩
        rw [hL] at ho hlk HT
        clear hL
        have i0 : (0 : Int) ≤ k := by omega
        have i1 : (k : Int) < n := by omega
        subst hlk
        obtain ⟨o, hoe⟩ : ∃ o, Obj.cells #[.int .i64 (L.length : Int)] 3 = o := ⟨_, rfl⟩
        have hsrc : NumI (wr.alloc o) (wr.heap.size + 1) (some ⟨wr.heap.size, 0, none⟩) 1 [(L.length : Int)] := by
          have := (RowI.one wr (L.length : Int)).nums (B := wr.heap.size + 1) (c := 1) 0 1 (by simp) (by omega) (by unfold maxLen; omega) (by simp)
          rw [← hoe]
          simpa using this
        have hown1 : OwnI (wr.alloc o) H A3 c3 L := ho.alloc_ o
        have DO1 := DO.alloc o
        have DB1 := DB.alloc o
        have DZ1 := DZ.alloc o
        have hF1 := hown.alloc_ o
        have bz1 := bz.alloc (by omega) o
        obtain ⟨v0, v1, v2, v3, v4⟩ := Rbx.cells DO1
        have HK := Lib.hid (show ∀ w4, (wr.alloc o).grownBy w4 (Value.slice A3 L.length c3).ownBlock → Rbx w4 b ⟨A5, n, c5, R, C, A3, L.length, c3, true⟩ ∧ Mbx w4 w.heap.size R C A n c ∧ Rbx w4 (w.heap.size + 1) Ru.zero ∧ OwnF w4 (w.heap.size + 2) A5 c5 l ∧ Below w.heap.size w w4 ∧ H ≤ w4.heap.size from fun w4 hg => by
          have hlo : ∀ g, (Value.slice A3 L.length c3).ownBlock = some g → H ≤ g := fun g hk => (World.ownsRow.lt hown1 g hk).1
          refine ⟨DO1.grown hg (fun e => ?_), DB1.grown hg (fun e => ?_), DZ1.grown hg (fun e => ?_), hF1.grown_ hg (fun a e1 e => ?_), below_appI bz1 (hown1.less (by omega)) hg (by simp; omega), ?_⟩
          · have := hlo _ e.symm; omega
          · have := hlo _ e.symm; omega
          · have := hlo _ e.symm; omega
          · have := hlo _ e.symm; have := hbH.2 a e1; omega
          · have := hg.size; simp at this; omega)
        subst hoe
        go_wp2_with (at_builtin; go_loud (refine wpList_appI _ rfl _ _ rfl H A3 c3 L rfl hown1 _ (some ⟨wr.heap.size, 0, none⟩) 1 [(L.length : Int)] rfl hsrc (by simp; omega) (by simp; omega) ?_; intro A4 c4 w4 hown4 hg hat; obtain ⟨hO4, hB4, hZ4, hF4, hb4, hs4⟩ := HK.out _ hg; obtain ⟨x0, x1, x2, x3, x4⟩ := Rbx.cells hO4; obtain ⟨y0, y1, y2, y3, y4⟩ := Rbx.free hO4))
        go_roundw
        case rel => exact ⟨L.length + 1, A4, c4, by omega, by go_num, by rw [HT.out]; exact hown4.farC (by simp; omega) _, by have := Blk.set_ hO4 3 (.slice A4 (L.length + 1) c4); simpa using this, hB4.far (p := ⟨b, 3, none⟩) (by simp; omega) _, hZ4.far (p := ⟨b, 3, none⟩) (by simp; omega) _, hF4.farB (fun a e => (hAb a e).1) 3 _, hb4.setCell (p := ⟨b, 3, none⟩) (by simp; omega) _, by simp; omega⟩
        case measure => simp [intOf]; omega
      · obtain rfl : k = n := by omega
        obtain ⟨z0, z1, z2, z3, z4⟩ := Rbx.cells DZ
        obtain ⟨y0, y1, y2, y3, y4⟩ := Rbx.free DZ
        go_wp2_with fail
        refine bodyPost_ret (v := Ru.V ⟨A5, k, c5, R, C, A3, k, c3, true⟩) (by simp [results, Try.results61, go_sem, z0, z1, z2, z3, z4, y0, y1, y2, y3, y4]) rfl ?_
        rw [List.take_of_length_le (by rw [HFL.out]; exact Nat.le_refl _)] at ho
        have hA5 : ∀ a, A5 = some a → a.block ≠ w.heap.size + 1 := fun a e => by have := (hAb a e).2.1; omega
        have ho5 : OwnI _ H A3 c3 F := ((((ho.farC (p := ⟨w.heap.size + 1, 0, none⟩) (by simp; omega) (.slice A5 k c5)).farC (p := ⟨w.heap.size + 1, 1, none⟩) (by simp; omega) (.int .i64 R)).farC (p := ⟨w.heap.size + 1, 2, none⟩) (by simp; omega) (.int .i64 C)).farC (p := ⟨w.heap.size + 1, 3, none⟩) (by simp; omega) (.slice A3 k c3)).farC (p := ⟨w.heap.size + 1, 4, none⟩) (by simp; omega) (.bool true)
        refine ⟨_, A5, c5, rfl, ⟨(hown.far5 (b := w.heap.size + 1) hA5 _ _ _ _ _).less (by omega), h2.1, h2.2.2⟩, fun s => ⟨rfl, rfl, rfl, ?_, ?_, ?_, fun _ => ⟨rfl, rfl, rfl⟩, fun e => by simp at e⟩, setb_below bz (by omega) _ _ _ _ _, fun a2 e2 => ⟨by have := (ho.gt e2).1; omega, (ho5.gt e2).2⟩⟩
        · rw [HA.out]; exact ho5.nums
        · rw [HA.out, HFL.out]
        · intro a a2 ea e2
          have h1 := hbH.2 a ea
          have h2 := (ho.gt e2).1
          omega
end
end Go.Proofs.Ytceoefgjjekgaaa
