/-
  Layer 5, walks: words taken to a matrix, by the program. (Written by wip/tools/gen_gui.py.)
-/
import Derived.Test.YtfaemgdeoamijaaGuH
namespace Go.Proofs.Ytfaemgdeoamijaa
open Go.RowKit Go.Bw
set_option linter.unusedVariables false
set_option linter.unusedSimpArgs false

def szB (m n : Int) : Bool := decide (0 ≤ m ∧ m ≤ 512 ∧ 0 ≤ n ∧ n ≤ 512)
theorem szB_bd {m n : Int} (h : szB m n = true) : (0 ≤ m ∧ m ≤ 512 ∧ 0 ≤ n ∧ n ≤ 512) ∧ 0 ≤ m * n ∧ m * n ≤ 262144 := by
  unfold szB at h
  have h := of_decide_eq_true h
  have h1 := Int.mul_nonneg h.1 h.2.2.1
  have h2 : m * n ≤ 512 * 512 := Int.mul_le_mul h.2.1 h.2.2.2 h.2.2.1 (by omega)
  exact ⟨h, h1, h2⟩
set_option maxHeartbeats 400000 in
theorem sized_any (m n : Int) (w : World) :
    Calls Try.prog 41 #[.int .i64 m, .int .i64 n] w (Ans w (.bool (szB m n))) := by
  obtain ⟨B, hB⟩ : ∃ B, szB m n = B := ⟨_, rfl⟩
  have HB := Lib.hid hB
  rw [hB]
  clear hB
  have close : ∀ b : Bool, b = decide (0 ≤ m ∧ m ≤ 512 ∧ 0 ≤ n ∧ n ≤ 512) → b = B := fun b h => by rw [h, ← HB.out]; rfl
  have C := Lib.hid close
  clear close
  by_cases c1 : 0 ≤ m
  · by_cases c2 : m ≤ 512
    · by_cases c3 : 0 ≤ n
      · go_enter Try.func41, Try.ntmps41
        go_wp2
        go_ret
        exact ⟨ret_bool (C.out _ (by simp [c1, c2, c3])), rfl⟩
      · go_enter Try.func41, Try.ntmps41
        go_wp2
        go_ret
        exact ⟨ret_bool (C.out _ (by simp; omega)), rfl⟩
    · go_enter Try.func41, Try.ntmps41
      go_wp2
      go_ret
      exact ⟨ret_bool (C.out _ (by simp; omega)), rfl⟩
  · go_enter Try.func41, Try.ntmps41
    go_wp2
    go_ret
    exact ⟨ret_bool (C.out _ (by simp; omega)), rfl⟩

/-- a matrix and a code are handed back -/
def MatC (code m n : Int) (l : List Int) (w : World) (e : Ending) (w' : World) : Prop :=
  ∃ A c, e = .returned (.tuple #[mV m n A l.length c, .int .i64 code]) ∧ FL w' A l.length c l ∧ Below w.heap.size w w'
theorem Blk.grown {w w' : World} {g : Nat} {vs : List Value} {row : Option Nat} (h : Blk w g vs) (hb : w.grownBy w' row) (hg : some g ≠ row) : Blk w' g vs := by
  obtain ⟨T, h⟩ := h
  exact ⟨T, (hb.block g (lt_of_block h) hg).trans h⟩
theorem Blk.drew {w : World} {g : Nat} {vs : List Value} (h : Blk w g vs) : Blk w.drew g vs := h
theorem below_drewN {B : Nat} {w w' : World} (h : Below B w w') (k : Nat) : Below B w (w'.drewN k) := ⟨h.os, h.tape, h.output, h.size, h.block⟩
theorem below_put {B g : Nat} {w w' : World} (h : Below B w w') (hg : B ≤ g) (u v r : Value) : Below B w (((w'.setCell ⟨g, 0, none⟩ u).setCell ⟨g, 1, none⟩ v).setCell ⟨g, 2, none⟩ r) :=
  ((h.setCell (p := ⟨g, 0, none⟩) hg _).setCell (p := ⟨g, 1, none⟩) hg _).setCell (p := ⟨g, 2, none⟩) hg _
theorem take_next {l : List Int} {k : Nat} (hk : k < l.length) : l.take (k + 1) = l.take k ++ [D l k] := by
  rw [List.take_add_one, D_in hk, List.getElem?_eq_getElem hk]; rfl
theorem OwnF.farC {w : World} {B : Nat} {A : Option Addr} {c : Nat} {l : List Int} (h : OwnF w B A c l) {p : Addr} (hp : p.block < B) (u : Value) : OwnF (w.setCell p u) B A c l := by
  rcases h with ⟨h1, h2⟩
  refine ⟨h1, h2.imp id fun ⟨g, cap, cur, hv, hg, hh, r⟩ => ⟨g, cap, cur, hv, hg, (Below.heap_setCell w p u g (by omega)).trans hh, r⟩⟩
/-- a row's list, as words -/
theorem OwnF.fl {w : World} {B : Nat} {A : Option Addr} {c : Nat} {l : List Int} (h : OwnF w B A c l) (hl : Wd l) : FL w A l.length c l := ⟨rfl, h.nums, hl⟩
theorem wd_take {l : List Int} (h : Wd l) (k : Nat) : Wd (l.take k) := fun x hx => h x (List.mem_of_mem_take hx)

section
variable {A : Option Addr} {len c : Nat} {m n : Int} {l : List Int} {w : World} {fv : Value} {B : Bool}
set_option maxHeartbeats 4000000 in
theorem take_bad (h : UL w A len c l) (hbad : szB m n = false ∨ (szB m n = true ∧ ((len : Int) ≠ m * n ∨ ((len : Int) = m * n ∧ l.all fin = false)))) :
    Calls Try.prog 31 #[.int .i64 m, .int .i64 n, .slice A len c, fv] w (MatC 1 0 0 [] w) := by
  have hlen := h.max
  have h2 := h.alloc (.cells #[.int .i64 0, .int .i64 0, .slice none 0 0] 26)
  have DB := Blk.new w [.int .i64 0, .int .i64 0, .slice none 0 0] 26
  obtain ⟨DB_0, DB_1, DB_2, DB_f0, DB_f1, DB_f2⟩ := Mbx.cells DB
  rcases hbad with hb | ⟨hs, hb | ⟨hb, hf⟩⟩
  · go_enter Try.func31, Try.ntmps31
    go_wp2_with (go_at_call 41; ((with_reducible refine (sized_any _ _ _).mono ?_); rintro e w1 ⟨rfl, rfl⟩))
    refine bodyPost_ret (v := .tuple #[mV 0 0 none 0 0, .int .i64 1]) (by simp [results, Try.results31, go_sem, DB_0, DB_1, DB_2, DB_f0, DB_f1, DB_f2]) rfl ?_
    exact ⟨none, 0, rfl, FL.nil _, by go_grown⟩
  · obtain ⟨⟨m0, m1, n0, n1⟩, p0, p1⟩ := szB_bd hs
    obtain ⟨P, hP⟩ : ∃ P, m * n = P := ⟨_, rfl⟩
    rw [hP] at hb p0 p1
    have hne : ((len : Int) != P) = true := by simp; omega
    clear hb
    go_enter Try.func31, Try.ntmps31
    go_wp2_with (go_at_call 41; ((with_reducible refine (sized_any _ _ _).mono ?_); rintro e w1 ⟨rfl, rfl⟩))
    refine bodyPost_ret (v := .tuple #[mV 0 0 none 0 0, .int .i64 1]) (by simp [results, Try.results31, go_sem, DB_0, DB_1, DB_2, DB_f0, DB_f1, DB_f2]) rfl ?_
    exact ⟨none, 0, rfl, FL.nil _, by go_grown⟩
  · obtain ⟨⟨m0, m1, n0, n1⟩, p0, p1⟩ := szB_bd hs
    obtain ⟨P, hP⟩ : ∃ P, m * n = P := ⟨_, rfl⟩
    rw [hP] at hb p0 p1
    have hne : ((len : Int) != P) = false := by simp; omega
    clear hb
    go_enter Try.func31, Try.ntmps31
    go_wp2_with (first
      | (go_at_call 41; ((with_reducible refine (sized_any _ _ _).mono ?_); rintro e w1 ⟨rfl, rfl⟩))
      | (go_at_call 43; ((with_reducible refine (all_fin h2).mono ?_); rintro e w1 ⟨rfl, rfl⟩)))
    refine bodyPost_ret (v := .tuple #[mV 0 0 none 0 0, .int .i64 1]) (by simp [results, Try.results31, go_sem, DB_0, DB_1, DB_2, DB_f0, DB_f1, DB_f2]) rfl ?_
    exact ⟨none, 0, rfl, FL.nil _, by go_grown⟩

set_option maxHeartbeats 4000000 in
theorem take_no (h : UL w A len c l) (hs : szB m n = true) (hlm : (len : Int) = m * n) (hf : l.all fin = true) {B : Bool}
    (HE : Hid (∀ W, Below w.heap.size w W → Calls Try.prog 44 #[.int .i64 m, .int .i64 n, fv] W (AnsD W (.bool B)))) (hb : B = false ∨ l.all inr = false) :
    Calls Try.prog 31 #[.int .i64 m, .int .i64 n, .slice A len c, fv] w (MatC (if B = false then 1 else 2) 0 0 [] w) := by
  have hlen := h.max
  have h2 := h.alloc (.cells #[.int .i64 0, .int .i64 0, .slice none 0 0] 26)
  have DB := Blk.new w [.int .i64 0, .int .i64 0, .slice none 0 0] 26
  obtain ⟨DB_0, DB_1, DB_2, DB_f0, DB_f1, DB_f2⟩ := Mbx.cells DB
  obtain ⟨⟨m0, m1, n0, n1⟩, p0, p1⟩ := szB_bd hs
  obtain ⟨P, hP⟩ : ∃ P, m * n = P := ⟨_, rfl⟩
  rw [hP] at hlm p0 p1
  have hne : ((len : Int) != P) = false := by simp; omega
  have hbel : Below w.heap.size w (w.alloc (.cells #[.int .i64 0, .int .i64 0, .slice none 0 0] 26)) := by go_grown
  have pe := HE.out (w.alloc (.cells #[.int .i64 0, .int .i64 0, .slice none 0 0] 26)) (by go_grown)
  clear hlm
  cases B
  · rw [if_pos rfl]
    go_enter Try.func31, Try.ntmps31
    go_wp2_with (first
      | (go_at_call 41; ((with_reducible refine (sized_any _ _ _).mono ?_); rintro e w1 ⟨rfl, rfl⟩))
      | (go_at_call 43; ((with_reducible refine (all_fin h2).mono ?_); rintro e w1 ⟨rfl, rfl⟩))
      | (go_at_call 44; ((with_reducible refine pe.mono ?_); rintro e w1 ⟨rfl, mm, rfl⟩)))
    refine bodyPost_ret (v := .tuple #[mV 0 0 none 0 0, .int .i64 1]) (by simp [results, Try.results31, go_sem, DB_0, DB_1, DB_2, DB_f0, DB_f1, DB_f2]) rfl ?_
    exact ⟨none, 0, rfl, FL.nil _, below_put (below_drewN hbel mm) (Nat.le_refl _) _ _ _⟩
  · have hi : l.all inr = false := by rcases hb with h | h; cases h; exact h
    rw [if_neg (by decide)]
    go_enter Try.func31, Try.ntmps31
    go_wp2_with (first
      | (go_at_call 41; ((with_reducible refine (sized_any _ _ _).mono ?_); rintro e w1 ⟨rfl, rfl⟩))
      | (go_at_call 43; ((with_reducible refine (all_fin h2).mono ?_); rintro e w1 ⟨rfl, rfl⟩))
      | (go_at_call 44; ((with_reducible refine pe.mono ?_); rintro e w1 ⟨rfl, mm, rfl⟩)) 
      | (go_at_call 43; ((with_reducible refine (all_inr (h2.drewN mm)).mono ?_); rintro e w1 ⟨rfl, rfl⟩)))
    refine bodyPost_ret (v := .tuple #[mV 0 0 none 0 0, .int .i64 2]) (by simp [results, Try.results31, go_sem, DB_0, DB_1, DB_2, DB_f0, DB_f1, DB_f2]) rfl ?_
    exact ⟨none, 0, rfl, FL.nil _, below_put (below_drewN hbel mm) (Nat.le_refl _) _ _ _⟩

set_option maxRecDepth 100000 in
set_option maxHeartbeats 8000000 in
theorem take_ok (h : UL w A len c l) (hs : szB m n = true) (hlm : (len : Int) = m * n) (hf : l.all fin = true) (hi : l.all inr = true)
    (HE : Hid (∀ W, Below w.heap.size w W → Calls Try.prog 44 #[.int .i64 m, .int .i64 n, fv] W (AnsD W (.bool true)))) :
    Calls Try.prog 31 #[.int .i64 m, .int .i64 n, .slice A len c, fv] w (MatC 0 m n l w) := by
  have hlen := h.max
  obtain ⟨⟨m0, m1, n0, n1⟩, p0, p1⟩ := szB_bd hs
  obtain ⟨P, hP⟩ : ∃ P, m * n = P := ⟨_, rfl⟩
  rw [hP] at hlm p0 p1
  have hne : ((len : Int) != P) = false := by simp; omega
  have hL : len ≤ 262144 := by omega
  have h2 := h.alloc (.cells #[.int .i64 0, .int .i64 0, .slice none 0 0] 26)
  have DB := Blk.new w [.int .i64 0, .int .i64 0, .slice none 0 0] 26
  have hbel : Below w.heap.size w (w.alloc (.cells #[.int .i64 0, .int .i64 0, .slice none 0 0] 26)) := by go_grown
  have pe := HE.out (w.alloc (.cells #[.int .i64 0, .int .i64 0, .slice none 0 0] 26)) (by go_grown)
  clear hlm
  go_enter Try.func31, Try.ntmps31
  go_wp2_with (first
    | (go_at_call 41; ((with_reducible refine (sized_any _ _ _).mono ?_); rintro e w1 ⟨rfl, rfl⟩))
    | (go_at_call 43; ((with_reducible refine (all_fin h2).mono ?_); rintro e w1 ⟨rfl, rfl⟩))
    | (go_at_call 44; ((with_reducible refine pe.mono ?_); rintro e w1 ⟨rfl, mm, rfl⟩)) 
    | (go_at_call 43; ((with_reducible refine (all_inr (h2.drewN mm)).mono ?_); rintro e w1 ⟨rfl, rfl⟩)))
  have DB2 := Blk.new ((w.alloc (.cells #[.int .i64 0, .int .i64 0, .slice none 0 0] 26)).drewN mm) [.int .i64 m, .int .i64 n, .slice none 0 0] 26
  replace DB2 : Mbx (((w.alloc (.cells #[.int .i64 0, .int .i64 0, .slice none 0 0] 26)).drewN mm).alloc (.cells #[.int .i64 m, .int .i64 n, .slice none 0 0] 26)) (w.heap.size + 1) m n none 0 0 := by simpa using DB2
  replace DB := (DB.drewN mm).alloc (.cells #[.int .i64 m, .int .i64 n, .slice none 0 0] 26)
  have bw : Below w.heap.size w (((w.alloc (.cells #[.int .i64 0, .int .i64 0, .slice none 0 0] 26)).drewN mm).alloc (.cells #[.int .i64 m, .int .i64 n, .slice none 0 0] 26)) := (below_drewN hbel mm).alloc (by simp) _
  have sz : (((w.alloc (.cells #[.int .i64 0, .int .i64 0, .slice none 0 0] 26)).drewN mm).alloc (.cells #[.int .i64 m, .int .i64 n, .slice none 0 0] 26)).heap.size = w.heap.size + 2 := by simp
  have hb2 := run_float64frombits
  go_loopw [47] (fun i wr => ∃ (k : Nat) (A2 : Option Addr) (c2 : Nat), k ≤ len ∧ i = .int .i64 k ∧ OwnF wr (w.heap.size + 2) A2 c2 (l.take k) ∧ Mbx wr (w.heap.size + 1) m n A2 k c2 ∧ Mbx wr w.heap.size 0 0 none 0 0 ∧ Below w.heap.size w wr ∧ w.heap.size + 2 ≤ wr.heap.size) (fun i _ => len - (intOf i).toNat)
  case atStart => exact ⟨0, none, 0, Nat.zero_le _, rfl, OwnF.nil _ _, DB2, DB, bw, by omega⟩
  case round =>
    clear DB DB2 bw sz pe h2 hbel
    obtain ⟨k, A2, c2, hk, rfl, ho, DA, DR, bw, hsz⟩ := hrel
    have hlk : (l.take k).length = k := by rw [List.length_take, h.1]; omega
    by_cases hlt : k < len
    · obtain ⟨ad, rfl, hadb, hc⟩ := (h.on bw).at_ hlt
      have hab : ad.block < w.heap.size := by
        obtain ⟨ad', e, hb', _⟩ := h.at_ hlt
        cases e; exact hb'
      obtain ⟨x0, x1⟩ := h.2.2.at_ k
      have hT := Lib.hid (take_next (l := l) (k := k) (by rw [h.1]; exact hlt))
      obtain ⟨X, hX⟩ : ∃ X, D l k = X := ⟨_, rfl⟩
      obtain ⟨C, hC⟩ : ∃ C, l.take k = C := ⟨_, rfl⟩
      rw [hX] at hc x0 x1 hT
      rw [hC] at ho hlk hT
      have HC := Lib.hid hC
      clear hX hC
      subst hlk
      have i0 : (0 : Int) ≤ C.length := by omega
      have i1 : (C.length : Int) < len := by omega
      obtain ⟨o, hoe⟩ : ∃ o, Obj.cells #[fV X] 37 = o := ⟨_, rfl⟩
      have hsrc : NumF (wr.alloc o).drew (wr.heap.size + 1) (some ⟨wr.heap.size, 0, none⟩) 1 [X] := by
        have := (RowF.one wr X).nums (B := wr.heap.size + 1) (c := 1) 0 1 (by simp) (by omega) (by unfold maxLen; omega) (by omega)
        rw [← hoe]
        have h9 : NumF (wr.alloc (Obj.cells #[fV X] 37)) (wr.heap.size + 1) (some ⟨wr.heap.size, 0, none⟩) 1 [X] := by simpa using this
        exact h9.drew
      have hown1 : OwnF (wr.alloc o).drew (w.heap.size + 2) A2 c2 C := ho.alloc_ o
      have DA1 := (DA.alloc o).drew
      have DR1 := (DR.alloc o).drew
      have hfar : ∀ w4, (wr.alloc o).drew.grownBy w4 (Value.slice A2 C.length c2).ownBlock → Mbx w4 (w.heap.size + 1) m n A2 C.length c2 ∧ Mbx w4 w.heap.size 0 0 none 0 0 ∧ Below w.heap.size w w4 ∧ w.heap.size + 2 ≤ w4.heap.size := fun w4 hg => by
        have hlo : ∀ g, (Value.slice A2 C.length c2).ownBlock = some g → w.heap.size + 2 ≤ g := fun g hk => (World.ownsRow.lt hown1 g hk).1
        have bel : Below w.heap.size w w4 := below_appF (bw.alloc (by omega) o).drew (hown1.less (by omega)) hg (by simp; omega)
        have b2 : Below (w.heap.size + 2) (wr.alloc o).drew w4 := below_appF (Below.refl _ _) hown1 hg (by simp; omega)
        refine ⟨DA1.grown hg (fun e => ?_), DR1.grown hg (fun e => ?_), bel, ?_⟩
        · have := hlo _ e.symm; omega
        · have := hlo _ e.symm; omega
        · have := b2.size; simp at this; omega
      have HK := Lib.hid hfar
      obtain ⟨DA_0, DA_1, DA_2, DA_f0, DA_f1, DA_f2⟩ := Mbx.cells DA
      obtain ⟨DB_0, DB_1, DB_2, DB_f0, DB_f1, DB_f2⟩ := Mbx.cells DA1
      have hCl : C.length ≤ 262144 := by omega
      subst hoe
      clear hfar
      go_wp2_with fail
      refine wp_region_held_drew (S := fun _ => True) (by kernel_rfl) trivial (fun _ => ?_)
      refine wpAnyH_take (i := 0) (v := ?v0_1) rfl (by kernel_rfl) (by kernel_rfl) (by kernel_rfl) (fun _ _ _ h => h) (Or.inl ⟨by rfl, ?hy0_1⟩) (by trivial) ?rest0_1
      case hy0_1 => (intro w9 hSw; clear hSw; go_simp; try with_reducible rfl)
      simp only [Act.put, List.setIfInBounds_toArray, List.set_cons_zero, List.set_cons_succ, List.getElem_toArray, List.getElem_cons_zero, List.getElem_cons_succ]
      refine wpAnyH_take (i := 2) (v := ?v2_2) rfl (by kernel_rfl) (by kernel_rfl) (by kernel_rfl) (fun _ _ _ h => h) (Or.inl ⟨by rfl, ?hy2_2⟩) (by trivial) ?rest2_2
      case hy2_2 => (intro w9 hSw; clear hSw; go_simp; try with_reducible rfl)
      simp only [Act.put, List.setIfInBounds_toArray, List.set_cons_zero, List.set_cons_succ, List.getElem_toArray, List.getElem_cons_zero, List.getElem_cons_succ]
      refine wpAnyH_take (i := 3) (v := ?v3_3) rfl (by kernel_rfl) (by kernel_rfl) (by kernel_rfl) (fun _ _ _ h => h) (Or.inl ⟨by rfl, ?hy3_3⟩) (by trivial) ?rest3_3
      case hy3_3 => (intro w9 hSw; clear hSw; go_simp; try with_reducible rfl)
      simp only [Act.put, List.setIfInBounds_toArray, List.set_cons_zero, List.set_cons_succ, List.getElem_toArray, List.getElem_cons_zero, List.getElem_cons_succ]
      refine wpAnyH_ready (rs := [1, 4]) (by kernel_rfl) (by simp) ?_
      refine (AllReadyH.cons rfl (fun K hK => ?_) (AllReadyH.cons rfl (fun K hK => ?_) AllReadyH.nil))
      · go_simp
        refine hK.out _ _ trivial (fun _ => ?_)
        clear hK K
        try simp only [Act.put, List.setIfInBounds_toArray, List.set_cons_zero, List.set_cons_succ, List.getElem_toArray, List.getElem_cons_zero, List.getElem_cons_succ]
        refine wpAnyH_ready (rs := [4]) (by kernel_rfl) (by simp) ?_
        refine (AllReadyH.cons rfl (fun K hK => ?_) AllReadyH.nil)
        go_simp
        refine hK.out _ _ trivial (fun _ => ?_)
        clear hK K
        try simp only [Act.put, List.setIfInBounds_toArray, List.set_cons_zero, List.set_cons_succ, List.getElem_toArray, List.getElem_cons_zero, List.getElem_cons_succ]
        refine wpAnyH_ready (rs := [5]) (by kernel_rfl) (by simp) ?_
        refine (AllReadyH.cons rfl (fun K hK => ?_) AllReadyH.nil)
        refine wp_appF _ _ _ (by rfl) (w.heap.size + 2) A2 c2 C (by rfl) hown1 _ (some ⟨wr.heap.size, 0, none⟩) 1 [X] (by rfl) hsrc (by simp; omega) (by simp; omega) ?_
        intro A4 c4 w4 hown4 hg hat
        obtain ⟨EA, ER, EB, ES⟩ := HK.out _ hg
        obtain ⟨EA_0, EA_1, EA_2, EA_f0, EA_f1, EA_f2⟩ := Mbx.cells EA
        refine hK.out _ _ trivial (fun _ => ?_)
        clear hK K
        try simp only [Act.put, List.setIfInBounds_toArray, List.set_cons_zero, List.set_cons_succ, List.getElem_toArray, List.getElem_cons_zero, List.getElem_cons_succ]
        refine wpAnyH_ready (rs := [6]) (by kernel_rfl) (by simp) ?_
        refine (AllReadyH.cons rfl (fun K hK => ?_) AllReadyH.nil)
        go_simp
        refine hK.out _ _ trivial (fun _ => ?_)
        clear hK K
        try simp only [Act.put, List.setIfInBounds_toArray, List.set_cons_zero, List.set_cons_succ, List.getElem_toArray, List.getElem_cons_zero, List.getElem_cons_succ]
        refine wpAnyH_ready (rs := [7]) (by kernel_rfl) (by simp) ?_
        refine (AllReadyH.cons rfl (fun K hK => ?_) AllReadyH.nil)
        go_simp
        refine hK.out _ _ trivial (fun _ => ?_)
        clear hK K
        try simp only [Act.put, List.setIfInBounds_toArray, List.set_cons_zero, List.set_cons_succ, List.getElem_toArray, List.getElem_cons_zero, List.getElem_cons_succ]
        refine wpAnyH_done (by kernel_rfl) ?_ _
        go_wp2_with fail
        go_roundw
        case rel => exact ⟨C.length + 1, A4, c4, by omega, by go_num, by rw [hT.out]; exact hown4.farC (by simp) _, EA.putD A4 (C.length + 1) c4, Blk.far ER (by simp) _, EB.setCell (p := ⟨w.heap.size + 1, 2, none⟩) (by simp) _, by simp; omega⟩
        case measure => simp [intOf]; omega
      · go_simp
        refine hK.out _ _ trivial (fun _ => ?_)
        clear hK K
        try simp only [Act.put, List.setIfInBounds_toArray, List.set_cons_zero, List.set_cons_succ, List.getElem_toArray, List.getElem_cons_zero, List.getElem_cons_succ]
        refine wpAnyH_ready (rs := [1]) (by kernel_rfl) (by simp) ?_
        refine (AllReadyH.cons rfl (fun K hK => ?_) AllReadyH.nil)
        go_simp
        refine hK.out _ _ trivial (fun _ => ?_)
        clear hK K
        try simp only [Act.put, List.setIfInBounds_toArray, List.set_cons_zero, List.set_cons_succ, List.getElem_toArray, List.getElem_cons_zero, List.getElem_cons_succ]
        refine wpAnyH_ready (rs := [5]) (by kernel_rfl) (by simp) ?_
        refine (AllReadyH.cons rfl (fun K hK => ?_) AllReadyH.nil)
        refine wp_appF _ _ _ (by rfl) (w.heap.size + 2) A2 c2 C (by rfl) hown1 _ (some ⟨wr.heap.size, 0, none⟩) 1 [X] (by rfl) hsrc (by simp; omega) (by simp; omega) ?_
        intro A4 c4 w4 hown4 hg hat
        obtain ⟨EA, ER, EB, ES⟩ := HK.out _ hg
        obtain ⟨EA_0, EA_1, EA_2, EA_f0, EA_f1, EA_f2⟩ := Mbx.cells EA
        refine hK.out _ _ trivial (fun _ => ?_)
        clear hK K
        try simp only [Act.put, List.setIfInBounds_toArray, List.set_cons_zero, List.set_cons_succ, List.getElem_toArray, List.getElem_cons_zero, List.getElem_cons_succ]
        refine wpAnyH_ready (rs := [6]) (by kernel_rfl) (by simp) ?_
        refine (AllReadyH.cons rfl (fun K hK => ?_) AllReadyH.nil)
        go_simp
        refine hK.out _ _ trivial (fun _ => ?_)
        clear hK K
        try simp only [Act.put, List.setIfInBounds_toArray, List.set_cons_zero, List.set_cons_succ, List.getElem_toArray, List.getElem_cons_zero, List.getElem_cons_succ]
        refine wpAnyH_ready (rs := [7]) (by kernel_rfl) (by simp) ?_
        refine (AllReadyH.cons rfl (fun K hK => ?_) AllReadyH.nil)
        go_simp
        refine hK.out _ _ trivial (fun _ => ?_)
        clear hK K
        try simp only [Act.put, List.setIfInBounds_toArray, List.set_cons_zero, List.set_cons_succ, List.getElem_toArray, List.getElem_cons_zero, List.getElem_cons_succ]
        refine wpAnyH_done (by kernel_rfl) ?_ _
        go_wp2_with fail
        go_roundw
        case rel => exact ⟨C.length + 1, A4, c4, by omega, by go_num, by rw [hT.out]; exact hown4.farC (by simp) _, EA.putD A4 (C.length + 1) c4, Blk.far ER (by simp) _, EB.setCell (p := ⟨w.heap.size + 1, 2, none⟩) (by simp) _, by simp; omega⟩
        case measure => simp [intOf]; omega
    · obtain rfl : k = len := by omega
      have ht : l.take k = l := by rw [← h.1, List.take_length]
      rw [ht] at ho hlk
      have hfl := ho.fl h.2.2
      obtain ⟨DA_0, DA_1, DA_2, DA_f0, DA_f1, DA_f2⟩ := Mbx.cells DA
      obtain ⟨DB_0, DB_1, DB_2, DB_f0, DB_f1, DB_f2⟩ := Mbx.cells DR
      have DAl := Blk.lt DA
      subst hlk
      go_wp2_with fail
      refine bodyPost_ret (v := .tuple #[mV m n A2 l.length c2, .int .i64 0]) (by simp [results, Try.results31, go_sem, DB_0, DB_1, DB_2, DB_f0, DB_f1, DB_f2]) rfl ?_
      exact ⟨A2, c2, rfl, hfl.put DR m n A2 l.length c2, below_put bw (Nat.le_refl _) _ _ _⟩
end
end Go.Proofs.Ytfaemgdeoamijaa
