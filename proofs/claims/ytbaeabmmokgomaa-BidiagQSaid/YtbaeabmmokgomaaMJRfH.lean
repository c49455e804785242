/-
  Layer 9, walks: copies; lists that are the same; reflections of one length.
-/
import Derived.Test.YtbaeabmmokgomaaMJRfG
import Derived.Laws.IdiomCopy
import Derived.Laws.CopyRow
import Derived.Deep.WholeRow
namespace Go.Proofs.Ytbaeabmmokgomaa
open Go.RowKit Go.Bw
set_option linter.unusedVariables false
set_option linter.unusedSimpArgs false
attribute [local go_sem] run_store_float

set_option maxRecDepth 100000 in
theorem run_copyF {A : Option Addr} {n c : Nat} {l : List Int} {w : World} (h : FL w A n c l) (ty : TypeId) :
    (Builtin.copy_ #[22, 22] ty #[.slice (some ⟨w.heap.size, 0, none⟩) n n, .slice A n c]).run Try.prog (w.alloc (.cells (LF (List.replicate n 0)).toArray 49)) = .ok (goInt n) (w.alloc (.cells (LF l).toArray 49)) := by
  obtain ⟨i, hi, hz0, hz1, hz2⟩ := info_parts info39F
  have hsz : (Try.prog.info? 49).map (·.size) = some 1 := by rw [hi]; simp [hz1]
  obtain ⟨h1, h2, h3⟩ := h
  by_cases hn : n = 0
  · subst hn
    have hl : l = [] := List.eq_nil_of_length_eq_zero h1
    subst hl
    exact run_copy_none _ _ _ _ 49 _ _ _ _ _ _ Try.underlying22 hsz (by simp)
  · obtain ⟨ad, e, hb, hc⟩ := h2.2.2 (by omega)
    subst e
    have hlen : (LF l).length = n := by rw [LF_length, h1]
    have hr := run_copy_row (P := Try.prog) (w.alloc (.cells (LF (List.replicate n 0)).toArray 49)) 22 22 ty 49 w.heap.size 0 n n ad n c (LF (List.replicate n 0)).toArray 49 (LF l) Try.underlying22 hsz
      (heap_alloc_new w _) (by rw [hlen]; simp) (fun j v hv => by
        have hj : j < l.length := by
          rcases Nat.lt_or_ge j (LF l).length with g | g
          · rwa [LF_length] at g
          · rw [List.getElem?_eq_none g] at hv; cases hv
        rw [LF_get hj] at hv
        injection hv with hv
        subst hv
        rw [World.cell?_alloc_lt _ _ _ (by rw [add_block]; exact hb)]
        exact hc j hj) (by simp [LF_length, h1]) (LF_one l)
    rw [hr, hlen, World.setRow_alloc_new]
    congr 3
    simp [LF_length, h1]
set_option maxHeartbeats 4000000 in
theorem gcopied_any {R C : Int} {A : Option Addr} {n c : Nat} {l : List Int} {w : World} (h : FL w A n c l) (hm : n ≤ 4000000) :
    Calls Try.prog 60 #[mV R C A n c] w (fun e w' => ∃ g, e = .returned (mV R C (some ⟨g, 0, none⟩) n n) ∧ RowF w' g l ∧ w.heap.size ≤ g ∧ Below w.heap.size w w') := by
  have hll := h.1
  have bz := ((Below.refl _ w).alloc (Nat.le_refl _) (.cells #[.int .i64 R, .int .i64 C, .slice A n c] 24)).alloc (by simp) (.cells #[.int .i64 0, .int .i64 0, .slice none 0 0] 24)
  replace h := h.on bz
  have hmk := run_makeF n hm
  have hcp := run_copyF h 3
  have HR := RowF.new ((w.alloc (.cells #[.int .i64 R, .int .i64 C, .slice A n c] 24)).alloc (.cells #[.int .i64 R, .int .i64 C, .slice (some ⟨w.heap.size + 1 + 1, 0, none⟩) n n] 24)) l
  have bz2 := (((Below.refl _ w).alloc (Nat.le_refl _) (.cells #[.int .i64 R, .int .i64 C, .slice A n c] 24)).alloc (by simp) (.cells #[.int .i64 R, .int .i64 C, .slice (some ⟨w.heap.size + 1 + 1, 0, none⟩) n n] 24)).alloc (by simp; omega) (.cells (LF l).toArray 49)
  simp only [World.size_alloc] at HR hcp
  go_enter Try.func60, Try.ntmps60
  go_wp2_with fail
  refine bodyPost_ret (v := mV R C (some ⟨w.heap.size + 1 + 1, 0, none⟩) n n) (by simp [results, Try.results60, go_sem]) rfl ?_
  exact ⟨w.heap.size + 1 + 1, rfl, HR, by omega, bz2⟩

set_option maxRecDepth 100000 in
set_option maxHeartbeats 8000000 in
theorem glong_any {A : Option Addr} {n c : Nat} {hs : List Re} {w : World} {m : Int} {b : Bool} (h : Rl w A n c hs) (hb : longB m hs = b) :
    Calls Try.prog 83 #[.int .i64 m, .slice A n c] w (Ans w (.bool b)) := by
  have HL := Lib.hid h
  have hn2 := h.2.1
  have HB := Lib.hid hb
  have bz := Below.refl w.heap.size w
  have hlen := Lib.hid h.1
  clear h hb
  go_enter Try.func83, Try.ntmps83
  go_wp2_with fail
  go_loopw [9] (fun i wr => ∃ (k : Nat), k ≤ n ∧ i = .int .i64 k ∧ Hid (longB m (hs.take k) = true) ∧ Below w.heap.size w wr) (fun i _ => n - (intOf i).toNat)
  case atStart => exact ⟨0, Nat.zero_le _, rfl, Lib.hid rfl, bz⟩
  case round =>
    clear bz
    obtain ⟨k, hk, rfl, HT, bz⟩ := hrel
    by_cases hlt : k < n
    · obtain ⟨e, ad, ea, he, rfl, hE, hl, hc0, hc1, hv, bt⟩ := (HL.out.on bz).at_ hlt
      have HX : Hid (longB m (hs.take (k + 1)) = (longB m (hs.take k) && decide ((e.l.length : Int) = m))) := Lib.hid (by unfold longB; rw [List.take_add_one, he]; simp)
      have HM : Hid (e ∈ hs) := Lib.hid (List.mem_of_getElem? he)
      have hlm := hv.max
      have k0 : (0 : Int) ≤ k := by omega
      have k1 : (k : Int) < n := by omega
      have bz2 := bz.alloc bz.size (.cells #[.slice e.A e.l.length e.c, .float .f64 e.t] 51)
      clear he hv bt
      by_cases hm : (e.l.length : Int) = m
      · rw [HT.out, decide_eq_true hm] at HX
        go_wp2_with fail
        go_roundw
        case rel => exact ⟨k + 1, by omega, by go_num, HX, bz2⟩
        case measure => simp [intOf]; omega
      · obtain rfl : b = false := by
          rw [← HB.out]
          unfold longB
          rw [List.all_eq_false]
          exact ⟨e, HM.out, by simpa using hm⟩
        go_wp2_with fail
        go_ret
        exact ⟨rfl, bz2⟩
    · obtain rfl : k = n := by omega
      have e1 : b = true := by rw [← HB.out, ← HT.out, ← hlen.out, List.take_length]
      subst e1
      go_wp2_with fail
      go_ret
      exact ⟨rfl, bz⟩

set_option maxRecDepth 100000 in
set_option maxHeartbeats 8000000 in
theorem gtog_any {A : Option Addr} {n c : Nat} {hs : List Re} {w : World} {b : Bool} (h : Rl w A n c hs) (hb : togB hs = b) :
    Calls Try.prog 58 #[.slice A n c] w (Ans w (.bool b)) := by
  have hn2 := h.2.1
  have hlen := h.1
  rcases hs with _ | ⟨e0, hs⟩
  · have hn0 : n = 0 := hlen.symm
    subst hn0
    obtain rfl : b = false := hb.symm
    clear h hlen
    go_enter Try.func58, Try.ntmps58
    go_wp2_with fail
    go_ret
    exact ⟨rfl, Below.refl _ _⟩
  · have n1 : (0 : Int) < n := by rw [← hlen]; simp <;> omega
    obtain ⟨e, ad, ea, he, rfl, hE, hl, hc0, hc1, hv, bt⟩ := h.at_ (k := 0) (by omega)
    obtain rfl : e0 = e := by simpa using he
    have hea : ea = ad := by rw [← hE]; simp [Addr.add]
    subst hea
    have hlm := hv.max
    replace hb : (decide (0 < e0.l.length) && longB e0.l.length (e0 :: hs)) = b := hb
    by_cases h0 : 0 < e0.l.length
    · rw [decide_eq_true h0, Bool.true_and] at hb
      have ps := glong_any h hb
      have h00 : (0 : Int) < e0.l.length := by omega
      clear h he hE hv bt hb
      go_enter Try.func58, Try.ntmps58
      go_wp2_with fail
      with_reducible refine ps.mono ?_
      rintro e w1 ⟨rfl, hb⟩
      go_wp2_with fail
      go_ret
      exact ⟨rfl, hb⟩
    · rw [decide_eq_false h0, Bool.false_and] at hb
      subst hb
      have h00 : ¬ (0 : Int) < e0.l.length := by omega
      clear h he hE hv bt
      go_enter Try.func58, Try.ntmps58
      go_wp2_with fail
      go_ret
      exact ⟨by first | rfl | (simp <;> omega), Below.refl _ _⟩

set_option maxRecDepth 100000 in
set_option maxHeartbeats 8000000 in
theorem rCopy_any {R C : Int} {A : Option Addr} {n c : Nat} {l : List Int} {w : World} (h : FL w A n c l) (hm : n ≤ 4000000) :
    Calls Try.prog 39 #[mV R C A n c] w (fun e w' => ∃ A2 c2, e = .returned (mV R C A2 n c2) ∧ OwnF w' w.heap.size A2 c2 l ∧ Below w.heap.size w w' ∧ ∀ a, A2 = some a → w.heap.size ≤ a.block) := by
  have hll := h.1
  have bz := ((Below.refl _ w).alloc (Nat.le_refl _) (.cells #[.int .i64 R, .int .i64 C, .slice A n c] 24)).alloc (by simp) (.cells #[.int .i64 0, .int .i64 0, .slice none 0 0] 24)
  have DM := (Blk.new w [.int .i64 R, .int .i64 C, .slice A n c] 24).alloc (.cells #[.int .i64 0, .int .i64 0, .slice none 0 0] 24)
  have DZ := Blk.new (w.alloc (.cells #[.int .i64 R, .int .i64 C, .slice A n c] 24)) [.int .i64 0, .int .i64 0, .slice none 0 0] 24
  rw [World.size_alloc] at DZ
  replace h := h.on bz
  go_enter Try.func39, Try.ntmps39
  go_wp2_with fail
  replace DM := DM.drew
  replace DZ := DZ.drew
  replace bz := bz.drew
  replace h : FL ((w.alloc (.cells #[.int .i64 R, .int .i64 C, .slice A n c] 24)).alloc (.cells #[.int .i64 0, .int .i64 0, .slice none 0 0] 24)).drew A n c l := h
  have hsz : ((w.alloc (.cells #[.int .i64 R, .int .i64 C, .slice A n c] 24)).alloc (.cells #[.int .i64 0, .int .i64 0, .slice none 0 0] 24)).drew.heap.size = w.heap.size + 2 := by simp
  refine wp_region_held_drew (S := fun w9 : World => Mbx w9 w.heap.size R C A n c) (by kernel_rfl) DM (fun hS => ?_)
  generalize ((w.alloc (.cells #[.int .i64 R, .int .i64 C, .slice A n c] 24)).alloc (.cells #[.int .i64 0, .int .i64 0, .slice none 0 0] 24)).drew = wd at hS DM DZ h hsz bz ⊢
  refine wpAnyH_take (i := 0) (v := ?v0_10) rfl (by kernel_rfl) (by kernel_rfl) (by kernel_rfl) (fun _ _ _ h => h) (Or.inl ⟨by rfl, ?hy0_10⟩) (by assumption) ?rest0_10
  case hy0_10 => (intro w9 hSw; clear hSw; go_simp; try with_reducible rfl)
  try simp only [Act.put, List.setIfInBounds_toArray, List.set_cons_zero, List.set_cons_succ, List.getElem_toArray, List.getElem_cons_zero, List.getElem_cons_succ]
  refine wpAnyH_take (i := 1) (v := ?v1_11) rfl (by kernel_rfl) (by kernel_rfl) (by kernel_rfl) (fun _ _ _ h => h) (Or.inl ⟨by rfl, ?hy1_11⟩) (by assumption) ?rest1_11
  case hy1_11 => (intro w9 hSw; have m0 : Mbx w9 w.heap.size R C A n c := hSw; obtain ⟨y0, y1, y2, _, _, _⟩ := Mbx.cells m0; go_simp; try with_reducible rfl)
  try simp only [Act.put, List.setIfInBounds_toArray, List.set_cons_zero, List.set_cons_succ, List.getElem_toArray, List.getElem_cons_zero, List.getElem_cons_succ]
  refine wpAnyH_take (i := 2) (v := ?v2_12) rfl (by kernel_rfl) (by kernel_rfl) (by kernel_rfl) (fun _ _ _ h => h) (Or.inl ⟨by rfl, ?hy2_12⟩) (by assumption) ?rest2_12
  case hy2_12 => (intro w9 hSw; clear hSw; go_simp; try with_reducible rfl)
  try simp only [Act.put, List.setIfInBounds_toArray, List.set_cons_zero, List.set_cons_succ, List.getElem_toArray, List.getElem_cons_zero, List.getElem_cons_succ]
  refine wpAnyH_take (i := 3) (v := ?v3_13) rfl (by kernel_rfl) (by kernel_rfl) (by kernel_rfl) (fun _ _ _ h => h) (Or.inl ⟨by rfl, ?hy3_13⟩) (by assumption) ?rest3_13
  case hy3_13 => (intro w9 hSw; have m0 : Mbx w9 w.heap.size R C A n c := hSw; obtain ⟨y0, y1, y2, _, _, _⟩ := Mbx.cells m0; go_simp; try with_reducible rfl)
  try simp only [Act.put, List.setIfInBounds_toArray, List.set_cons_zero, List.set_cons_succ, List.getElem_toArray, List.getElem_cons_zero, List.getElem_cons_succ]
  refine wpAnyH_take (i := 4) (v := ?v4_14) rfl (by kernel_rfl) (by kernel_rfl) (by kernel_rfl) (fun _ _ _ h => h) (Or.inl ⟨by rfl, ?hy4_14⟩) (by assumption) ?rest4_14
  case hy4_14 => (intro w9 hSw; clear hSw; go_simp; try with_reducible rfl)
  try simp only [Act.put, List.setIfInBounds_toArray, List.set_cons_zero, List.set_cons_succ, List.getElem_toArray, List.getElem_cons_zero, List.getElem_cons_succ]
  refine wpAnyH_take (i := 5) (v := ?v5_15) rfl (by kernel_rfl) (by kernel_rfl) (by kernel_rfl) (fun _ _ _ h => h) (Or.inl ⟨by rfl, ?hy5_15⟩) (by assumption) ?rest5_15
  case hy5_15 => (intro w9 hSw; have m0 : Mbx w9 w.heap.size R C A n c := hSw; obtain ⟨y0, y1, y2, _, _, _⟩ := Mbx.cells m0; go_simp; try with_reducible rfl)
  try simp only [Act.put, List.setIfInBounds_toArray, List.set_cons_zero, List.set_cons_succ, List.getElem_toArray, List.getElem_cons_zero, List.getElem_cons_succ]
  refine wpAnyH_ready (rs := [6]) (by kernel_rfl) (by simp) ?_
  refine AllReadyH.cons rfl (fun K hK => ?_) AllReadyH.nil
  refine step_appF wd rfl _ _ (by rfl) w.heap.size none 0 [] (by rfl) (OwnF.nil _ _) wd.heap.size A c l (by rw [hll]; rfl) h.2.1 (by simp; omega) (by omega) ?_
  intro A2 c2 w2 hO hg hrow
  simp only [List.nil_append] at hO hrow ⊢
  rw [hll] at hrow ⊢
  replace DM := DM.grown hg (by simp [Value.ownBlock])
  replace DZ := DZ.grown hg (by simp [Value.ownBlock])
  have bz := bz.grown hg bz.size (by simp [Value.ownBlock])
  have hsz2 := hg.size
  have hA2 : ∀ a, A2 = some a → w.heap.size + 2 ≤ a.block := fun a e => by
    subst e
    rcases hrow with h9 | h9
    · simp [Value.ownBlock] at h9
    · simp [Value.ownBlock] at h9; omega
  clear hg hrow h
  clear hS; refine hK.out _ _ DM (fun hS => ?_); clear hK K
  try simp only [Act.put, List.setIfInBounds_toArray, List.set_cons_zero, List.set_cons_succ, List.getElem_toArray, List.getElem_cons_zero, List.getElem_cons_succ]
  refine wpAnyH_take (i := 7) (v := ?v7_16) rfl (by kernel_rfl) (by kernel_rfl) (by kernel_rfl) (fun _ _ _ h => h) (Or.inl ⟨by rfl, ?hy7_16⟩) (by assumption) ?rest7_16
  case hy7_16 => (intro w9 hSw; clear hSw; go_simp; try with_reducible rfl)
  try simp only [Act.put, List.setIfInBounds_toArray, List.set_cons_zero, List.set_cons_succ, List.getElem_toArray, List.getElem_cons_zero, List.getElem_cons_succ]
  obtain ⟨z0, z1, z2, z3, z4, z5⟩ := Mbx.cells DZ
  refine wpAnyH_ready (rs := [8]) (by kernel_rfl) (by simp) ?_
  refine AllReadyH.cons rfl (fun K hK => ?_) AllReadyH.nil
  go_simp
  clear z0 z1 z2 z3 z4 z5
  have HR := (OwnF.grown_ (row := some (w.heap.size + 1)) hO (w' := ((w2.setCell ⟨w.heap.size + 1, 0, none⟩ (.int .i64 R)).setCell ⟨w.heap.size + 1, 1, none⟩ (.int .i64 C)).setCell ⟨w.heap.size + 1, 2, none⟩ (.slice A2 n c2)) (grown_setCell (grown_setCell (grown_setCell (World.grownBy.refl w2 _) 0 _) 1 _) 2 _) (fun a e => by have := hA2 a e; simp; omega))
  have bz3 := ((bz.setCell (p := ⟨w.heap.size + 1, 0, none⟩) (by simp) (.int .i64 R)).setCell (p := ⟨w.heap.size + 1, 1, none⟩) (by simp) (.int .i64 C)).setCell (p := ⟨w.heap.size + 1, 2, none⟩) (by simp) (.slice A2 n c2)
  replace DZ := Mbx.put DZ R C A2 n c2
  clear hS; refine hK.out _ _ (Blk.putO DM (by omega) _ _ _) (fun hS => ?_); clear hK K
  try simp only [Act.put, List.setIfInBounds_toArray, List.set_cons_zero, List.set_cons_succ, List.getElem_toArray, List.getElem_cons_zero, List.getElem_cons_succ]
  refine wpAnyH_done (by kernel_rfl) ?_ _
  obtain ⟨z0, z1, z2, z3, z4, z5⟩ := Mbx.cells DZ
  go_wp2_with fail
  refine bodyPost_ret (v := mV R C A2 n c2) (by simp [results, Try.results39, go_sem, z0, z1, z2]) rfl ?_
  exact ⟨A2, c2, rfl, HR, bz3, fun a e => by have := hA2 a e; omega⟩
end Go.Proofs.Ytbaeabmmokgomaa
