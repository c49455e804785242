/-
  Layer 9: rows reflected, by the program.
-/
import Derived.Test.YtcdbjlmegkcaiaaGreatDoorYRfB
import Derived.Laws.IdiomCopy
import Derived.Laws.CopyRow
import Derived.Deep.WholeRow
namespace Go.Proofs.YtcdbjlmegkcaiaaGreatDoor
open Go.RowKit Go.Bw
set_option linter.unusedVariables false
set_option linter.unusedSimpArgs false
attribute [local go_sem] run_store_float

set_option maxRecDepth 100000 in
theorem run_copyF {A : Option Addr} {n c : Nat} {l : List Int} {w : World} (h : FL w A n c l) (ty : TypeId) :
    (Builtin.copy_ #[22, 22] ty #[.slice (some ⟨w.heap.size, 0, none⟩) n n, .slice A n c]).run Tryz.prog (w.alloc (.cells (LF (List.replicate n 0)).toArray 25)) = .ok (goInt n) (w.alloc (.cells (LF l).toArray 25)) := by
  obtain ⟨i, hi, hz0, hz1, hz2⟩ := info_parts info39F
  have hsz : (Tryz.prog.info? 25).map (·.size) = some 1 := by rw [hi]; simp [hz1]
  obtain ⟨h1, h2, h3⟩ := h
  by_cases hn : n = 0
  · subst hn
    have hl : l = [] := List.eq_nil_of_length_eq_zero h1
    subst hl
    exact run_copy_none _ _ _ _ 25 _ _ _ _ _ _ Tryz.underlying22 hsz (by simp)
  · obtain ⟨ad, e, hb, hc⟩ := h2.2.2 (by omega)
    subst e
    have hlen : (LF l).length = n := by rw [LF_length, h1]
    have hr := run_copy_row (P := Tryz.prog) (w.alloc (.cells (LF (List.replicate n 0)).toArray 25)) 22 22 ty 25 w.heap.size 0 n n ad n c (LF (List.replicate n 0)).toArray 25 (LF l) Tryz.underlying22 hsz
      (heap_alloc_new w _) (by rw [hlen]; simp) (fun j v hv => by
        have hj : j < l.length := by
          rcases Nat.lt_or_ge j (LF l).length with g | g
          · rwa [LF_length] at g
          · rw [List.getElem?_eq_none g] at hv; cases hv
        rw [LF_get hj] at hv
        injection hv with hv
        subst hv
        rw [World.cell?_alloc_lt _ _ _ (by rw [Gadd_block]; exact hb)]
        exact hc j hj) (by simp [LF_length, h1]) (LF_one l)
    rw [hr, hlen, World.setRow_alloc_new]
    congr 3
    simp [LF_length, h1]
set_option maxHeartbeats 4000000 in
theorem gcopied_any {R C : Int} {A : Option Addr} {n c : Nat} {l : List Int} {w : World} (h : FL w A n c l) (hm : n ≤ 4000000) :
    Calls Tryz.prog 22 #[mV R C A n c] w (fun e w' => ∃ g, e = .returned (mV R C (some ⟨g, 0, none⟩) n n) ∧ RowF w' g l ∧ w.heap.size ≤ g ∧ Below w.heap.size w w') := by
  have hll := h.1
  have bz := ((Below.refl _ w).alloc (Nat.le_refl _) (.cells #[.int .i64 R, .int .i64 C, .slice A n c] 32)).alloc (by simp) (.cells #[.int .i64 0, .int .i64 0, .slice none 0 0] 32)
  replace h := h.on bz
  have hmk := run_makeF n hm
  have hcp := run_copyF h 3
  have HR := RowF.new ((w.alloc (.cells #[.int .i64 R, .int .i64 C, .slice A n c] 32)).alloc (.cells #[.int .i64 R, .int .i64 C, .slice (some ⟨w.heap.size + 1 + 1, 0, none⟩) n n] 32)) l
  have bz2 := (((Below.refl _ w).alloc (Nat.le_refl _) (.cells #[.int .i64 R, .int .i64 C, .slice A n c] 32)).alloc (by simp) (.cells #[.int .i64 R, .int .i64 C, .slice (some ⟨w.heap.size + 1 + 1, 0, none⟩) n n] 32)).alloc (by simp; omega) (.cells (LF l).toArray 25)
  simp only [World.size_alloc] at HR hcp
  go_enter Tryz.func22, Tryz.ntmps22
  go_wp2_with fail
  refine bodyPost_ret (v := mV R C (some ⟨w.heap.size + 1 + 1, 0, none⟩) n n) (by simp [results, Tryz.results22, go_sem]) rfl ?_
  exact ⟨w.heap.size + 1 + 1, rfl, HR, by omega, bz2⟩

set_option maxRecDepth 100000 in
set_option maxHeartbeats 8000000 in
theorem glong_any {A : Option Addr} {n c : Nat} {hs : List Re} {w : World} {m : Int} {b : Bool} (h : Rl w A n c hs) (hb : longB m hs = b) :
    Calls Tryz.prog 47 #[.int .i64 m, .slice A n c] w (Ans w (.bool b)) := by
  have HL := Lib.hid h
  have hn2 := h.2.1
  have HB := Lib.hid hb
  have bz := Below.refl w.heap.size w
  have hlen := Lib.hid h.1
  clear h hb
  go_enter Tryz.func47, Tryz.ntmps47
  go_wp2_with fail
  go_loopw [9] (fun i wr => ∃ (k : Nat), k ≤ n ∧ i = .int .i64 k ∧ Hid (longB m (hs.take k) = true) ∧ Below w.heap.size w wr) (fun i _ => n - (intOf i).toNat)
  case atStart => exact ⟨0, Nat.zero_le _, rfl, Lib.hid rfl, bz⟩
  case round =>
    clear bz
    obtain ⟨k, hk, rfl, HT, bz⟩ := hrel
    by_cases hlt : k < n
    · obtain ⟨e, ad, ea, he, rfl, hE, hl, hc0, hc1, hv, bt⟩ := (HL.out.on bz).at_ hlt
      have HX : Hid (longB m (hs.take (k + 1)) = (longB m (hs.take k) && decide ((e.l.length : Int) = m))) := Lib.hid (by unfold longB; rw [List.take_add_one, he]; simp)
      have HM : Hid (e ∈ hs) := Lib.hid (List.mem_of_getElem? he)
      have hlm := hv.max
      have k0 : (0 : Int) ≤ k := by omega
      have k1 : (k : Int) < n := by omega
      have bz2 := bz.alloc bz.size (.cells #[.slice e.A e.l.length e.c, .float .f64 e.t] 27)
      clear he hv bt
      by_cases hm : (e.l.length : Int) = m
      · rw [HT.out, decide_eq_true hm] at HX
        go_wp2_with fail
        go_roundw
        case rel => exact ⟨k + 1, by omega, by go_num, HX, bz2⟩
        case measure => simp [intOf]; omega
      · obtain rfl : b = false := by
          rw [← HB.out]
          unfold longB
          rw [List.all_eq_false]
          exact ⟨e, HM.out, by simpa using hm⟩
        go_wp2_with fail
        go_ret
        exact ⟨rfl, bz2⟩
    · obtain rfl : k = n := by omega
      have e1 : b = true := by rw [← HB.out, ← HT.out, ← hlen.out, List.take_length]
      subst e1
      go_wp2_with fail
      go_ret
      exact ⟨rfl, bz⟩

set_option maxRecDepth 100000 in
set_option maxHeartbeats 8000000 in
theorem gtog_any {A : Option Addr} {n c : Nat} {hs : List Re} {w : World} {b : Bool} (h : Rl w A n c hs) (hb : togB hs = b) :
    Calls Tryz.prog 20 #[.slice A n c] w (Ans w (.bool b)) := by
  have hn2 := h.2.1
  have hlen := h.1
  rcases hs with _ | ⟨e0, hs⟩
  · have hn0 : n = 0 := hlen.symm
    subst hn0
    obtain rfl : b = false := hb.symm
    clear h hlen
    go_enter Tryz.func20, Tryz.ntmps20
    go_wp2_with fail
    go_ret
    exact ⟨rfl, Below.refl _ _⟩
  · have n1 : (0 : Int) < n := by rw [← hlen]; simp <;> omega
    obtain ⟨e, ad, ea, he, rfl, hE, hl, hc0, hc1, hv, bt⟩ := h.at_ (k := 0) (by omega)
    obtain rfl : e0 = e := by simpa using he
    have hea : ea = ad := by rw [← hE]; simp [Addr.add]
    subst hea
    have hlm := hv.max
    replace hb : (decide (0 < e0.l.length) && longB e0.l.length (e0 :: hs)) = b := hb
    by_cases h0 : 0 < e0.l.length
    · rw [decide_eq_true h0, Bool.true_and] at hb
      have ps := glong_any h hb
      have h00 : (0 : Int) < e0.l.length := by omega
      clear h he hE hv bt hb
      go_enter Tryz.func20, Tryz.ntmps20
      go_wp2_with fail
      with_reducible refine ps.mono ?_
      rintro e w1 ⟨rfl, hb⟩
      go_wp2_with fail
      go_ret
      exact ⟨rfl, hb⟩
    · rw [decide_eq_false h0, Bool.false_and] at hb
      subst hb
      have h00 : ¬ (0 : Int) < e0.l.length := by omega
      clear h he hE hv bt
      go_enter Tryz.func20, Tryz.ntmps20
      go_wp2_with fail
      go_ret
      exact ⟨by first | rfl | (simp <;> omega), Below.refl _ _⟩

end Go.Proofs.YtcdbjlmegkcaiaaGreatDoor
namespace Go.Proofs.YtcdbjlmegkcaiaaGreatDoor
open Go.RowKit Go.Bw
set_option linter.unusedVariables false
set_option linter.unusedSimpArgs false
attribute [local go_sem] run_store_float

set_option maxRecDepth 100000 in
set_option maxHeartbeats 8000000 in
theorem sum_turn {w : World} (p q s : Nat) (f : Nat → Option Nat) (n : Nat) (hn : n ≤ 9223372036854775807) (HC : Hid (∀ W, Dr w W → ∀ k, k < n → Calls Tryz.prog 49 #[.int .i64 k, .pointer (some ⟨p, 0, none⟩), .pointer (some ⟨q, 0, none⟩), .pointer (some ⟨s, 0, none⟩)] W (FA (f k) W))) :
    Calls Tryz.prog 48 #[.int .i64 n, .func (.func 49) #[] #[.pointer (some ⟨p, 0, none⟩), .pointer (some ⟨q, 0, none⟩), .pointer (some ⟨s, 0, none⟩)]] w (FA (sumA f n) w) := by
  have b0 : (0 : Nat) ≤ 18446744073709551615 := by omega
  go_enter Tryz.func48, Tryz.ntmps48
  go_wp2_with fail
  go_loopw [5, 8] (fun acc i wr => ∃ (k r : Nat), k ≤ n ∧ i = .int .i64 k ∧ acc = .float .f64 r ∧ Hid (af r = sumA f k) ∧ r ≤ 18446744073709551615 ∧ Dr w wr) (fun _ i _ => n - (intOf i).toNat)
  case atStart => exact ⟨0, 0, Nat.zero_le _, rfl, rfl, Lib.hid (by rw [af_zero]; rfl), b0, Dr.refl w⟩
  case round =>
    obtain ⟨k, r, hk, rfl, rfl, HN, br, dr⟩ := hrel
    by_cases hlt : k < n
    · have pc := HC.out wr dr k hlt
      go_wp2_with fail
      with_reducible refine pc.mono ?_
      rintro e w1 ⟨r1, rfl, h1, b1, d1⟩
      have H1 := Lib.hid h1
      clear h1 pc
      obtain ⟨r2, w2, e2, d2, h2, b2⟩ := Grun_add (P := Tryz.prog) 25 (x := r) (y := r1) br b1 w1
      have HK : Hid (af r2 = sumA f (k + 1)) := Lib.hid (by rw [h2, HN.out, H1.out]; rfl)
      clear h2 H1 HN
      go_wp2_with fail
      go_roundw
      case rel => exact ⟨k + 1, r2, by omega, by go_num, rfl, HK, b2, (dr.trans d1).trans d2⟩
      case measure => simp [intOf]; omega
    · obtain rfl : k = n := by omega
      go_wp2_with fail
      go_ret
      exact ⟨r, rfl, HN.out, br, dr⟩

set_option maxRecDepth 100000 in
set_option maxHeartbeats 8000000 in
theorem turn1_any {w : World} {p e s k m vc t g o q z n ec B cap : Nat} {VA : Option Addr} {v L : List Int} (h : FL w VA m vc v) (hL : OwnF w B (some ⟨g, 0, none⟩) cap L) (hw : Wd L) (hp : Rbx w p VA m vc t) (he : GBlk w e [.slice (some ⟨g, o, none⟩) n ec]) (hs : GBlk w s [.int .i64 q])
    (hk : k < m) (hz : k * q = z) (hzn : z < n) (hn : o + n = L.length) (hne : n ≤ ec) (hec : ec ≤ 9223372036854775807) :
    Calls Tryz.prog 49 #[.int .i64 k, .pointer (some ⟨p, 0, none⟩), .pointer (some ⟨e, 0, none⟩), .pointer (some ⟨s, 0, none⟩)] w (FA (aop .mul (fa (GD v k)) (fa (GD L (o + z)))) w) := by
  have hmx := h.max
  obtain ⟨ad, rfl, hb1, hc1⟩ := h.at_ hk
  obtain ⟨x0, x1⟩ := h.2.2.at_ k
  obtain ⟨y0, y1⟩ := hw.at_ (o + z)
  obtain ⟨hc2, _⟩ := hL.at' (k := o + z) (by omega)
  have hcap := hL.ge
  unfold fa
  have bX : (GD v k).toNat ≤ 18446744073709551615 := by omega
  have bY : (GD L (o + z)).toNat ≤ 18446744073709551615 := by omega
  generalize (GD v k).toNat = X at *
  generalize (GD L (o + z)).toNat = Y at *
  have d0 : Dr w w.drew := ⟨1, rfl⟩
  replace hp := hp.drew
  replace he := he.drew
  replace hs := hs.drew
  obtain ⟨p0, p1, _, _⟩ := Rbx.cells hp
  have e0 := GBlk.cell he 0 rfl
  have s0 := GBlk.cell hs 0 rfl
  replace hc1 : w.drew.cell? (ad.add k) = some (.float .f64 X) := hc1
  replace hc2 : w.drew.cell? ⟨g, o + z, none⟩ = some (.float .f64 Y) := hc2
  have k0 : (0 : Int) ≤ k := by omega
  have k1 : (k : Int) < m := by omega
  have z0 : (0 : Int) ≤ z := by omega
  have z1 : (z : Int) < n := by omega
  have z2 : (z : Int) ≤ 9223372036854775807 := by omega
  have ez : (k : Int) * (q : Int) = (z : Int) := by exact_mod_cast hz
  have wz : IntKind.i64.wrap (z : Int) = (z : Int) := IntWalk.i64_in _ (by omega)
  clear h hw hL x0 x1 y0 y1 hp he hs hz
  go_enter Tryz.func49, Tryz.ntmps49
  go_wp2_with fail
  refine wp_region_held_drew (S := fun w9 : World => w9.cell? ⟨p, 0, none⟩ = some (.slice (some ad) m vc) ∧ w9.cell? ⟨e, 0, none⟩ = some (.slice (some ⟨g, o, none⟩) n ec) ∧ w9.cell? ⟨s, 0, none⟩ = some (.int .i64 q) ∧ w9.cell? (ad.add k) = some (.float .f64 X) ∧ w9.cell? ⟨g, o + z, none⟩ = some (.float .f64 Y)) (by kernel_rfl) ⟨p0, e0, s0, hc1, hc2⟩ (fun hS => ?_)
  refine wpAnyH_take (i := 0) (v := ?v0_1) rfl (by kernel_rfl) (by kernel_rfl) (by kernel_rfl) (fun _ _ _ h => h) (Or.inl ⟨by rfl, ?hy0_1⟩) (by assumption) ?rest0_1
  case hy0_1 => (intro w9 hSw; clear hSw; go_simp; try with_reducible rfl)
  try simp only [Act.put, List.setIfInBounds_toArray, List.set_cons_zero, List.set_cons_succ, List.getElem_toArray, List.getElem_cons_zero, List.getElem_cons_succ]
  refine wpAnyH_take (i := 1) (v := ?v1_2) rfl (by kernel_rfl) (by kernel_rfl) (by kernel_rfl) (fun _ _ _ h => h) (Or.inl ⟨by rfl, ?hy1_2⟩) (by assumption) ?rest1_2
  case hy1_2 => (intro w9 hSw; obtain ⟨m0, m1, m2, m3, m4⟩ := hSw; go_simp; try with_reducible rfl)
  try simp only [Act.put, List.setIfInBounds_toArray, List.set_cons_zero, List.set_cons_succ, List.getElem_toArray, List.getElem_cons_zero, List.getElem_cons_succ]
  refine wpAnyH_take (i := 2) (v := ?v2_3) rfl (by kernel_rfl) (by kernel_rfl) (by kernel_rfl) (fun _ _ _ h => h) (Or.inl ⟨by rfl, ?hy2_3⟩) (by assumption) ?rest2_3
  case hy2_3 => (intro w9 hSw; clear hSw; go_simp; try with_reducible rfl)
  try simp only [Act.put, List.setIfInBounds_toArray, List.set_cons_zero, List.set_cons_succ, List.getElem_toArray, List.getElem_cons_zero, List.getElem_cons_succ]
  refine wpAnyH_take (i := 3) (v := ?v3_4) rfl (by kernel_rfl) (by kernel_rfl) (by kernel_rfl) (fun _ _ _ h => h) (Or.inl ⟨by rfl, ?hy3_4⟩) (by assumption) ?rest3_4
  case hy3_4 => (intro w9 hSw; clear hSw; go_simp; try with_reducible rfl)
  try simp only [Act.put, List.setIfInBounds_toArray, List.set_cons_zero, List.set_cons_succ, List.getElem_toArray, List.getElem_cons_zero, List.getElem_cons_succ]
  refine wpAnyH_take (i := 4) (v := ?v4_5) rfl (by kernel_rfl) (by kernel_rfl) (by kernel_rfl) (fun _ _ _ h => h) (Or.inl ⟨by rfl, ?hy4_5⟩) (by assumption) ?rest4_5
  case hy4_5 => (intro w9 hSw; obtain ⟨m0, m1, m2, m3, m4⟩ := hSw; go_simp; try with_reducible rfl)
  try simp only [Act.put, List.setIfInBounds_toArray, List.set_cons_zero, List.set_cons_succ, List.getElem_toArray, List.getElem_cons_zero, List.getElem_cons_succ]
  refine wpAnyH_take (i := 5) (v := ?v5_6) rfl (by kernel_rfl) (by kernel_rfl) (by kernel_rfl) (fun _ _ _ h => h) (Or.inl ⟨by rfl, ?hy5_6⟩) (by assumption) ?rest5_6
  case hy5_6 => (intro w9 hSw; obtain ⟨m0, m1, m2, m3, m4⟩ := hSw; go_simp; try with_reducible rfl)
  try simp only [Act.put, List.setIfInBounds_toArray, List.set_cons_zero, List.set_cons_succ, List.getElem_toArray, List.getElem_cons_zero, List.getElem_cons_succ]
  refine wpAnyH_take (i := 6) (v := ?v6_7) rfl (by kernel_rfl) (by kernel_rfl) (by kernel_rfl) (fun _ _ _ h => h) (Or.inl ⟨by rfl, ?hy6_7⟩) (by assumption) ?rest6_7
  case hy6_7 => (intro w9 hSw; clear hSw; go_simp; try with_reducible rfl)
  try simp only [Act.put, List.setIfInBounds_toArray, List.set_cons_zero, List.set_cons_succ, List.getElem_toArray, List.getElem_cons_zero, List.getElem_cons_succ]
  refine wpAnyH_take (i := 7) (v := ?v7_8) rfl (by kernel_rfl) (by kernel_rfl) (by kernel_rfl) (fun _ _ _ h => h) (Or.inl ⟨by rfl, ?hy7_8⟩) (by assumption) ?rest7_8
  case hy7_8 => (intro w9 hSw; obtain ⟨m0, m1, m2, m3, m4⟩ := hSw; go_simp; try with_reducible rfl)
  try simp only [Act.put, List.setIfInBounds_toArray, List.set_cons_zero, List.set_cons_succ, List.getElem_toArray, List.getElem_cons_zero, List.getElem_cons_succ]
  refine wpAnyH_take (i := 8) (v := ?v8_9) rfl (by kernel_rfl) (by kernel_rfl) (by kernel_rfl) (fun _ _ _ h => h) (Or.inl ⟨by rfl, ?hy8_9⟩) (by assumption) ?rest8_9
  case hy8_9 => (intro w9 hSw; clear hSw; go_simp; try with_reducible rfl)
  try simp only [Act.put, List.setIfInBounds_toArray, List.set_cons_zero, List.set_cons_succ, List.getElem_toArray, List.getElem_cons_zero, List.getElem_cons_succ]
  refine wpAnyH_take (i := 9) (v := ?v9_10) rfl (by kernel_rfl) (by kernel_rfl) (by kernel_rfl) (fun _ _ _ h => h) (Or.inl ⟨by rfl, ?hy9_10⟩) (by assumption) ?rest9_10
  case hy9_10 => (intro w9 hSw; clear hSw; go_simp; try with_reducible rfl)
  try simp only [Act.put, List.setIfInBounds_toArray, List.set_cons_zero, List.set_cons_succ, List.getElem_toArray, List.getElem_cons_zero, List.getElem_cons_succ]
  refine wpAnyH_take (i := 10) (v := ?v10_11) rfl (by kernel_rfl) (by kernel_rfl) (by kernel_rfl) (fun _ _ _ h => h) (Or.inl ⟨by rfl, ?hy10_11⟩) (by assumption) ?rest10_11
  case hy10_11 => (intro w9 hSw; obtain ⟨m0, m1, m2, m3, m4⟩ := hSw; go_simp; try with_reducible rfl)
  try simp only [Act.put, List.setIfInBounds_toArray, List.set_cons_zero, List.set_cons_succ, List.getElem_toArray, List.getElem_cons_zero, List.getElem_cons_succ]
  refine wpAnyH_ready (rs := [11]) (by kernel_rfl) (by simp) ?_
  refine AllReadyH.cons rfl (fun K hK => ?_) AllReadyH.nil
  refine step_arith .mul (.inr (.inr (.inl rfl))) rfl _ _ _ _ X Y rfl rfl rfl bX bY ?_
  intro r w1 hb1 hr br dr
  have hS1 := hS
  obtain ⟨t9, ht9⟩ := dr
  subst ht9
  clear hS; refine hK.out _ _ hS1 (fun hS => ?_); clear hK K
  try simp only [Act.put, List.setIfInBounds_toArray, List.set_cons_zero, List.set_cons_succ, List.getElem_toArray, List.getElem_cons_zero, List.getElem_cons_succ]
  refine wpAnyH_take (i := 12) (v := ?v12_12) rfl (by kernel_rfl) (by kernel_rfl) (by kernel_rfl) (fun _ _ _ h => h) (Or.inl ⟨by rfl, ?hy12_12⟩) (by assumption) ?rest12_12
  case hy12_12 => (intro w9 hSw; clear hSw; go_simp; try with_reducible rfl)
  try simp only [Act.put, List.setIfInBounds_toArray, List.set_cons_zero, List.set_cons_succ, List.getElem_toArray, List.getElem_cons_zero, List.getElem_cons_succ]
  refine wpAnyH_done (by kernel_rfl) ?_ _
  go_wp2_with fail
  go_ret
  exact ⟨r, rfl, hr, br, d0.trans ⟨t9, rfl⟩⟩

/-- what a line's float comes to: v's place i, the line's floats x, tau t, n of them -/
def lnW (v : List Int) (x : Nat → Option Nat) (t : Option Nat) (n : Nat) : Option Nat := aop .mul t (sumA (fun i => aop .mul (fa (GD v i)) (x i)) n)
def lnF (v : List Int) (x : Nat → Option Nat) (t : Option Nat) (n : Nat) (i : Nat) : Option Nat := aop .sub (x i) (aop .mul (fa (GD v i)) (lnW v x t n))
/-- a line was reflected -/
def TurnP (w : World) (B g cap o q m t : Nat) (v L : List Int) (e : Ending) (w' : World) : Prop := ∃ L', e = .returned (.tuple #[]) ∧ OwnF w' B (some ⟨g, 0, none⟩) cap L' ∧ Tn L L' (fun i => o + i * q) (if eqA (af t) (some 0) = true then 0 else m) (lnF v (fun i => fa (GD L (o + i * q))) (af t) m) ∧ w.grownBy w' (some g)

set_option maxRecDepth 100000 in
set_option maxHeartbeats 8000000 in
theorem turn_any {w : World} {m vc t g o q n ec B cap : Nat} {VA : Option Addr} {v L : List Int} (h : FL w VA m vc v) (ht : t ≤ 18446744073709551615) (hL : OwnF w B (some ⟨g, 0, none⟩) cap L) (hw : Wd L) (hVA : ∀ a, VA = some a → a.block ≠ g)
    (hfit : ∀ k, k < m → o + k * q < L.length) (hn : o + n = L.length) (hne : n ≤ ec) (hec : ec ≤ 9223372036854775807) (hq0 : 0 < q) :
    Calls Tryz.prog 23 #[rV VA m vc t, .slice (some ⟨g, o, none⟩) n ec, .int .i64 q] w (TurnP w B g cap o q m t v L) := by
  have hmx := h.max
  have hcap := hL.ge
  have bz := (((Below.refl _ w).alloc (Nat.le_refl _) (.cells #[.slice VA m vc, .float .f64 t] 27)).alloc (by simp) (.cells #[.slice (some ⟨g, o, none⟩) n ec] 22)).alloc (by simp; omega) (.cells #[.int .i64 q] 3)
  have DH := ((GBlk.new w [.slice VA m vc, .float .f64 t] 27).alloc (.cells #[.slice (some ⟨g, o, none⟩) n ec] 22)).alloc (.cells #[.int .i64 q] 3)
  have DE := (GBlk.new (w.alloc (.cells #[.slice VA m vc, .float .f64 t] 27)) [.slice (some ⟨g, o, none⟩) n ec] 22).alloc (.cells #[.int .i64 q] 3)
  have DS := GBlk.new ((w.alloc (.cells #[.slice VA m vc, .float .f64 t] 27)).alloc (.cells #[.slice (some ⟨g, o, none⟩) n ec] 22)) [.int .i64 q] 3
  simp only [World.size_alloc] at DE DS
  replace h := h.on bz
  have hg0 := (hL.gt rfl).2
  replace hL := hL.on_ bz
  have hsz : (((w.alloc (.cells #[.slice VA m vc, .float .f64 t] 27)).alloc (.cells #[.slice (some ⟨g, o, none⟩) n ec] 22)).alloc (.cells #[.int .i64 q] 3)).heap.size = w.heap.size + 1 + 1 + 1 := by simp
  have b0 : (0 : Nat) ≤ 18446744073709551615 := by omega
  have HZ : Hid (eqA (af t) (some 0) = (FloatKind.f64.format.order t 0 == some .eq)) := Lib.hid (by rw [← af_zero, eq_is ht b0])
  cases cz : (FloatKind.f64.format.order t 0 == some .eq)
  · rw [cz] at HZ
    go_enter Tryz.func23, Tryz.ntmps23
    go_upto_region 2 with fail
    generalize (((w.alloc (.cells #[.slice VA m vc, .float .f64 t] 27)).alloc (.cells #[.slice (some ⟨g, o, none⟩) n ec] 22)).alloc (.cells #[.int .i64 q] 3)) = W0 at h hL DH DE DS bz hsz ⊢
    replace h := h.drew
    replace hL := hL.drew
    replace DH := DH.drew
    replace DE := DE.drew
    replace DS := DS.drew
    replace bz := bz.drew
    replace hsz : W0.drew.heap.size = w.heap.size + 1 + 1 + 1 := hsz
    refine wp_region_held_drew (S := fun w9 : World => Rbx w9 w.heap.size VA m vc t) (by kernel_rfl) DH (fun hS => ?_)
    generalize W0.drew = wd at hS h hL DH DE DS hsz bz ⊢
    refine wpAnyH_take (i := 0) (v := ?v0_13) rfl (by kernel_rfl) (by kernel_rfl) (by kernel_rfl) (fun _ _ _ h => h) (Or.inl ⟨by rfl, ?hy0_13⟩) (by assumption) ?rest0_13
    case hy0_13 => (intro w9 hSw; clear hSw; go_simp; try with_reducible rfl)
    try simp only [Act.put, List.setIfInBounds_toArray, List.set_cons_zero, List.set_cons_succ, List.getElem_toArray, List.getElem_cons_zero, List.getElem_cons_succ]
    refine wpAnyH_take (i := 1) (v := ?v1_14) rfl (by kernel_rfl) (by kernel_rfl) (by kernel_rfl) (fun _ _ _ h => h) (Or.inl ⟨by rfl, ?hy1_14⟩) (by assumption) ?rest1_14
    case hy1_14 => (intro w9 hSw; have m0 : Rbx w9 w.heap.size VA m vc t := hSw; obtain ⟨y0, y1, _, _⟩ := Rbx.cells m0; go_simp; try with_reducible rfl)
    try simp only [Act.put, List.setIfInBounds_toArray, List.set_cons_zero, List.set_cons_succ, List.getElem_toArray, List.getElem_cons_zero, List.getElem_cons_succ]
    refine wpAnyH_take (i := 2) (v := ?v2_15) rfl (by kernel_rfl) (by kernel_rfl) (by kernel_rfl) (fun _ _ _ h => h) (Or.inl ⟨by rfl, ?hy2_15⟩) (by assumption) ?rest2_15
    case hy2_15 => (intro w9 hSw; clear hSw; go_simp; try with_reducible rfl)
    try simp only [Act.put, List.setIfInBounds_toArray, List.set_cons_zero, List.set_cons_succ, List.getElem_toArray, List.getElem_cons_zero, List.getElem_cons_succ]
    refine wpAnyH_take (i := 3) (v := ?v3_16) rfl (by kernel_rfl) (by kernel_rfl) (by kernel_rfl) (fun _ _ _ h => h) (Or.inl ⟨by rfl, ?hy3_16⟩) (by assumption) ?rest3_16
    case hy3_16 => (intro w9 hSw; have m0 : Rbx w9 w.heap.size VA m vc t := hSw; obtain ⟨y0, y1, _, _⟩ := Rbx.cells m0; go_simp; try with_reducible rfl)
    try simp only [Act.put, List.setIfInBounds_toArray, List.set_cons_zero, List.set_cons_succ, List.getElem_toArray, List.getElem_cons_zero, List.getElem_cons_succ]
    refine wpAnyH_take (i := 4) (v := ?v4_17) rfl (by kernel_rfl) (by kernel_rfl) (by kernel_rfl) (fun _ _ _ h => h) (Or.inl ⟨by rfl, ?hy4_17⟩) (by assumption) ?rest4_17
    case hy4_17 => (intro w9 hSw; have m0 : Rbx w9 w.heap.size VA m vc t := hSw; obtain ⟨y0, y1, _, _⟩ := Rbx.cells m0; go_simp; try with_reducible rfl)
    try simp only [Act.put, List.setIfInBounds_toArray, List.set_cons_zero, List.set_cons_succ, List.getElem_toArray, List.getElem_cons_zero, List.getElem_cons_succ]
    refine wpAnyH_take (i := 5) (v := ?v5_18) rfl (by kernel_rfl) (by kernel_rfl) (by kernel_rfl) (fun _ _ _ h => h) (Or.inl ⟨by rfl, ?hy5_18⟩) (by assumption) ?rest5_18
    case hy5_18 => (intro w9 hSw; clear hSw; go_simp; try with_reducible rfl)
    try simp only [Act.put, List.setIfInBounds_toArray, List.set_cons_zero, List.set_cons_succ, List.getElem_toArray, List.getElem_cons_zero, List.getElem_cons_succ]
    refine wpAnyH_ready (rs := [6]) (by kernel_rfl) (by simp) ?_
    refine AllReadyH.cons rfl (fun K hK => ?_) AllReadyH.nil
    go_simp
    have HC : Hid (∀ W, Dr wd W → ∀ k, k < m → Calls Tryz.prog 49 #[.int .i64 k, .pointer (some ⟨w.heap.size, 0, none⟩), .pointer (some ⟨w.heap.size + 1, 0, none⟩), .pointer (some ⟨w.heap.size + 1 + 1, 0, none⟩)] W (FA ((fun i => aop .mul (fa (GD v i)) (fa (GD L (o + i * q)))) k) W)) := Lib.hid (fun W hd k hk => turn1_any (h.on (hd.below _)) (hL.on_ (hd.below _)) hw (DH.on (hd.below _)) (DE.on (hd.below _)) (DS.on (hd.below _)) hk rfl (by have := hfit k hk; omega) hn hne hec)
    have ps := sum_turn w.heap.size (w.heap.size + 1) (w.heap.size + 1 + 1) _ m hmx HC
    with_reducible refine ps.mono ?_
    rintro e w1 ⟨r1, rfl, hq, b1, dq⟩
    have H1 := Lib.hid hq
    clear hq ps HC
    have hb := dq.below wd.heap.size
    replace h := h.on hb
    replace hL := hL.on_ hb
    replace DH := DH.on hb
    replace DE := DE.on hb
    replace DS := DS.on hb
    replace bz := bz.trans (hb.mono bz.size)
    have hsz1 : w1.heap.size = w.heap.size + 1 + 1 + 1 := by obtain ⟨k, rfl⟩ := dq; exact hsz
    clear hb dq hsz
    clear hS; refine hK.out _ _ DH (fun hS => ?_); clear hK K
    try simp only [Act.put, List.setIfInBounds_toArray, List.set_cons_zero, List.set_cons_succ, List.getElem_toArray, List.getElem_cons_zero, List.getElem_cons_succ]
    refine wpAnyH_ready (rs := [7]) (by kernel_rfl) (by simp) ?_
    refine AllReadyH.cons rfl (fun K hK => ?_) AllReadyH.nil
    refine step_arith .mul (.inr (.inr (.inl rfl))) rfl _ _ _ _ t r1 rfl rfl rfl ht b1 ?_
    intro r2 w2 hb hq b2 dq
    have H2 := Lib.hid hq
    clear hq
    replace h := h.on hb
    replace hL := hL.on_ hb
    replace DH := DH.on hb
    replace DE := DE.on hb
    replace DS := DS.on hb
    replace bz := bz.trans (hb.mono bz.size)
    have hsz2 : w2.heap.size = w.heap.size + 1 + 1 + 1 := by obtain ⟨k, rfl⟩ := dq; exact hsz1
    clear hb dq hsz1
    clear hS; refine hK.out _ _ DH (fun hS => ?_); clear hK K
    try simp only [Act.put, List.setIfInBounds_toArray, List.set_cons_zero, List.set_cons_succ, List.getElem_toArray, List.getElem_cons_zero, List.getElem_cons_succ]
    refine wpAnyH_take (i := 8) (v := ?v8_19) rfl (by kernel_rfl) (by kernel_rfl) (by kernel_rfl) (fun _ _ _ h => h) (Or.inl ⟨by rfl, ?hy8_19⟩) (by assumption) ?rest8_19
    case hy8_19 => (intro w9 hSw; clear hSw; go_simp; try with_reducible rfl)
    try simp only [Act.put, List.setIfInBounds_toArray, List.set_cons_zero, List.set_cons_succ, List.getElem_toArray, List.getElem_cons_zero, List.getElem_cons_succ]
    refine wpAnyH_done (by kernel_rfl) ?_ _
    have HW : Hid (af r2 = lnW v (fun i => fa (GD L (o + i * q))) (af t) m) := Lib.hid (by rw [H2.out, H1.out]; rfl)
    clear H1 H2
    obtain ⟨p0, p1, _, _⟩ := Rbx.cells DH
    go_wp2_with fail
    clear p0 p1
    have hgr : w.grownBy w2 (some g) := grown_below bz _
    have hT := Tn.start hw (fun i => o + i * q) (lnF v (fun i => fa (GD L (o + i * q))) (af t) m)
    clear bz
    go_loopw [23] (fun i wr => ∃ (k : Nat) (L2 : List Int), k ≤ m ∧ i = .int .i64 k ∧ Tn L L2 (fun i => o + i * q) k (lnF v (fun i => fa (GD L (o + i * q))) (af t) m) ∧ OwnF wr B (some ⟨g, 0, none⟩) cap L2 ∧ FL wr VA m vc v ∧ GBlk wr (w.heap.size + 1) [.slice (some ⟨g, o, none⟩) n ec] ∧ GBlk wr (w.heap.size + 1 + 1) [.int .i64 q] ∧ w.grownBy wr (some g)) (fun i _ => m - (intOf i).toNat)
    case atStart => exact ⟨0, L, Nat.zero_le _, rfl, hT, hL, h, DE, DS, hgr⟩
    case round =>
      clear hT hL h DE DS hgr DH hsz2 hS
      obtain ⟨k, L2, hk, rfl, hT, hL, h, DE, DS, hgr⟩ := hrel
      by_cases hlt : k < m
      · have hf := hfit k hlt
        obtain ⟨z, hz⟩ : ∃ z, k * q = z := ⟨_, rfl⟩
        have hlen := hT.len
        have hl2 := hL.ge
        have ez : (k : Int) * (q : Int) = (z : Int) := by exact_mod_cast hz
        have z0 : (0 : Int) ≤ z := by omega
        have z1 : (z : Int) < n := by omega
        have z2 : (z : Int) ≤ 9223372036854775807 := by omega
        have wz : IntKind.i64.wrap (z : Int) = (z : Int) := IntWalk.i64_in _ (by omega)
        obtain ⟨ad, hA, hbl, hc1⟩ := h.at_ hlt
        obtain ⟨x0, x1⟩ := h.2.2.at_ k
        have bX : (GD v k).toNat ≤ 18446744073709551615 := by omega
        have HX : Hid (af (GD v k).toNat = fa (GD v k)) := Lib.hid rfl
        generalize (GD v k).toNat = X at *
        subst hA
        obtain ⟨y0, y1⟩ := hT.wd.at_ (o + z)
        have bY : (GD L2 (o + z)).toNat ≤ 18446744073709551615 := by omega
        have HY : Hid (af (GD L2 (o + z)).toNat = fa (GD L (o + k * q))) := Lib.hid (by rw [← hT.old (o + k * q) (fun i hi e => by have hi2 : i * q < k * q := Nat.mul_lt_mul_of_pos_right hi hq0; omega), hz]; rfl)
        obtain ⟨r3, w3, e3, d3, h3, b3⟩ := run_mul (P := Tryz.prog) 25 (x := X) (y := r2) bX b2 wr
        obtain ⟨r4, w4, e4, d4, h4, b4⟩ := Grun_sub (P := Tryz.prog) 25 (x := (GD L2 (o + z)).toNat) (y := r3) bY b3 w3
        have HF : fa (r4 : Int) = lnF v (fun i => fa (GD L (o + i * q))) (af t) m k := by rw [fa_nat, h4, h3, HX.out, HY.out, HW.out]; rfl
        have HHF := Lib.hid HF
        clear h3 h4 HF HX HY
        obtain ⟨hy0, _⟩ := hL.at' (k := o + z) (by omega)
        have hd := (d3.trans d4).below wr.heap.size
        have hh3 := d3.below wr.heap.size
        have hy3 : w3.cell? ⟨g, o + z, none⟩ = some (.float .f64 (GD L2 (o + z)).toNat) := ((hL.on_ hh3).at' (k := o + z) (by omega)).1
        have HL4 := hL.on_ hd
        obtain ⟨hy4, hy5⟩ := HL4.at' (k := o + z) (by omega)
        obtain ⟨e0⟩ : PLift _ := ⟨GBlk.cell DE 0 rfl⟩
        obtain ⟨s0⟩ : PLift _ := ⟨GBlk.cell DS 0 rfl⟩
        have hgs : w4.grownBy (w4.setCell ⟨g, o + z, none⟩ (.float .f64 r4)) (some g) := grown_setCell (World.grownBy.refl w4 _) _ _
        have DE4 := (DE.on hd).grown hgs (by simp; omega)
        have DS4 := (DS.on hd).grown hgs (by simp; omega)
        have h4 := (h.on hd).farB hgs (fun a e => hVA a e)
        have hL4 : OwnF (w4.setCell ⟨g, o + z, none⟩ (.float .f64 r4)) B (some ⟨g, 0, none⟩) cap (L2.set (o + z) r4) := HL4.set_ (o + z) r4
        have hgr4 := grown_setCell (grown_on hgr hd) (o + z) (.float .f64 r4)
        have hT4 := hT.next (x := (r4 : Int)) (by omega) (by omega) (by show o + k * q < _; exact hf) (fun i hi e => by have hi2 : i * q < k * q := Nat.mul_lt_mul_of_pos_right hi hq0; have e2 : o + i * q = o + k * q := e; omega) HHF.out
        have hT5 : Tn L (L2.set (o + z) r4) (fun i => o + i * q) (k + 1) (lnF v (fun i => fa (GD L (o + i * q))) (af t) m) := by rw [← hz]; exact hT4
        have HT5 := Lib.hid hT5
        clear hT4 hT5 hT DE DS h hL hgr hd hh3 HL4 x0 x1 y0 y1
        have k0 : (0 : Int) ≤ k := by omega
        have k1 : (k : Int) < m := by omega
        generalize (GD L2 (o + z)).toNat = Y at *
        go_wp2_with fail
        go_roundw
        case rel => exact ⟨k + 1, _, by omega, by go_num, HT5.out, hL4, h4, DE4, DS4, hgr4⟩
        case measure => simp [intOf]; omega
      · obtain rfl : k = m := by omega
        go_wp2_with fail
        refine bodyPost_ret (v := .tuple #[]) (by simp [results, Tryz.results23, go_sem]) rfl ?_
        exact ⟨L2, rfl, hL, by rw [HZ.out, if_neg (by decide)]; exact hT, hgr⟩
  · rw [cz] at HZ
    go_enter Tryz.func23, Tryz.ntmps23
    go_wp2_with fail
    refine bodyPost_ret (v := .tuple #[]) (by simp [results, Tryz.results23, go_sem]) rfl ?_
    exact ⟨L, rfl, hL, by rw [HZ.out, if_pos rfl]; exact Tn.start hw _ _, grown_below bz _⟩
end Go.Proofs.YtcdbjlmegkcaiaaGreatDoor
namespace Go.Proofs.YtcdbjlmegkcaiaaGreatDoor
open Go.RowKit Go.Bw
set_option linter.unusedVariables false
set_option linter.unusedSimpArgs false
attribute [local go_sem] run_store_float

theorem lnW_congr {v : List Int} {x y : Nat → Option Nat} {t : Option Nat} {n : Nat} (h : ∀ i, i < n → x i = y i) : lnW v x t n = lnW v y t n := by
  unfold lnW
  rw [sumA_congr (fun k hk => by rw [h k hk])]
theorem lnF_congr {v : List Int} {x y : Nat → Option Nat} {t : Option Nat} {n i : Nat} (h : ∀ i, i < n → x i = y i) (hi : i < n) : lnF v x t n i = lnF v y t n i := by
  unfold lnF
  rw [lnW_congr h, h i hi]
/-- rows reflected, from the row p on, in k columns from f on -/
def lP (z : Bool) (p m f k : Nat) (a b : Nat) : Bool := !z && decide (p ≤ a ∧ a < p + m ∧ f ≤ b ∧ b < f + k)
def lF (l v : List Int) (q p m : Nat) (t : Option Nat) (a b : Nat) : Option Nat := lnF v (fun i => ma l q (p + i) b) t m (a - p)
/-- columns reflected, from the column p on, in k rows from f on -/
def rP (z : Bool) (p m f k : Nat) (a b : Nat) : Bool := !z && decide (p ≤ b ∧ b < p + m ∧ f ≤ a ∧ a < f + k)
def rF (l v : List Int) (q p m : Nat) (t : Option Nat) (a b : Nat) : Option Nat := lnF v (fun i => ma l q a (p + i)) t m (b - p)
theorem tail_lt {p m M q f k : Nat} (h1 : p + m ≤ M) (h2 : f + k < q) (hm : 0 < m) : p * q + f + k < M * q := by
  have := ix_lt (i := p) (j := f + k) (m := M) (q := q) (by omega) h2
  omega
/-- one more column -/
theorem Mr.left {L L' l v : List Int} {M q p m f k o : Nat} {z : Bool} {t : Option Nat} (h : Mr L l M q (lP z p m f k) (lF l v q p m t)) (ho : o = p * q + f + k) (hf : f + k < q) (hp : p + m ≤ M)
    (T : Tn L L' (fun i => o + i * q) (if z = true then 0 else m) (lnF v (fun i => fa (GD L (o + i * q))) t m)) : Mr L' l M q (lP z p m f (k + 1)) (lF l v q p m t) := by
  have hpos : ∀ i, o + i * q = (p + i) * q + (f + k) := fun i => by rw [ho, Nat.add_mul]; omega
  have hold : ∀ i, i < m → fa (GD L (o + i * q)) = ma l q (p + i) (f + k) := fun i hi => by
    rw [hpos i]
    exact h.old (p + i) (f + k) (by omega) hf (by unfold lP; simp <;> omega)
  have hmm : ∀ i, i < (if z = true then 0 else m) → i < m := fun i hi => by split at hi <;> omega
  refine h.line T (fun i => p + i) (fun _ => f + k) (fun i hi => ⟨by have := hmm i hi; omega, hf⟩) (fun i _ => hpos i) (fun i hi => ?_) (fun a b ha hb => ?_)
  · unfold lF
    rw [show p + i - p = i by omega]
    exact lnF_congr hold (hmm i hi)
  · unfold lP
    cases z
    · simp
      constructor
      · intro h9
        by_cases e : b < f + k
        · exact .inl ⟨h9.1, h9.2.1, h9.2.2.1, e⟩
        · exact .inr ⟨a - p, by omega, by omega, by omega⟩
      · rintro (h9 | ⟨i, h1, h2, h3⟩)
        · omega
        · omega
    · simp
theorem Mr.right {L L' l v : List Int} {M q p m f k o : Nat} {z : Bool} {t : Option Nat} (h : Mr L l M q (rP z p m f k) (rF l v q p m t)) (ho : o = (f + k) * q + p) (hf : f + k < M) (hp : p + m ≤ q)
    (T : Tn L L' (fun i => o + i * 1) (if z = true then 0 else m) (lnF v (fun i => fa (GD L (o + i * 1))) t m)) : Mr L' l M q (rP z p m f (k + 1)) (rF l v q p m t) := by
  have hpos : ∀ i, o + i * 1 = (f + k) * q + (p + i) := fun i => by rw [ho]; omega
  have hold : ∀ i, i < m → fa (GD L (o + i * 1)) = ma l q (f + k) (p + i) := fun i hi => by
    rw [hpos i]
    exact h.old (f + k) (p + i) hf (by omega) (by unfold rP; simp <;> omega)
  have hmm : ∀ i, i < (if z = true then 0 else m) → i < m := fun i hi => by split at hi <;> omega
  refine h.line T (fun _ => f + k) (fun i => p + i) (fun i hi => ⟨hf, by have := hmm i hi; omega⟩) (fun i _ => hpos i) (fun i hi => ?_) (fun a b ha hb => ?_)
  · unfold rF
    rw [show p + i - p = i by omega]
    exact lnF_congr hold (hmm i hi)
  · unfold rP
    cases z
    · simp
      constructor
      · intro h9
        by_cases e : a < f + k
        · exact .inl ⟨h9.1, h9.2.1, h9.2.2.1, e⟩
        · exact .inr ⟨b - p, by omega, by omega, by omega⟩
      · rintro (h9 | ⟨i, h1, h2, h3⟩)
        · omega
        · omega
    · simp
/-- a matrix in new memory, and OK -/
def MatP (w : World) (R C : Int) (n : Nat) (F : Nat → Option Nat) (e : Ending) (w' : World) : Prop := ∃ g cap L, e = .returned (.tuple #[mV R C (some ⟨g, 0, none⟩) n cap, .int .i64 0]) ∧ OwnF w' w.heap.size (some ⟨g, 0, none⟩) cap L ∧ Is L n F ∧ Below w.heap.size w w'
/-- no matrix, and a code -/
def NoP (w : World) (E : Int) (e : Ending) (w' : World) : Prop := e = .returned (.tuple #[mV 0 0 none 0 0, .int .i64 E]) ∧ Below w.heap.size w w'

set_option maxRecDepth 100000 in
set_option maxHeartbeats 8000000 in
theorem gLeft_yes {w : World} {A VA : Option Addr} {M q n c m vc t p f : Nat} {l v : List Int} (h : FL w A n c l) (hv : FL w VA m vc v) (ht : t ≤ 18446744073709551615) (hM : M ≤ 512) (hq : q ≤ 512) (hn : n = M * q) (hm : 0 < m) (hp : p + m ≤ M) (hf : f ≤ q) (hvb : ∀ a, VA = some a → a.block < w.heap.size) :
    Calls Tryz.prog 7 #[mV M q A n c, .int .i64 p, .int .i64 f, rV VA m vc t] w (MatP w M q n (tg (lP (eqA (af t) (some 0)) p m f (q - f)) (lF l v q p m (af t)) l q)) := by
  have hmx := hv.max
  have hn1 := h.max
  have n4 : n ≤ 262144 := by rw [hn]; exact Nat.le_trans (Nat.mul_le_mul hM hq) (by decide)
  have hmay : mayB (M : Int) (q : Int) n = true := decide_eq_true ⟨by omega, by omega, by omega, by omega, by rw [hn]; exact Int.natCast_mul M q⟩
  have pm := fun W => gMay_any (R := (M : Int)) (C := (q : Int)) (A := A) (n := n) (c := c) hn1 W
  simp only [hmay] at pm
  have hll := h.1
  have HN := Lib.hid hn
  clear hn hmay
  have bz := (((Below.refl _ w).alloc (Nat.le_refl _) (.cells #[.int .i64 (M : Int), .int .i64 (q : Int), .slice A n c] 32)).alloc (by simp) (.cells #[.slice VA m vc, .float .f64 t] 27)).alloc (by simp; omega) (.cells #[.int .i64 0, .int .i64 0, .slice none 0 0] 32)
  have DM := ((GBlk.new w [.int .i64 (M : Int), .int .i64 (q : Int), .slice A n c] 32).alloc (.cells #[.slice VA m vc, .float .f64 t] 27)).alloc (.cells #[.int .i64 0, .int .i64 0, .slice none 0 0] 32)
  have DH := (GBlk.new (w.alloc (.cells #[.int .i64 (M : Int), .int .i64 (q : Int), .slice A n c] 32)) [.slice VA m vc, .float .f64 t] 27).alloc (.cells #[.int .i64 0, .int .i64 0, .slice none 0 0] 32)
  have DZ := GBlk.new ((w.alloc (.cells #[.int .i64 (M : Int), .int .i64 (q : Int), .slice A n c] 32)).alloc (.cells #[.slice VA m vc, .float .f64 t] 27)) [.int .i64 0, .int .i64 0, .slice none 0 0] 32
  have hsz : (((w.alloc (.cells #[.int .i64 (M : Int), .int .i64 (q : Int), .slice A n c] 32)).alloc (.cells #[.slice VA m vc, .float .f64 t] 27)).alloc (.cells #[.int .i64 0, .int .i64 0, .slice none 0 0] 32)).heap.size = w.heap.size + 1 + 1 + 1 := by simp
  simp only [World.size_alloc] at DH DZ
  replace h := h.on bz
  replace hv := hv.on bz
  have p0 : (0 : Int) ≤ p := by omega
  have f0 : (0 : Int) ≤ f := by omega
  have m0 : (0 : Int) < m := by omega
  have x1 : (m : Int) ≤ (M : Int) - (p : Int) := by omega
  have x2 : (f : Int) ≤ (q : Int) := by omega
  have x3 : (M : Int) ≤ 512 := by omega
  have x4 : (q : Int) ≤ 512 := by omega
  go_enter Tryz.func7, Tryz.ntmps7
  go_upto_region 1 with fail
  generalize (((w.alloc (.cells #[.int .i64 (M : Int), .int .i64 (q : Int), .slice A n c] 32)).alloc (.cells #[.slice VA m vc, .float .f64 t] 27)).alloc (.cells #[.int .i64 0, .int .i64 0, .slice none 0 0] 32)) = W0 at h hv DM DH DZ bz hsz ⊢
  obtain ⟨y0, y1, y2, y3, y4, y5⟩ := Mbx.cells DM
  obtain ⟨u0, u1, u2, u3⟩ := Rbx.cells DH
  go_wp2_with fail
  with_reducible refine (pm _).mono ?_
  rintro e w1 ⟨rfl, hb⟩
  clear y0 y1 y2 y3 y4 y5 u0 u1 u2 u3
  replace h := h.on hb
  replace hv := hv.on hb
  replace DM := DM.on hb
  replace DH := DH.on hb
  replace DZ := DZ.on hb
  replace bz := bz.trans (hb.mono bz.size)
  have hs1 := hb.size
  clear hb
  have DO := GBlk.new w1 [.slice VA m vc, .float .f64 t] 27
  obtain ⟨y0, y1, y2, y3, y4, y5⟩ := Mbx.cells DM
  obtain ⟨u0, u1, u2, u3⟩ := Rbx.cells DH
  have hbA := (Below.refl _ w1).alloc (Nat.le_refl _) (.cells #[.slice VA m vc, .float .f64 t] 27)
  replace h := h.on hbA
  replace hv := hv.on hbA
  replace DM := DM.on hbA
  replace DH := DH.on hbA
  replace DZ := DZ.on hbA
  clear hbA
  replace bz := bz.alloc bz.size (.cells #[.slice VA m vc, .float .f64 t] 27)
  have hR1 := Rl.one hv ht DO
  have pt := gtog_any (b := true) hR1 (by unfold togB longB; simp; rw [hv.1]; exact hm)
  go_wp2_with fail
  with_reducible refine (pt).mono ?_
  rintro e w2 ⟨rfl, hb⟩
  clear y0 y1 y2 y3 y4 y5 u0 u1 u2 u3 DO hR1
  replace h := h.on hb
  replace hv := hv.on hb
  replace DM := DM.on hb
  replace DH := DH.on hb
  replace DZ := DZ.on hb
  replace bz := bz.trans (hb.mono bz.size)
  clear hb
  obtain ⟨y0, y1, y2, y3, y4, y5⟩ := Mbx.cells DM
  obtain ⟨u0, u1, u2, u3⟩ := Rbx.cells DH
  have hE1 : Bl (w2.alloc (.cells #[.bool true, .bool true] 4)) (some ⟨w2.heap.size, 0, none⟩) 2 [true, true] := ⟨rfl, by omega, fun _ => ⟨_, rfl, fun i b hi => by
    have h9 := GBlk.new w2 [.bool true, .bool true] 4
    rw [Gadd_at]
    rcases i with _ | _ | i
    · simp at hi; subst hi; exact GBlk.cell h9 0 rfl
    · simp at hi; subst hi; exact GBlk.cell h9 1 rfl
    · simp at hi⟩⟩
  have hbA := (Below.refl _ w2).alloc (Nat.le_refl _) (.cells #[.bool true, .bool true] 4)
  replace h := h.on hbA
  replace hv := hv.on hbA
  replace DM := DM.on hbA
  replace DH := DH.on hbA
  replace DZ := DZ.on hbA
  clear hbA
  replace bz := bz.alloc bz.size (.cells #[.bool true, .bool true] 4)
  have pr := gRef_any (c := 2) (E := 0) hE1 rfl
  go_wp2_with fail
  with_reducible refine pr.mono ?_
  rintro e w3 ⟨rfl, rfl⟩
  clear pr hE1 y0 y1 y2 y3 y4 y5 u0 u1 u2 u3
  have hW3 : w.heap.size + 1 + 1 + 1 ≤ (w2.alloc (.cells #[.bool true, .bool true] 4)).heap.size := by have := DZ.lt; omega
  generalize (w2.alloc (.cells #[.bool true, .bool true] 4)) = wr3 at h hv DM DH DZ bz hW3 ⊢
  have pcp := gcopied_any (R := (M : Int)) (C := (q : Int)) h (by omega)
  obtain ⟨y0, y1, y2, y3, y4, y5⟩ := Mbx.cells DM
  obtain ⟨u0, u1, u2, u3⟩ := Rbx.cells DH
  go_wp2_with fail
  with_reducible refine (pcp).mono ?_
  rintro e w3 ⟨g2, rfl, hR, hg2, hb⟩
  clear y0 y1 y2 y3 y4 y5 u0 u1 u2 u3 pcp
  replace h := h.on hb
  replace hv := hv.on hb
  replace DM := DM.on hb
  replace DH := DH.on hb
  replace DZ := DZ.on hb
  replace bz := bz.trans (hb.mono bz.size)
  have hs3 := hb.size
  clear hb
  have hO := hR.owned (B := w.heap.size) (by omega) (by omega)
  clear hR
  have DK := GBlk.new w3 [.int .i64 M, .int .i64 q, .slice (some ⟨g2, 0, none⟩) n n] 32
  have hgX := (hO.gt rfl).2
  rw [hll] at hO
  have hbA := (Below.refl _ w3).alloc (Nat.le_refl _) (.cells #[.int .i64 M, .int .i64 q, .slice (some ⟨g2, 0, none⟩) n n] 32)
  replace h := h.on hbA
  replace hv := hv.on hbA
  replace DM := DM.on hbA
  replace DH := DH.on hbA
  replace DZ := DZ.on hbA
  replace hO := hO.alloc_ (.cells #[.int .i64 M, .int .i64 q, .slice (some ⟨g2, 0, none⟩) n n] 32)
  clear hbA
  replace bz := bz.alloc bz.size (.cells #[.int .i64 M, .int .i64 q, .slice (some ⟨g2, 0, none⟩) n n] 32)
  have hszX : w.heap.size + 1 + 1 + 1 ≤ w3.heap.size := by have := DZ.lt; simp at this; omega
  have hVA : ∀ a, VA = some a → a.block ≠ g2 := fun a e => by have := hvb a e; omega
  obtain ⟨y0, y1, y2, y3, y4, y5⟩ := Mbx.cells DM
  obtain ⟨u0, u1, u2, u3⟩ := Rbx.cells DH
  go_upto_region 7 with fail
  clear y0 y1 y2 y3 y4 y5 u0 u1 u2 u3
  generalize (w3.alloc (.cells #[.int .i64 M, .int .i64 q, .slice (some ⟨g2, 0, none⟩) n n] 32)) = w5 at h hv DM DH DZ DK hO bz ⊢
  skip
  have hMr : Mr l l M q (lP (eqA (af t) (some 0)) p m f 0) (lF l v q p m (af t)) := Mr.start (by rw [hll, HN.out]) h.2.2 (fun a b _ _ => by unfold lP; simp <;> omega)
  have hm5 : m ≤ 512 := by omega
  go_loopw [54, 13] (fun i i2 wr => ∃ (k : Nat) (L : List Int), k ≤ q - f ∧ i = .int .i64 k ∧ Mr L l M q (lP (eqA (af t) (some 0)) p m f k) (lF l v q p m (af t)) ∧ OwnF wr w.heap.size (some ⟨g2, 0, none⟩) n L ∧ FL wr VA m vc v ∧ Mbx wr w.heap.size M q A n c ∧ Rbx wr (w.heap.size + 1) VA m vc t ∧ Mbx wr (w.heap.size + 1 + 1) 0 0 none 0 0 ∧ Mbx wr w3.heap.size M q (some ⟨g2, 0, none⟩) n n ∧ Below w.heap.size w wr) (fun i _ _ => q - (intOf i).toNat)
  case atStart => exact ⟨0, l, Nat.zero_le _, rfl, hMr, hO, hv, DM, DH, DZ, DK, bz⟩
  case round =>
    clear hMr hO hv DM DH DZ DK bz h
    obtain ⟨k, L, hk, rfl, hMr, hO, hv, DM, DH, DZ, DK, bz⟩ := hrel
    by_cases hlt : k < q - f
    · have k0 : (0 : Int) ≤ k := by omega
      have k1 : (k : Int) < (q : Int) - (f : Int) := by omega
      obtain ⟨y, hy⟩ : ∃ y, p * q = y := ⟨_, rfl⟩
      obtain ⟨o, ho⟩ : ∃ o, y + f + k = o := ⟨_, rfl⟩
      obtain ⟨o1, ho1⟩ : ∃ o1, y + f = o1 := ⟨_, rfl⟩
      have hon : o < n := by rw [← ho, ← hy, HN.out]; exact tail_lt hp (by omega) hm
      have ey : (p : Int) * (q : Int) = (y : Int) := by exact_mod_cast hy
      have eo1 : (y : Int) + (f : Int) = (o1 : Int) := by omega
      have eo : (o1 : Int) + (k : Int) = (o : Int) := by omega
      have wy : IntKind.i64.wrap (y : Int) = (y : Int) := IntWalk.i64_in _ (by omega)
      have wo : IntKind.i64.wrap (o : Int) = (o : Int) := IntWalk.i64_in _ (by omega)
      have wo1 : IntKind.i64.wrap (o1 : Int) = (o1 : Int) := IntWalk.i64_in _ (by omega)
      have o0 : (0 : Int) ≤ o := by omega
      have o2 : (o : Int) ≤ n := by omega
      have o3 : ¬ n = o := by omega
      have hML := hMr.len
      have hLn : L.length = n := by rw [hML, HN.out]
      have hq0 : 0 < q := by omega
      have hfit : ∀ i, i < m → o + i * q < L.length := fun i hi => by
        rw [hML]
        have := ix_lt (i := p + i) (j := f + k) (m := M) (q := q) (by omega) (by omega)
        rw [Nat.add_mul] at this
        omega
      go_wp2_with fail
      replace hO := hO.drew
      replace hv := hv.drew
      replace DM := DM.drew
      replace DH := DH.drew
      replace DZ := DZ.drew
      replace DK := DK.drew
      replace bz := bz.drew
      refine wp_region_held_drew (S := fun w9 : World => Mbx w9 w.heap.size M q A n c ∧ Rbx w9 (w.heap.size + 1) VA m vc t ∧ Mbx w9 w3.heap.size M q (some ⟨g2, 0, none⟩) n n) (by kernel_rfl) ⟨DM, DH, DK⟩ (fun hS => ?_)
      generalize wr.drew = wd at hS hO hv DM DH DZ DK  bz ⊢
      refine wpAnyH_take (i := 0) (v := ?v0_1) rfl (by kernel_rfl) (by kernel_rfl) (by kernel_rfl) (fun _ _ _ h => h) (Or.inl ⟨by rfl, ?hy0_1⟩) (by assumption) ?rest0_1
      case hy0_1 => (intro w9 hSw; obtain ⟨ma1, ma2, ma3⟩ := hSw; obtain ⟨y0, y1, y2, _, _, _⟩ := Mbx.cells ma1; obtain ⟨u0, u1, _, _⟩ := Rbx.cells ma2; obtain ⟨v0, v1, v2, _, _, _⟩ := Mbx.cells ma3; go_simp; try with_reducible rfl)
      try simp only [Act.put, List.setIfInBounds_toArray, List.set_cons_zero, List.set_cons_succ, List.getElem_toArray, List.getElem_cons_zero, List.getElem_cons_succ]
      refine wpAnyH_take (i := 1) (v := ?v1_2) rfl (by kernel_rfl) (by kernel_rfl) (by kernel_rfl) (fun _ _ _ h => h) (Or.inl ⟨by rfl, ?hy1_2⟩) (by assumption) ?rest1_2
      case hy1_2 => (intro w9 hSw; clear hSw; go_simp; try with_reducible rfl)
      try simp only [Act.put, List.setIfInBounds_toArray, List.set_cons_zero, List.set_cons_succ, List.getElem_toArray, List.getElem_cons_zero, List.getElem_cons_succ]
      refine wpAnyH_take (i := 2) (v := ?v2_3) rfl (by kernel_rfl) (by kernel_rfl) (by kernel_rfl) (fun _ _ _ h => h) (Or.inl ⟨by rfl, ?hy2_3⟩) (by assumption) ?rest2_3
      case hy2_3 => (intro w9 hSw; obtain ⟨ma1, ma2, ma3⟩ := hSw; obtain ⟨y0, y1, y2, _, _, _⟩ := Mbx.cells ma1; obtain ⟨u0, u1, _, _⟩ := Rbx.cells ma2; obtain ⟨v0, v1, v2, _, _, _⟩ := Mbx.cells ma3; go_simp; try with_reducible rfl)
      try simp only [Act.put, List.setIfInBounds_toArray, List.set_cons_zero, List.set_cons_succ, List.getElem_toArray, List.getElem_cons_zero, List.getElem_cons_succ]
      refine wpAnyH_take (i := 3) (v := ?v3_4) rfl (by kernel_rfl) (by kernel_rfl) (by kernel_rfl) (fun _ _ _ h => h) (Or.inl ⟨by rfl, ?hy3_4⟩) (by assumption) ?rest3_4
      case hy3_4 => (intro w9 hSw; clear hSw; go_simp; try with_reducible rfl)
      try simp only [Act.put, List.setIfInBounds_toArray, List.set_cons_zero, List.set_cons_succ, List.getElem_toArray, List.getElem_cons_zero, List.getElem_cons_succ]
      refine wpAnyH_take (i := 4) (v := ?v4_5) rfl (by kernel_rfl) (by kernel_rfl) (by kernel_rfl) (fun _ _ _ h => h) (Or.inl ⟨by rfl, ?hy4_5⟩) (by assumption) ?rest4_5
      case hy4_5 => (intro w9 hSw; clear hSw; go_simp; try with_reducible rfl)
      try simp only [Act.put, List.setIfInBounds_toArray, List.set_cons_zero, List.set_cons_succ, List.getElem_toArray, List.getElem_cons_zero, List.getElem_cons_succ]
      refine wpAnyH_take (i := 5) (v := ?v5_6) rfl (by kernel_rfl) (by kernel_rfl) (by kernel_rfl) (fun _ _ _ h => h) (Or.inl ⟨by rfl, ?hy5_6⟩) (by assumption) ?rest5_6
      case hy5_6 => (intro w9 hSw; obtain ⟨ma1, ma2, ma3⟩ := hSw; obtain ⟨y0, y1, y2, _, _, _⟩ := Mbx.cells ma1; obtain ⟨u0, u1, _, _⟩ := Rbx.cells ma2; obtain ⟨v0, v1, v2, _, _, _⟩ := Mbx.cells ma3; go_simp; try with_reducible rfl)
      try simp only [Act.put, List.setIfInBounds_toArray, List.set_cons_zero, List.set_cons_succ, List.getElem_toArray, List.getElem_cons_zero, List.getElem_cons_succ]
      refine wpAnyH_take (i := 6) (v := ?v6_7) rfl (by kernel_rfl) (by kernel_rfl) (by kernel_rfl) (fun _ _ _ h => h) (Or.inl ⟨by rfl, ?hy6_7⟩) (by assumption) ?rest6_7
      case hy6_7 => (intro w9 hSw; clear hSw; go_simp; try with_reducible rfl)
      try simp only [Act.put, List.setIfInBounds_toArray, List.set_cons_zero, List.set_cons_succ, List.getElem_toArray, List.getElem_cons_zero, List.getElem_cons_succ]
      refine wpAnyH_take (i := 7) (v := ?v7_8) rfl (by kernel_rfl) (by kernel_rfl) (by kernel_rfl) (fun _ _ _ h => h) (Or.inl ⟨by rfl, ?hy7_8⟩) (by assumption) ?rest7_8
      case hy7_8 => (intro w9 hSw; clear hSw; go_simp; try with_reducible rfl)
      try simp only [Act.put, List.setIfInBounds_toArray, List.set_cons_zero, List.set_cons_succ, List.getElem_toArray, List.getElem_cons_zero, List.getElem_cons_succ]
      refine wpAnyH_take (i := 8) (v := ?v8_9) rfl (by kernel_rfl) (by kernel_rfl) (by kernel_rfl) (fun _ _ _ h => h) (Or.inl ⟨by rfl, ?hy8_9⟩) (by assumption) ?rest8_9
      case hy8_9 => (intro w9 hSw; clear hSw; go_simp; try with_reducible rfl)
      try simp only [Act.put, List.setIfInBounds_toArray, List.set_cons_zero, List.set_cons_succ, List.getElem_toArray, List.getElem_cons_zero, List.getElem_cons_succ]
      refine wpAnyH_take (i := 9) (v := ?v9_10) rfl (by kernel_rfl) (by kernel_rfl) (by kernel_rfl) (fun _ _ _ h => h) (Or.inl ⟨by rfl, ?hy9_10⟩) (by assumption) ?rest9_10
      case hy9_10 => (intro w9 hSw; clear hSw; go_simp; try with_reducible rfl)
      try simp only [Act.put, List.setIfInBounds_toArray, List.set_cons_zero, List.set_cons_succ, List.getElem_toArray, List.getElem_cons_zero, List.getElem_cons_succ]
      refine wpAnyH_take (i := 10) (v := ?v10_11) rfl (by kernel_rfl) (by kernel_rfl) (by kernel_rfl) (fun _ _ _ h => h) (Or.inl ⟨by rfl, ?hy10_11⟩) (by assumption) ?rest10_11
      case hy10_11 => (intro w9 hSw; clear hSw; go_simp; try with_reducible rfl)
      try simp only [Act.put, List.setIfInBounds_toArray, List.set_cons_zero, List.set_cons_succ, List.getElem_toArray, List.getElem_cons_zero, List.getElem_cons_succ]
      refine wpAnyH_take (i := 11) (v := ?v11_12) rfl (by kernel_rfl) (by kernel_rfl) (by kernel_rfl) (fun _ _ _ h => h) (Or.inl ⟨by rfl, ?hy11_12⟩) (by assumption) ?rest11_12
      case hy11_12 => (intro w9 hSw; clear hSw; go_simp; try with_reducible rfl)
      try simp only [Act.put, List.setIfInBounds_toArray, List.set_cons_zero, List.set_cons_succ, List.getElem_toArray, List.getElem_cons_zero, List.getElem_cons_succ]
      refine wpAnyH_take (i := 12) (v := ?v12_13) rfl (by kernel_rfl) (by kernel_rfl) (by kernel_rfl) (fun _ _ _ h => h) (Or.inl ⟨by rfl, ?hy12_13⟩) (by assumption) ?rest12_13
      case hy12_13 => (intro w9 hSw; clear hSw; go_simp; try with_reducible rfl)
      try simp only [Act.put, List.setIfInBounds_toArray, List.set_cons_zero, List.set_cons_succ, List.getElem_toArray, List.getElem_cons_zero, List.getElem_cons_succ]
      refine wpAnyH_take (i := 13) (v := ?v13_14) rfl (by kernel_rfl) (by kernel_rfl) (by kernel_rfl) (fun _ _ _ h => h) (Or.inl ⟨by rfl, ?hy13_14⟩) (by assumption) ?rest13_14
      case hy13_14 => (intro w9 hSw; obtain ⟨ma1, ma2, ma3⟩ := hSw; obtain ⟨y0, y1, y2, _, _, _⟩ := Mbx.cells ma1; obtain ⟨u0, u1, _, _⟩ := Rbx.cells ma2; obtain ⟨v0, v1, v2, _, _, _⟩ := Mbx.cells ma3; go_simp; try with_reducible rfl)
      try simp only [Act.put, List.setIfInBounds_toArray, List.set_cons_zero, List.set_cons_succ, List.getElem_toArray, List.getElem_cons_zero, List.getElem_cons_succ]
      refine wpAnyH_ready (rs := [14]) (by kernel_rfl) (by simp) ?_
      refine AllReadyH.cons rfl (fun K hK => ?_) AllReadyH.nil
      go_simp
      have ptn := turn_any (w := wd) (q := q) (o := o) (n := n - o) (ec := n - o) hv ht hO hMr.wd hVA hfit (by rw [hLn]; omega) (Nat.le_refl _) (by omega) hq0
      with_reducible refine ptn.mono ?_
      rintro e w9 ⟨L2, rfl, hO9, hT9, hg9⟩
      clear ptn
      replace DM := DM.grown hg9 (by simp; omega)
      replace DH := DH.grown hg9 (by simp; omega)
      replace DZ := DZ.grown hg9 (by simp; omega)
      replace DK := DK.grown hg9 (by simp; omega)
      replace hv := hv.farB hg9 hVA
      replace bz := below_grown bz hg9 (by omega) bz.size
      replace hO := hO9
      clear hO9 hg9
      clear hS; refine hK.out _ _ ⟨DM, DH, DK⟩ (fun hS => ?_); clear hK K
      try simp only [Act.put, List.setIfInBounds_toArray, List.set_cons_zero, List.set_cons_succ, List.getElem_toArray, List.getElem_cons_zero, List.getElem_cons_succ]
      refine wpAnyH_done (by kernel_rfl) ?_ _
      have hM9 := hMr.left (o := o) (by omega) (by omega) hp hT9
      clear hT9 hMr
      go_wp2_with fail
      go_roundw
      case rel => exact ⟨k + 1, L2, by omega, by go_num, hM9, hO, hv, DM, DH, DZ, DK, bz⟩
      case measure => simp [intOf]; omega
    · obtain rfl : k = q - f := by omega
      obtain ⟨v0, v1, v2, v3, v4, v5⟩ := Mbx.cells DK
      obtain ⟨z0, z1, z2, z3, z4, z5⟩ := Mbx.cells DZ
      have DZ9 := Mbx.put DZ M q (some ⟨g2, 0, none⟩) n n
      obtain ⟨c0, c1, c2, _, _, _⟩ := Mbx.cells DZ9
      have hO9 := hO.grown_ (row := some (w.heap.size + 1 + 1)) (w' := ((wr.setCell ⟨w.heap.size + 1 + 1, 0, none⟩ (.int .i64 M)).setCell ⟨w.heap.size + 1 + 1, 1, none⟩ (.int .i64 q)).setCell ⟨w.heap.size + 1 + 1, 2, none⟩ (.slice (some ⟨g2, 0, none⟩) n n)) (grown_setCell (grown_setCell (grown_setCell (World.grownBy.refl wr _) 0 _) 1 _) 2 _) (fun a e => by injection e with e; subst e; simp; omega)
      have bz9 := ((bz.setCell (p := ⟨w.heap.size + 1 + 1, 0, none⟩) (by simp; omega) (.int .i64 M)).setCell (p := ⟨w.heap.size + 1 + 1, 1, none⟩) (by simp; omega) (.int .i64 q)).setCell (p := ⟨w.heap.size + 1 + 1, 2, none⟩) (by simp; omega) (.slice (some ⟨g2, 0, none⟩) n n)
      have hI := hMr.is
      rw [← HN.out] at hI
      go_wp2_with fail
      refine bodyPost_ret (v := .tuple #[mV M q (some ⟨g2, 0, none⟩) n n, .int .i64 0]) (by simp [results, Tryz.results7, go_sem, c0, c1, c2]) rfl ?_
      exact ⟨g2, n, L, rfl, hO9, hI, bz9⟩

end Go.Proofs.YtcdbjlmegkcaiaaGreatDoor
