/-
  Layer 10, walks: a tridiagonal as a matrix, by the reference. (Written by wip/tools/gen_tdd.py.)
-/
import Derived.Test.YtaemkjcmjgefeaaTdC
import Derived.Test.YtaemkjcmjgefeaaTdB
namespace Go.Proofs.Ytaemkjcmjgefeaa
open Go.RowKit Go.Bw
set_option linter.unusedVariables false
set_option linter.unusedSimpArgs false
attribute [local go_sem] run_store_float

theorem fl_far {w w' : World} {A : Option Addr} {n c g : Nat} {l : List Int} (h : FL w A n c l) (hg : w.grownBy w' (some g)) (hA : ∀ x, A = some x → 0 < n → x.block ≠ g) : FL w' A n c l := by
  rcases Nat.eq_zero_or_pos n with h0 | h0
  · subst h0
    exact ⟨h.1, ⟨h.2.1.1, h.2.1.2.1, fun hn => by rw [h.1] at hn; omega⟩, h.2.2⟩
  · exact h.farB hg (fun a e => hA a e h0)
def upd (f : Nat → Option Nat) (z : Nat) (v : Option Nat) (j : Nat) : Option Nat := if j = z then v else f j
theorem Is.upd {L : List Int} {N z : Nat} {f : Nat → Option Nat} (h : Is L N f) {x : Int} (x0 : 0 ≤ x) (x1 : x ≤ 18446744073709551615) {v : Option Nat} (hz : z < N) (hx : fa x = v) : Is (L.set z x) N (upd f z v) :=
  h.set x0 x1 hz (by unfold _root_.Go.Proofs.Ytaemkjcmjgefeaa.upd; rw [if_pos rfl]; exact hx) (fun j _ hne => by unfold _root_.Go.Proofs.Ytaemkjcmjgefeaa.upd; rw [if_neg hne])
/-- the first k rows and columns -/
def fullF (d e : List Int) (n k z : Nat) : Option Nat :=
  if z / n = z % n ∧ z % n < k then fa (D d (z % n)) else if z % n + 1 = z / n ∧ z / n < k then fa (D e (z % n)) else if z / n + 1 = z % n ∧ z % n < k then fa (D e (z / n)) else some 0
theorem fullF_zero (d e : List Int) (n : Nat) : Is (List.replicate (n * n) 0) (n * n) (fullF d e n 0) :=
  (oneF_zero n).congr (fun k _ => by
    unfold fullF oneF
    rw [if_neg (by omega), if_neg (by omega), if_neg (by omega), if_neg (by omega)])
theorem pos_iff {n i j z : Nat} (hi : i < n) (hj : j < n) (hz : z < n * n) : z = i * n + j ↔ z / n = i ∧ z % n = j :=
  ⟨fun h => by rw [h]; exact ix_div hj, fun h => ix_back h.1 h.2⟩
theorem full_first {d e : List Int} {n j : Nat} (hn : 0 < n) (hj : j < n * n) : upd (fullF d e n 0) 0 (fa (D d 0)) j = fullF d e n 1 j := by
  have p := pos_iff (i := 0) (j := 0) hn hn hj
  rw [Nat.zero_mul, Nat.zero_add] at p
  unfold upd fullF
  generalize j / n = r at *
  generalize j % n = c at *
  by_cases h : j = 0
  · obtain ⟨rfl, rfl⟩ := p.1 h
    rw [if_pos h, if_pos (by omega)]
  · have h2 : ¬ (r = 0 ∧ c = 0) := fun q => h (p.2 q)
    rw [if_neg h, if_neg (by omega), if_neg (by omega), if_neg (by omega), if_neg (by omega), if_neg (by omega), if_neg (by omega)]
theorem full_next {d e : List Int} {n k j : Nat} (hk : k + 1 < n) (hj : j < n * n) :
    upd (upd (upd (fullF d e n (k + 1)) ((k + 1) * n + (k + 1)) (fa (D d (k + 1)))) ((k + 1) * n + k) (fa (D e k))) (k * n + (k + 1)) (fa (D e k)) j = fullF d e n (k + 2) j := by
  have p1 := pos_iff (i := k + 1) (j := k + 1) hk hk hj
  have p2 := pos_iff (i := k + 1) (j := k) hk (by omega) hj
  have p3 := pos_iff (i := k) (j := k + 1) (by omega) hk hj
  unfold upd fullF
  generalize j / n = r at *
  generalize j % n = c at *
  by_cases h3 : j = k * n + (k + 1)
  · obtain ⟨rfl, rfl⟩ := p3.1 h3
    rw [if_pos h3, if_neg (by omega), if_neg (by omega), if_pos (by omega)]
  · rw [if_neg h3]
    have q3 : ¬ (r = k ∧ c = k + 1) := fun q => h3 (p3.2 q)
    by_cases h2 : j = (k + 1) * n + k
    · obtain ⟨rfl, rfl⟩ := p2.1 h2
      rw [if_pos h2, if_neg (by omega), if_pos (by omega)]
    · rw [if_neg h2]
      have q2 : ¬ (r = k + 1 ∧ c = k) := fun q => h2 (p2.2 q)
      by_cases h1 : j = (k + 1) * n + (k + 1)
      · obtain ⟨rfl, rfl⟩ := p1.1 h1
        rw [if_pos h1, if_pos (by omega)]
      · rw [if_neg h1]
        have q1 : ¬ (r = k + 1 ∧ c = k + 1) := fun q => h1 (p1.2 q)
        by_cases c1 : r = c ∧ c < k + 1
        · rw [if_pos c1, if_pos (show r = c ∧ c < k + 2 by omega)]
        · rw [if_neg c1, if_neg (show ¬ (r = c ∧ c < k + 2) by omega)]
          by_cases c2 : c + 1 = r ∧ r < k + 1
          · rw [if_pos c2, if_pos (show c + 1 = r ∧ r < k + 2 by omega)]
          · rw [if_neg c2, if_neg (show ¬ (c + 1 = r ∧ r < k + 2) by omega)]
            by_cases c3 : r + 1 = c ∧ c < k + 1
            · rw [if_pos c3, if_pos (show r + 1 = c ∧ c < k + 2 by omega)]
            · rw [if_neg c3, if_neg (show ¬ (r + 1 = c ∧ c < k + 2) by omega)]

set_option maxRecDepth 100000 in
set_option maxHeartbeats 16000000 in
theorem rFull_any {A A2 : Option Addr} {n c m c2 : Nat} {d e : List Int} {w : World} (h : FL w A n c d) (h2 : FL w A2 m c2 e) (hn : n ≤ 512) (hm : m + 1 = n ∨ (n = 0 ∧ m = 0)) :
    Calls Try.prog 20 #[tV A n c A2 m c2] w (MatQ w n n (n * n) (fullF d e n n)) := by
  have hmn := h.max
  have hmm := h2.max
  have h0 := fullF_zero d e n
  obtain ⟨N, hN⟩ : ∃ N, n * n = N := ⟨_, rfl⟩
  have n4 : N ≤ 262144 := by rw [← hN]; exact Nat.le_trans (Nat.mul_le_mul hn hn) (by decide)
  have eN : (n : Int) * (n : Int) = (N : Int) := by exact_mod_cast hN
  have wN : IntKind.i64.wrap (N : Int) = (N : Int) := IntWalk.i64_in _ (by omega)
  have hmk := run_makeF N (by omega)
  rw [hN] at h0 ⊢
  have HN := Lib.hid hN
  clear hN
  have hDA : ∀ x, A = some x → 0 < n → x.block < w.heap.size := fun x e h9 => by obtain ⟨y, e2, hy, _⟩ := h.at_ h9; rw [e2] at e; injection e with e; rw [← e]; exact hy
  have hDE : ∀ x, A2 = some x → 0 < m → x.block < w.heap.size := fun x e h9 => by obtain ⟨y, e2, hy, _⟩ := h2.at_ h9; rw [e2] at e; injection e with e; rw [← e]; exact hy
  have DT := (Blk.new w [.slice A n c, .slice A2 m c2] 28).alloc (.cells #[.int .i64 0, .int .i64 0, .slice none 0 0] 24)
  have DZ := Blk.new (w.alloc (.cells #[.slice A n c, .slice A2 m c2] 28)) [.int .i64 0, .int .i64 0, .slice none 0 0] 24
  rw [World.size_alloc] at DZ
  have bz := ((Below.refl _ w).alloc (Nat.le_refl _) (.cells #[.slice A n c, .slice A2 m c2] 28)).alloc (by simp) (.cells #[.int .i64 0, .int .i64 0, .slice none 0 0] 24)
  replace h := h.on bz
  replace h2 := h2.on bz
  have hs1 : ((w.alloc (.cells #[.slice A n c, .slice A2 m c2] 28)).alloc (.cells #[.int .i64 0, .int .i64 0, .slice none 0 0] 24)).heap.size = w.heap.size + 1 + 1 := by simp
  go_enter Try.func20, Try.ntmps20
  go_upto_region 1 with fail
  generalize (w.alloc (.cells #[.slice A n c, .slice A2 m c2] 28)).alloc (.cells #[.int .i64 0, .int .i64 0, .slice none 0 0] 24) = W1 at DT DZ bz hs1 h h2 ⊢
  obtain ⟨t0, t1, _, _⟩ := Tbx.cells DT
  go_upto_region 2 with fail
  clear t0 t1
  have hO : OwnF (W1.alloc (.cells (LF (List.replicate N 0)).toArray 39)) w.heap.size (some ⟨W1.heap.size, 0, none⟩) N (List.replicate N 0) := by
    have h9 := RowF.own (g := W1.heap.size) (B := w.heap.size) (RowF.new W1 (List.replicate N 0)) N (by simp) (by simp; unfold maxLen; omega) (by omega)
    simpa using h9
  have hs2 := World.size_alloc W1 (.cells (LF (List.replicate N 0)).toArray 39)
  have DK := Blk.new (W1.alloc (.cells (LF (List.replicate N 0)).toArray 39)) [.int .i64 n, .int .i64 n, .slice (some ⟨w.heap.size + 1 + 1, 0, none⟩) N N] 24
  rw [hs2, hs1] at DK
  rw [hs1] at hO
  replace hO := hO.alloc_ (.cells #[.int .i64 n, .int .i64 n, .slice (some ⟨w.heap.size + 1 + 1, 0, none⟩) N N] 24)
  have hb2 := ((Below.refl _ W1).alloc (Nat.le_refl _) (.cells (LF (List.replicate N 0)).toArray 39)).alloc (by simp) (.cells #[.int .i64 n, .int .i64 n, .slice (some ⟨w.heap.size + 1 + 1, 0, none⟩) N N] 24)
  replace DZ := DZ.on hb2
  replace DT := DT.on hb2
  replace h := h.on hb2
  replace h2 := h2.on hb2
  replace bz := bz.trans (hb2.mono bz.size)
  clear hb2
  go_upto_region 3 with fail
  generalize (W1.alloc (.cells (LF (List.replicate N 0)).toArray 39)).alloc (.cells #[.int .i64 n, .int .i64 n, .slice (some ⟨w.heap.size + 1 + 1, 0, none⟩) N N] 24) = W2 at DZ DT h h2 hO DK bz ⊢
  clear hs1 hs2 hmk wN eN
  obtain ⟨g, hg⟩ : ∃ g, w.heap.size + 1 + 1 = g := ⟨_, rfl⟩
  rw [hg] at hO DK ⊢
  go_wp2_with fail
  go_loopw [5] (fun i wr => ∃ (k : Nat) (L : List Int), k ≤ n ∧ i = .int .i64 k ∧ Is L N (fullF d e n k) ∧ OwnF wr w.heap.size (some ⟨g, 0, none⟩) N L ∧ FL wr A n c d ∧ FL wr A2 m c2 e ∧ Tbx wr w.heap.size A n c A2 m c2 ∧ Mbx wr (w.heap.size + 1) 0 0 none 0 0 ∧ Mbx wr (g + 1) n n (some ⟨g, 0, none⟩) N N ∧ Below w.heap.size w wr) (fun i _ => n - (intOf i).toNat)
  case atStart => exact ⟨0, _, Nat.zero_le _, rfl, h0, hO, h, h2, DT, DZ, DK, bz⟩
  case round =>
    clear h0 hO h h2 DT DZ DK bz
    obtain ⟨k, L, hk, rfl, hI, hO, h, h2, DT, DZ, DK, bz⟩ := hrel
    have hlen := hI.len
    by_cases hlt : k < n
    · skip
      have kk : (k : Int) < n := by omega
      have kk0 : (0 : Int) ≤ k := by omega
      have n0 : 0 < n := by omega
      obtain ⟨ya, hya⟩ : ∃ y, k * n = y := ⟨_, rfl⟩
      obtain ⟨za, hza⟩ : ∃ z, ya + k = z := ⟨_, rfl⟩
      have hNa : za < N := by rw [← hza, ← hya, ← HN.out]; exact ix_lt (by omega) (by omega)
      have HZa : Hid (k * n + k = za) := Lib.hid (by rw [← hza, ← hya])
      have eya : (k : Int) * (n : Int) = (ya : Int) := by exact_mod_cast hya
      have eza : (ya : Int) + (k : Int) = (za : Int) := by omega
      have wya : IntKind.i64.wrap (ya : Int) = (ya : Int) := IntWalk.i64_in _ (by omega)
      have wza : IntKind.i64.wrap (za : Int) = (za : Int) := IntWalk.i64_in _ (by omega)
      have z0a : (0 : Int) ≤ za := by omega
      have z1a : (za : Int) < N := by omega
      clear hya hza
      obtain ⟨x1, x2⟩ := h.2.2.at_ k
      obtain ⟨YD, hYD⟩ : ∃ Y, (D d k).toNat = Y := ⟨_, rfl⟩
      have bD : YD ≤ 18446744073709551615 := by omega
      have HD : Hid (fa (YD : Int) = fa (D d k)) := Lib.hid (by rw [fa_nat, ← hYD]; rfl)
      clear x1 x2
      obtain ⟨adD, hA9, _, _⟩ := h.at_ hlt
      have hbD := hDA adD hA9 n0
      subst hA9
      have hc9 : wr.cell? (adD.add k) = some (.float .f64 YD) := by have h9 := h.2.1.at_some (k := k) (by rw [h.1]; omega); rw [hYD] at h9; exact h9
      have hbk : adD.block ≠ g := by omega
      have hlen6 := hI.len
      go_wp2_with fail
      replace hO := hO.drew
      replace h := h.drew
      replace h2 := h2.drew
      replace DT := DT.drew
      replace DZ := DZ.drew
      replace DK := DK.drew
      replace bz := bz.drew
      replace hc9 : wr.drew.cell? (adD.add k) = some (.float .f64 YD) := hc9
      refine wp_region_held_drew (S := fun w9 : World => Mbx w9 (g + 1) n n (some ⟨g, 0, none⟩) N N ∧ Tbx w9 w.heap.size (some adD) n c A2 m c2 ∧ w9.cell? (adD.add k) = some (.float .f64 YD)) (by kernel_rfl) ⟨DK, DT, hc9⟩ (fun hS => ?_)
      generalize wr.drew = wl6 at hS hO h h2 DT DZ DK hc9 bz ⊢
      refine wpAnyH_take (i := 0) (v := ?v0_1) rfl (by kernel_rfl) (by kernel_rfl) (by kernel_rfl) (fun _ _ _ h => h) (Or.inl ⟨by rfl, ?hy0_1⟩) (by assumption) ?rest0_1
      case hy0_1 => (intro w9 hSw; clear hSw; go_simp; try with_reducible rfl)
      try simp only [Act.put, List.setIfInBounds_toArray, List.set_cons_zero, List.set_cons_succ, List.getElem_toArray, List.getElem_cons_zero, List.getElem_cons_succ]
      refine wpAnyH_take (i := 1) (v := ?v1_2) rfl (by kernel_rfl) (by kernel_rfl) (by kernel_rfl) (fun _ _ _ h => h) (Or.inl ⟨by rfl, ?hy1_2⟩) (by assumption) ?rest1_2
      case hy1_2 => (intro w9 hSw; obtain ⟨ma1, ma2, ma3⟩ := hSw; obtain ⟨y0, y1, y2, _, _, _⟩ := Mbx.cells ma1; obtain ⟨u0, u1, _, _⟩ := Tbx.cells ma2; go_simp; try with_reducible rfl)
      try simp only [Act.put, List.setIfInBounds_toArray, List.set_cons_zero, List.set_cons_succ, List.getElem_toArray, List.getElem_cons_zero, List.getElem_cons_succ]
      refine wpAnyH_take (i := 2) (v := ?v2_3) rfl (by kernel_rfl) (by kernel_rfl) (by kernel_rfl) (fun _ _ _ h => h) (Or.inl ⟨by rfl, ?hy2_3⟩) (by assumption) ?rest2_3
      case hy2_3 => (intro w9 hSw; clear hSw; go_simp; try with_reducible rfl)
      try simp only [Act.put, List.setIfInBounds_toArray, List.set_cons_zero, List.set_cons_succ, List.getElem_toArray, List.getElem_cons_zero, List.getElem_cons_succ]
      refine wpAnyH_take (i := 3) (v := ?v3_4) rfl (by kernel_rfl) (by kernel_rfl) (by kernel_rfl) (fun _ _ _ h => h) (Or.inl ⟨by rfl, ?hy3_4⟩) (by assumption) ?rest3_4
      case hy3_4 => (intro w9 hSw; clear hSw; go_simp; try with_reducible rfl)
      try simp only [Act.put, List.setIfInBounds_toArray, List.set_cons_zero, List.set_cons_succ, List.getElem_toArray, List.getElem_cons_zero, List.getElem_cons_succ]
      refine wpAnyH_take (i := 4) (v := ?v4_5) rfl (by kernel_rfl) (by kernel_rfl) (by kernel_rfl) (fun _ _ _ h => h) (Or.inl ⟨by rfl, ?hy4_5⟩) (by assumption) ?rest4_5
      case hy4_5 => (intro w9 hSw; clear hSw; go_simp; try with_reducible rfl)
      try simp only [Act.put, List.setIfInBounds_toArray, List.set_cons_zero, List.set_cons_succ, List.getElem_toArray, List.getElem_cons_zero, List.getElem_cons_succ]
      refine wpAnyH_take (i := 5) (v := ?v5_6) rfl (by kernel_rfl) (by kernel_rfl) (by kernel_rfl) (fun _ _ _ h => h) (Or.inl ⟨by rfl, ?hy5_6⟩) (by assumption) ?rest5_6
      case hy5_6 => (intro w9 hSw; clear hSw; go_simp; try with_reducible rfl)
      try simp only [Act.put, List.setIfInBounds_toArray, List.set_cons_zero, List.set_cons_succ, List.getElem_toArray, List.getElem_cons_zero, List.getElem_cons_succ]
      refine wpAnyH_take (i := 6) (v := ?v6_7) rfl (by kernel_rfl) (by kernel_rfl) (by kernel_rfl) (fun _ _ _ h => h) (Or.inl ⟨by rfl, ?hy6_7⟩) (by assumption) ?rest6_7
      case hy6_7 => (intro w9 hSw; clear hSw; go_simp; try with_reducible rfl)
      try simp only [Act.put, List.setIfInBounds_toArray, List.set_cons_zero, List.set_cons_succ, List.getElem_toArray, List.getElem_cons_zero, List.getElem_cons_succ]
      refine wpAnyH_take (i := 7) (v := ?v7_8) rfl (by kernel_rfl) (by kernel_rfl) (by kernel_rfl) (fun _ _ _ h => h) (Or.inl ⟨by rfl, ?hy7_8⟩) (by assumption) ?rest7_8
      case hy7_8 => (intro w9 hSw; clear hSw; go_simp; try with_reducible rfl)
      try simp only [Act.put, List.setIfInBounds_toArray, List.set_cons_zero, List.set_cons_succ, List.getElem_toArray, List.getElem_cons_zero, List.getElem_cons_succ]
      refine wpAnyH_take (i := 8) (v := ?v8_9) rfl (by kernel_rfl) (by kernel_rfl) (by kernel_rfl) (fun _ _ _ h => h) (Or.inl ⟨by rfl, ?hy8_9⟩) (by assumption) ?rest8_9
      case hy8_9 => (intro w9 hSw; obtain ⟨ma1, ma2, ma3⟩ := hSw; obtain ⟨y0, y1, y2, _, _, _⟩ := Mbx.cells ma1; obtain ⟨u0, u1, _, _⟩ := Tbx.cells ma2; go_simp; try with_reducible rfl)
      try simp only [Act.put, List.setIfInBounds_toArray, List.set_cons_zero, List.set_cons_succ, List.getElem_toArray, List.getElem_cons_zero, List.getElem_cons_succ]
      refine wpAnyH_take (i := 9) (v := ?v9_10) rfl (by kernel_rfl) (by kernel_rfl) (by kernel_rfl) (fun _ _ _ h => h) (Or.inl ⟨by rfl, ?hy9_10⟩) (by assumption) ?rest9_10
      case hy9_10 => (intro w9 hSw; clear hSw; go_simp; try with_reducible rfl)
      try simp only [Act.put, List.setIfInBounds_toArray, List.set_cons_zero, List.set_cons_succ, List.getElem_toArray, List.getElem_cons_zero, List.getElem_cons_succ]
      refine wpAnyH_take (i := 10) (v := ?v10_11) rfl (by kernel_rfl) (by kernel_rfl) (by kernel_rfl) (fun _ _ _ h => h) (Or.inl ⟨by rfl, ?hy10_11⟩) (by assumption) ?rest10_11
      case hy10_11 => (intro w9 hSw; clear hSw; go_simp; try with_reducible rfl)
      try simp only [Act.put, List.setIfInBounds_toArray, List.set_cons_zero, List.set_cons_succ, List.getElem_toArray, List.getElem_cons_zero, List.getElem_cons_succ]
      refine wpAnyH_take (i := 11) (v := ?v11_12) rfl (by kernel_rfl) (by kernel_rfl) (by kernel_rfl) (fun _ _ _ h => h) (Or.inl ⟨by rfl, ?hy11_12⟩) (by assumption) ?rest11_12
      case hy11_12 => (intro w9 hSw; obtain ⟨ma1, ma2, ma3⟩ := hSw; obtain ⟨y0, y1, y2, _, _, _⟩ := Mbx.cells ma1; obtain ⟨u0, u1, _, _⟩ := Tbx.cells ma2; go_simp; try with_reducible rfl)
      try simp only [Act.put, List.setIfInBounds_toArray, List.set_cons_zero, List.set_cons_succ, List.getElem_toArray, List.getElem_cons_zero, List.getElem_cons_succ]
      refine wpAnyH_take (i := 12) (v := ?v12_13) rfl (by kernel_rfl) (by kernel_rfl) (by kernel_rfl) (fun _ _ _ h => h) (Or.inl ⟨by rfl, ?hy12_13⟩) (by assumption) ?rest12_13
      case hy12_13 => (intro w9 hSw; clear hSw; go_simp; try with_reducible rfl)
      try simp only [Act.put, List.setIfInBounds_toArray, List.set_cons_zero, List.set_cons_succ, List.getElem_toArray, List.getElem_cons_zero, List.getElem_cons_succ]
      obtain ⟨hy4, hy5⟩ := hO.at' (k := za) (by rw [hlen6]; omega)
      refine wpAnyH_ready (rs := [13]) (by kernel_rfl) (by simp) ?_
      refine AllReadyH.cons rfl (fun K hK => ?_) AllReadyH.nil
      go_simp
      clear hy4 hy5
      have hgs : wl6.grownBy (wl6.setCell ⟨g, za, none⟩ (.float .f64 YD)) (some g) := grown_setCell (World.grownBy.refl wl6 _) _ _
      replace DT := DT.grown hgs (by simp; omega)
      replace DZ := DZ.grown hgs (by simp; omega)
      replace DK := DK.grown hgs (by simp)
      replace h := fl_far h hgs (fun x e h9 => by have := hDA x e h9; omega)
      replace h2 := fl_far h2 hgs (fun x e h9 => by have := hDE x e h9; omega)
      replace hc9 : (wl6.setCell ⟨g, za, none⟩ (.float .f64 YD)).cell? (adD.add k) = some (.float .f64 YD) := (World.cell?_of_block (Below.heap_setCell _ ⟨g, za, none⟩ _ _ (by simp only [add_block]; exact hbk))).trans hc9
      replace hO := hO.set_ za (YD : Int)
      rw [show fV (YD : Int) = .float .f64 YD from rfl] at hO
      replace bz := bz.setCell (p := ⟨g, za, none⟩) (by show w.heap.size ≤ g; omega) (.float .f64 YD)
      clear hgs
      clear hS; refine hK.out _ _ ⟨DK, DT, hc9⟩ (fun hS => ?_); clear hK K
      try simp only [Act.put, List.setIfInBounds_toArray, List.set_cons_zero, List.set_cons_succ, List.getElem_toArray, List.getElem_cons_zero, List.getElem_cons_succ]
      refine wpAnyH_done (by kernel_rfl) ?_ _
      have hI6 := Is.upd hI (z := za) (x := (YD : Int)) (by omega) (by omega) (by omega) HD.out
      clear hS hc9 hbk
      generalize (wl6.setCell ⟨g, za, none⟩ (.float .f64 YD)) = Ws6 at hO h h2 DT DZ DK bz ⊢
      rcases Nat.eq_zero_or_pos k with k0 | k0
      · subst k0
        have q0 : ¬ (0 : Int) < ((0 : Nat) : Int) := by omega
        have ze : za = 0 := by have := HZa.out; omega
        subst ze
        have hI9 : Is (L.set 0 (YD : Int)) N (fullF d e n 1) := hI6.congr (fun j hj => by rw [← HN.out] at hj; exact full_first n0 hj)
        go_wp2_with fail
        go_roundw
        case rel => exact ⟨1, _, by omega, by go_num, hI9, hO, h, h2, DT, DZ, DK, bz⟩
        case measure => simp [intOf]; omega
      · obtain ⟨kp, hkp⟩ : ∃ kp, kp + 1 = k := ⟨k - 1, by omega⟩
        have HKP := Lib.hid hkp
        have q0 : (0 : Int) < (k : Int) := by omega
        have q1 : (k : Int) - 1 = (kp : Int) := by omega
        have w1 : IntKind.i64.wrap (kp : Int) = (kp : Int) := IntWalk.i64_in _ (by omega)
        have kp0 : (0 : Int) ≤ kp := by omega
        have kpm : (kp : Int) < m := by omega
        have kpn : kp < n := by omega
        obtain ⟨zb, hzb⟩ : ∃ zb, za - 1 = zb := ⟨_, rfl⟩
        have zp : 0 < za := by have := HZa.out; omega
        have ezb : (za : Int) - 1 = (zb : Int) := by omega
        have wzb : IntKind.i64.wrap (zb : Int) = (zb : Int) := IntWalk.i64_in _ (by omega)
        have hNb : zb < N := by omega
        have z0b : (0 : Int) ≤ zb := by omega
        have z1b : (zb : Int) < N := by omega
        have HZb : Hid (k * n + kp = zb) := Lib.hid (by have := HZa.out; omega)
        clear hzb zp hkp
        obtain ⟨x1, x2⟩ := h2.2.2.at_ kp
        obtain ⟨YE, hYE⟩ : ∃ Y, (D e kp).toNat = Y := ⟨_, rfl⟩
        have bE : YE ≤ 18446744073709551615 := by omega
        have HE : Hid (fa (YE : Int) = fa (D e kp)) := Lib.hid (by rw [fa_nat, ← hYE]; rfl)
        clear x1 x2
        obtain ⟨adE, hE9, _, _⟩ := h2.at_ (k := kp) (by omega)
        have hbE := hDE adE hE9 (by omega)
        subst hE9
        have hc9 : Ws6.cell? (adE.add kp) = some (.float .f64 YE) := by have h9 := h2.2.1.at_some (k := kp) (by rw [h2.1]; omega); rw [hYE] at h9; exact h9
        have hbk : adE.block ≠ g := by omega
        have hlen8 := hI6.len
        go_wp2_with fail
        replace hO := hO.drew
        replace h := h.drew
        replace h2 := h2.drew
        replace DT := DT.drew
        replace DZ := DZ.drew
        replace DK := DK.drew
        replace bz := bz.drew
        replace hc9 : Ws6.drew.cell? (adE.add kp) = some (.float .f64 YE) := hc9
        refine wp_region_held_drew (S := fun w9 : World => Mbx w9 (g + 1) n n (some ⟨g, 0, none⟩) N N ∧ Tbx w9 w.heap.size (some adD) n c (some adE) m c2 ∧ w9.cell? (adE.add kp) = some (.float .f64 YE)) (by kernel_rfl) ⟨DK, DT, hc9⟩ (fun hS => ?_)
        generalize Ws6.drew = wl8 at hS hO h h2 DT DZ DK hc9 bz ⊢
        refine wpAnyH_take (i := 0) (v := ?v0_14) rfl (by kernel_rfl) (by kernel_rfl) (by kernel_rfl) (fun _ _ _ h => h) (Or.inl ⟨by rfl, ?hy0_14⟩) (by assumption) ?rest0_14
        case hy0_14 => (intro w9 hSw; clear hSw; go_simp; try with_reducible rfl)
        try simp only [Act.put, List.setIfInBounds_toArray, List.set_cons_zero, List.set_cons_succ, List.getElem_toArray, List.getElem_cons_zero, List.getElem_cons_succ]
        refine wpAnyH_take (i := 1) (v := ?v1_15) rfl (by kernel_rfl) (by kernel_rfl) (by kernel_rfl) (fun _ _ _ h => h) (Or.inl ⟨by rfl, ?hy1_15⟩) (by assumption) ?rest1_15
        case hy1_15 => (intro w9 hSw; obtain ⟨ma1, ma2, ma3⟩ := hSw; obtain ⟨y0, y1, y2, _, _, _⟩ := Mbx.cells ma1; obtain ⟨u0, u1, _, _⟩ := Tbx.cells ma2; go_simp; try with_reducible rfl)
        try simp only [Act.put, List.setIfInBounds_toArray, List.set_cons_zero, List.set_cons_succ, List.getElem_toArray, List.getElem_cons_zero, List.getElem_cons_succ]
        refine wpAnyH_take (i := 2) (v := ?v2_16) rfl (by kernel_rfl) (by kernel_rfl) (by kernel_rfl) (fun _ _ _ h => h) (Or.inl ⟨by rfl, ?hy2_16⟩) (by assumption) ?rest2_16
        case hy2_16 => (intro w9 hSw; clear hSw; go_simp; try with_reducible rfl)
        try simp only [Act.put, List.setIfInBounds_toArray, List.set_cons_zero, List.set_cons_succ, List.getElem_toArray, List.getElem_cons_zero, List.getElem_cons_succ]
        refine wpAnyH_take (i := 3) (v := ?v3_17) rfl (by kernel_rfl) (by kernel_rfl) (by kernel_rfl) (fun _ _ _ h => h) (Or.inl ⟨by rfl, ?hy3_17⟩) (by assumption) ?rest3_17
        case hy3_17 => (intro w9 hSw; clear hSw; go_simp; try with_reducible rfl)
        try simp only [Act.put, List.setIfInBounds_toArray, List.set_cons_zero, List.set_cons_succ, List.getElem_toArray, List.getElem_cons_zero, List.getElem_cons_succ]
        refine wpAnyH_take (i := 4) (v := ?v4_18) rfl (by kernel_rfl) (by kernel_rfl) (by kernel_rfl) (fun _ _ _ h => h) (Or.inl ⟨by rfl, ?hy4_18⟩) (by assumption) ?rest4_18
        case hy4_18 => (intro w9 hSw; clear hSw; go_simp; try with_reducible rfl)
        try simp only [Act.put, List.setIfInBounds_toArray, List.set_cons_zero, List.set_cons_succ, List.getElem_toArray, List.getElem_cons_zero, List.getElem_cons_succ]
        refine wpAnyH_take (i := 5) (v := ?v5_19) rfl (by kernel_rfl) (by kernel_rfl) (by kernel_rfl) (fun _ _ _ h => h) (Or.inl ⟨by rfl, ?hy5_19⟩) (by assumption) ?rest5_19
        case hy5_19 => (intro w9 hSw; clear hSw; go_simp; try with_reducible rfl)
        try simp only [Act.put, List.setIfInBounds_toArray, List.set_cons_zero, List.set_cons_succ, List.getElem_toArray, List.getElem_cons_zero, List.getElem_cons_succ]
        refine wpAnyH_take (i := 6) (v := ?v6_20) rfl (by kernel_rfl) (by kernel_rfl) (by kernel_rfl) (fun _ _ _ h => h) (Or.inl ⟨by rfl, ?hy6_20⟩) (by assumption) ?rest6_20
        case hy6_20 => (intro w9 hSw; clear hSw; go_simp; try with_reducible rfl)
        try simp only [Act.put, List.setIfInBounds_toArray, List.set_cons_zero, List.set_cons_succ, List.getElem_toArray, List.getElem_cons_zero, List.getElem_cons_succ]
        refine wpAnyH_take (i := 7) (v := ?v7_21) rfl (by kernel_rfl) (by kernel_rfl) (by kernel_rfl) (fun _ _ _ h => h) (Or.inl ⟨by rfl, ?hy7_21⟩) (by assumption) ?rest7_21
        case hy7_21 => (intro w9 hSw; clear hSw; go_simp; try with_reducible rfl)
        try simp only [Act.put, List.setIfInBounds_toArray, List.set_cons_zero, List.set_cons_succ, List.getElem_toArray, List.getElem_cons_zero, List.getElem_cons_succ]
        refine wpAnyH_take (i := 8) (v := ?v8_22) rfl (by kernel_rfl) (by kernel_rfl) (by kernel_rfl) (fun _ _ _ h => h) (Or.inl ⟨by rfl, ?hy8_22⟩) (by assumption) ?rest8_22
        case hy8_22 => (intro w9 hSw; clear hSw; go_simp; try with_reducible rfl)
        try simp only [Act.put, List.setIfInBounds_toArray, List.set_cons_zero, List.set_cons_succ, List.getElem_toArray, List.getElem_cons_zero, List.getElem_cons_succ]
        refine wpAnyH_take (i := 9) (v := ?v9_23) rfl (by kernel_rfl) (by kernel_rfl) (by kernel_rfl) (fun _ _ _ h => h) (Or.inl ⟨by rfl, ?hy9_23⟩) (by assumption) ?rest9_23
        case hy9_23 => (intro w9 hSw; obtain ⟨ma1, ma2, ma3⟩ := hSw; obtain ⟨y0, y1, y2, _, _, _⟩ := Mbx.cells ma1; obtain ⟨u0, u1, _, _⟩ := Tbx.cells ma2; go_simp; try with_reducible rfl)
        try simp only [Act.put, List.setIfInBounds_toArray, List.set_cons_zero, List.set_cons_succ, List.getElem_toArray, List.getElem_cons_zero, List.getElem_cons_succ]
        refine wpAnyH_take (i := 10) (v := ?v10_24) rfl (by kernel_rfl) (by kernel_rfl) (by kernel_rfl) (fun _ _ _ h => h) (Or.inl ⟨by rfl, ?hy10_24⟩) (by assumption) ?rest10_24
        case hy10_24 => (intro w9 hSw; clear hSw; go_simp; try with_reducible rfl)
        try simp only [Act.put, List.setIfInBounds_toArray, List.set_cons_zero, List.set_cons_succ, List.getElem_toArray, List.getElem_cons_zero, List.getElem_cons_succ]
        refine wpAnyH_take (i := 11) (v := ?v11_25) rfl (by kernel_rfl) (by kernel_rfl) (by kernel_rfl) (fun _ _ _ h => h) (Or.inl ⟨by rfl, ?hy11_25⟩) (by assumption) ?rest11_25
        case hy11_25 => (intro w9 hSw; clear hSw; go_simp; try with_reducible rfl)
        try simp only [Act.put, List.setIfInBounds_toArray, List.set_cons_zero, List.set_cons_succ, List.getElem_toArray, List.getElem_cons_zero, List.getElem_cons_succ]
        refine wpAnyH_take (i := 12) (v := ?v12_26) rfl (by kernel_rfl) (by kernel_rfl) (by kernel_rfl) (fun _ _ _ h => h) (Or.inl ⟨by rfl, ?hy12_26⟩) (by assumption) ?rest12_26
        case hy12_26 => (intro w9 hSw; clear hSw; go_simp; try with_reducible rfl)
        try simp only [Act.put, List.setIfInBounds_toArray, List.set_cons_zero, List.set_cons_succ, List.getElem_toArray, List.getElem_cons_zero, List.getElem_cons_succ]
        refine wpAnyH_take (i := 13) (v := ?v13_27) rfl (by kernel_rfl) (by kernel_rfl) (by kernel_rfl) (fun _ _ _ h => h) (Or.inl ⟨by rfl, ?hy13_27⟩) (by assumption) ?rest13_27
        case hy13_27 => (intro w9 hSw; obtain ⟨ma1, ma2, ma3⟩ := hSw; obtain ⟨y0, y1, y2, _, _, _⟩ := Mbx.cells ma1; obtain ⟨u0, u1, _, _⟩ := Tbx.cells ma2; go_simp; try with_reducible rfl)
        try simp only [Act.put, List.setIfInBounds_toArray, List.set_cons_zero, List.set_cons_succ, List.getElem_toArray, List.getElem_cons_zero, List.getElem_cons_succ]
        refine wpAnyH_take (i := 14) (v := ?v14_28) rfl (by kernel_rfl) (by kernel_rfl) (by kernel_rfl) (fun _ _ _ h => h) (Or.inl ⟨by rfl, ?hy14_28⟩) (by assumption) ?rest14_28
        case hy14_28 => (intro w9 hSw; clear hSw; go_simp; try with_reducible rfl)
        try simp only [Act.put, List.setIfInBounds_toArray, List.set_cons_zero, List.set_cons_succ, List.getElem_toArray, List.getElem_cons_zero, List.getElem_cons_succ]
        obtain ⟨hy4, hy5⟩ := hO.at' (k := zb) (by rw [hlen8]; omega)
        refine wpAnyH_ready (rs := [15]) (by kernel_rfl) (by simp) ?_
        refine AllReadyH.cons rfl (fun K hK => ?_) AllReadyH.nil
        go_simp
        clear hy4 hy5
        have hgs : wl8.grownBy (wl8.setCell ⟨g, zb, none⟩ (.float .f64 YE)) (some g) := grown_setCell (World.grownBy.refl wl8 _) _ _
        replace DT := DT.grown hgs (by simp; omega)
        replace DZ := DZ.grown hgs (by simp; omega)
        replace DK := DK.grown hgs (by simp)
        replace h := fl_far h hgs (fun x e h9 => by have := hDA x e h9; omega)
        replace h2 := fl_far h2 hgs (fun x e h9 => by have := hDE x e h9; omega)
        replace hc9 : (wl8.setCell ⟨g, zb, none⟩ (.float .f64 YE)).cell? (adE.add kp) = some (.float .f64 YE) := (World.cell?_of_block (Below.heap_setCell _ ⟨g, zb, none⟩ _ _ (by simp only [add_block]; exact hbk))).trans hc9
        replace hO := hO.set_ zb (YE : Int)
        rw [show fV (YE : Int) = .float .f64 YE from rfl] at hO
        replace bz := bz.setCell (p := ⟨g, zb, none⟩) (by show w.heap.size ≤ g; omega) (.float .f64 YE)
        clear hgs
        clear hS; refine hK.out _ _ ⟨DK, DT, hc9⟩ (fun hS => ?_); clear hK K
        try simp only [Act.put, List.setIfInBounds_toArray, List.set_cons_zero, List.set_cons_succ, List.getElem_toArray, List.getElem_cons_zero, List.getElem_cons_succ]
        refine wpAnyH_done (by kernel_rfl) ?_ _
        have hI8 := Is.upd hI6 (z := zb) (x := (YE : Int)) (by omega) (by omega) (by omega) HE.out
        clear hS hc9 hbk
        generalize (wl8.setCell ⟨g, zb, none⟩ (.float .f64 YE)) = Ws8 at hO h h2 DT DZ DK bz ⊢
        obtain ⟨yc, hyc⟩ : ∃ y, kp * n = y := ⟨_, rfl⟩
        obtain ⟨zc, hzc⟩ : ∃ z, yc + k = z := ⟨_, rfl⟩
        have hNc : zc < N := by rw [← hzc, ← hyc, ← HN.out]; exact ix_lt (by omega) (by omega)
        have HZc : Hid (kp * n + k = zc) := Lib.hid (by rw [← hzc, ← hyc])
        have eyc : (kp : Int) * (n : Int) = (yc : Int) := by exact_mod_cast hyc
        have ezc : (yc : Int) + (k : Int) = (zc : Int) := by omega
        have wyc : IntKind.i64.wrap (yc : Int) = (yc : Int) := IntWalk.i64_in _ (by omega)
        have wzc : IntKind.i64.wrap (zc : Int) = (zc : Int) := IntWalk.i64_in _ (by omega)
        have z0c : (0 : Int) ≤ zc := by omega
        have z1c : (zc : Int) < N := by omega
        clear hyc hzc
        have hc9 : Ws8.cell? (adE.add kp) = some (.float .f64 YE) := by have h9 := h2.2.1.at_some (k := kp) (by rw [h2.1]; omega); rw [hYE] at h9; exact h9
        have hbk : adE.block ≠ g := by omega
        have hlen9 := hI8.len
        go_wp2_with fail
        replace hO := hO.drew
        replace h := h.drew
        replace h2 := h2.drew
        replace DT := DT.drew
        replace DZ := DZ.drew
        replace DK := DK.drew
        replace bz := bz.drew
        replace hc9 : Ws8.drew.cell? (adE.add kp) = some (.float .f64 YE) := hc9
        refine wp_region_held_drew (S := fun w9 : World => Mbx w9 (g + 1) n n (some ⟨g, 0, none⟩) N N ∧ Tbx w9 w.heap.size (some adD) n c (some adE) m c2 ∧ w9.cell? (adE.add kp) = some (.float .f64 YE)) (by kernel_rfl) ⟨DK, DT, hc9⟩ (fun hS => ?_)
        generalize Ws8.drew = wl9 at hS hO h h2 DT DZ DK hc9 bz ⊢
        refine wpAnyH_take (i := 0) (v := ?v0_29) rfl (by kernel_rfl) (by kernel_rfl) (by kernel_rfl) (fun _ _ _ h => h) (Or.inl ⟨by rfl, ?hy0_29⟩) (by assumption) ?rest0_29
        case hy0_29 => (intro w9 hSw; clear hSw; go_simp; try with_reducible rfl)
        try simp only [Act.put, List.setIfInBounds_toArray, List.set_cons_zero, List.set_cons_succ, List.getElem_toArray, List.getElem_cons_zero, List.getElem_cons_succ]
        refine wpAnyH_take (i := 1) (v := ?v1_30) rfl (by kernel_rfl) (by kernel_rfl) (by kernel_rfl) (fun _ _ _ h => h) (Or.inl ⟨by rfl, ?hy1_30⟩) (by assumption) ?rest1_30
        case hy1_30 => (intro w9 hSw; obtain ⟨ma1, ma2, ma3⟩ := hSw; obtain ⟨y0, y1, y2, _, _, _⟩ := Mbx.cells ma1; obtain ⟨u0, u1, _, _⟩ := Tbx.cells ma2; go_simp; try with_reducible rfl)
        try simp only [Act.put, List.setIfInBounds_toArray, List.set_cons_zero, List.set_cons_succ, List.getElem_toArray, List.getElem_cons_zero, List.getElem_cons_succ]
        refine wpAnyH_take (i := 2) (v := ?v2_31) rfl (by kernel_rfl) (by kernel_rfl) (by kernel_rfl) (fun _ _ _ h => h) (Or.inl ⟨by rfl, ?hy2_31⟩) (by assumption) ?rest2_31
        case hy2_31 => (intro w9 hSw; clear hSw; go_simp; try with_reducible rfl)
        try simp only [Act.put, List.setIfInBounds_toArray, List.set_cons_zero, List.set_cons_succ, List.getElem_toArray, List.getElem_cons_zero, List.getElem_cons_succ]
        refine wpAnyH_take (i := 3) (v := ?v3_32) rfl (by kernel_rfl) (by kernel_rfl) (by kernel_rfl) (fun _ _ _ h => h) (Or.inl ⟨by rfl, ?hy3_32⟩) (by assumption) ?rest3_32
        case hy3_32 => (intro w9 hSw; clear hSw; go_simp; try with_reducible rfl)
        try simp only [Act.put, List.setIfInBounds_toArray, List.set_cons_zero, List.set_cons_succ, List.getElem_toArray, List.getElem_cons_zero, List.getElem_cons_succ]
        refine wpAnyH_take (i := 4) (v := ?v4_33) rfl (by kernel_rfl) (by kernel_rfl) (by kernel_rfl) (fun _ _ _ h => h) (Or.inl ⟨by rfl, ?hy4_33⟩) (by assumption) ?rest4_33
        case hy4_33 => (intro w9 hSw; clear hSw; go_simp; try with_reducible rfl)
        try simp only [Act.put, List.setIfInBounds_toArray, List.set_cons_zero, List.set_cons_succ, List.getElem_toArray, List.getElem_cons_zero, List.getElem_cons_succ]
        refine wpAnyH_take (i := 5) (v := ?v5_34) rfl (by kernel_rfl) (by kernel_rfl) (by kernel_rfl) (fun _ _ _ h => h) (Or.inl ⟨by rfl, ?hy5_34⟩) (by assumption) ?rest5_34
        case hy5_34 => (intro w9 hSw; clear hSw; go_simp; try with_reducible rfl)
        try simp only [Act.put, List.setIfInBounds_toArray, List.set_cons_zero, List.set_cons_succ, List.getElem_toArray, List.getElem_cons_zero, List.getElem_cons_succ]
        refine wpAnyH_take (i := 6) (v := ?v6_35) rfl (by kernel_rfl) (by kernel_rfl) (by kernel_rfl) (fun _ _ _ h => h) (Or.inl ⟨by rfl, ?hy6_35⟩) (by assumption) ?rest6_35
        case hy6_35 => (intro w9 hSw; clear hSw; go_simp; try with_reducible rfl)
        try simp only [Act.put, List.setIfInBounds_toArray, List.set_cons_zero, List.set_cons_succ, List.getElem_toArray, List.getElem_cons_zero, List.getElem_cons_succ]
        refine wpAnyH_take (i := 7) (v := ?v7_36) rfl (by kernel_rfl) (by kernel_rfl) (by kernel_rfl) (fun _ _ _ h => h) (Or.inl ⟨by rfl, ?hy7_36⟩) (by assumption) ?rest7_36
        case hy7_36 => (intro w9 hSw; clear hSw; go_simp; try with_reducible rfl)
        try simp only [Act.put, List.setIfInBounds_toArray, List.set_cons_zero, List.set_cons_succ, List.getElem_toArray, List.getElem_cons_zero, List.getElem_cons_succ]
        refine wpAnyH_take (i := 8) (v := ?v8_37) rfl (by kernel_rfl) (by kernel_rfl) (by kernel_rfl) (fun _ _ _ h => h) (Or.inl ⟨by rfl, ?hy8_37⟩) (by assumption) ?rest8_37
        case hy8_37 => (intro w9 hSw; clear hSw; go_simp; try with_reducible rfl)
        try simp only [Act.put, List.setIfInBounds_toArray, List.set_cons_zero, List.set_cons_succ, List.getElem_toArray, List.getElem_cons_zero, List.getElem_cons_succ]
        refine wpAnyH_take (i := 9) (v := ?v9_38) rfl (by kernel_rfl) (by kernel_rfl) (by kernel_rfl) (fun _ _ _ h => h) (Or.inl ⟨by rfl, ?hy9_38⟩) (by assumption) ?rest9_38
        case hy9_38 => (intro w9 hSw; obtain ⟨ma1, ma2, ma3⟩ := hSw; obtain ⟨y0, y1, y2, _, _, _⟩ := Mbx.cells ma1; obtain ⟨u0, u1, _, _⟩ := Tbx.cells ma2; go_simp; try with_reducible rfl)
        try simp only [Act.put, List.setIfInBounds_toArray, List.set_cons_zero, List.set_cons_succ, List.getElem_toArray, List.getElem_cons_zero, List.getElem_cons_succ]
        refine wpAnyH_take (i := 10) (v := ?v10_39) rfl (by kernel_rfl) (by kernel_rfl) (by kernel_rfl) (fun _ _ _ h => h) (Or.inl ⟨by rfl, ?hy10_39⟩) (by assumption) ?rest10_39
        case hy10_39 => (intro w9 hSw; clear hSw; go_simp; try with_reducible rfl)
        try simp only [Act.put, List.setIfInBounds_toArray, List.set_cons_zero, List.set_cons_succ, List.getElem_toArray, List.getElem_cons_zero, List.getElem_cons_succ]
        refine wpAnyH_take (i := 11) (v := ?v11_40) rfl (by kernel_rfl) (by kernel_rfl) (by kernel_rfl) (fun _ _ _ h => h) (Or.inl ⟨by rfl, ?hy11_40⟩) (by assumption) ?rest11_40
        case hy11_40 => (intro w9 hSw; clear hSw; go_simp; try with_reducible rfl)
        try simp only [Act.put, List.setIfInBounds_toArray, List.set_cons_zero, List.set_cons_succ, List.getElem_toArray, List.getElem_cons_zero, List.getElem_cons_succ]
        refine wpAnyH_take (i := 12) (v := ?v12_41) rfl (by kernel_rfl) (by kernel_rfl) (by kernel_rfl) (fun _ _ _ h => h) (Or.inl ⟨by rfl, ?hy12_41⟩) (by assumption) ?rest12_41
        case hy12_41 => (intro w9 hSw; clear hSw; go_simp; try with_reducible rfl)
        try simp only [Act.put, List.setIfInBounds_toArray, List.set_cons_zero, List.set_cons_succ, List.getElem_toArray, List.getElem_cons_zero, List.getElem_cons_succ]
        refine wpAnyH_take (i := 13) (v := ?v13_42) rfl (by kernel_rfl) (by kernel_rfl) (by kernel_rfl) (fun _ _ _ h => h) (Or.inl ⟨by rfl, ?hy13_42⟩) (by assumption) ?rest13_42
        case hy13_42 => (intro w9 hSw; obtain ⟨ma1, ma2, ma3⟩ := hSw; obtain ⟨y0, y1, y2, _, _, _⟩ := Mbx.cells ma1; obtain ⟨u0, u1, _, _⟩ := Tbx.cells ma2; go_simp; try with_reducible rfl)
        try simp only [Act.put, List.setIfInBounds_toArray, List.set_cons_zero, List.set_cons_succ, List.getElem_toArray, List.getElem_cons_zero, List.getElem_cons_succ]
        refine wpAnyH_take (i := 14) (v := ?v14_43) rfl (by kernel_rfl) (by kernel_rfl) (by kernel_rfl) (fun _ _ _ h => h) (Or.inl ⟨by rfl, ?hy14_43⟩) (by assumption) ?rest14_43
        case hy14_43 => (intro w9 hSw; clear hSw; go_simp; try with_reducible rfl)
        try simp only [Act.put, List.setIfInBounds_toArray, List.set_cons_zero, List.set_cons_succ, List.getElem_toArray, List.getElem_cons_zero, List.getElem_cons_succ]
        obtain ⟨hy4, hy5⟩ := hO.at' (k := zc) (by rw [hlen9]; omega)
        refine wpAnyH_ready (rs := [15]) (by kernel_rfl) (by simp) ?_
        refine AllReadyH.cons rfl (fun K hK => ?_) AllReadyH.nil
        go_simp
        clear hy4 hy5
        have hgs : wl9.grownBy (wl9.setCell ⟨g, zc, none⟩ (.float .f64 YE)) (some g) := grown_setCell (World.grownBy.refl wl9 _) _ _
        replace DT := DT.grown hgs (by simp; omega)
        replace DZ := DZ.grown hgs (by simp; omega)
        replace DK := DK.grown hgs (by simp)
        replace h := fl_far h hgs (fun x e h9 => by have := hDA x e h9; omega)
        replace h2 := fl_far h2 hgs (fun x e h9 => by have := hDE x e h9; omega)
        replace hc9 : (wl9.setCell ⟨g, zc, none⟩ (.float .f64 YE)).cell? (adE.add kp) = some (.float .f64 YE) := (World.cell?_of_block (Below.heap_setCell _ ⟨g, zc, none⟩ _ _ (by simp only [add_block]; exact hbk))).trans hc9
        replace hO := hO.set_ zc (YE : Int)
        rw [show fV (YE : Int) = .float .f64 YE from rfl] at hO
        replace bz := bz.setCell (p := ⟨g, zc, none⟩) (by show w.heap.size ≤ g; omega) (.float .f64 YE)
        clear hgs
        clear hS; refine hK.out _ _ ⟨DK, DT, hc9⟩ (fun hS => ?_); clear hK K
        try simp only [Act.put, List.setIfInBounds_toArray, List.set_cons_zero, List.set_cons_succ, List.getElem_toArray, List.getElem_cons_zero, List.getElem_cons_succ]
        refine wpAnyH_done (by kernel_rfl) ?_ _
        have hI9 := Is.upd hI8 (z := zc) (x := (YE : Int)) (by omega) (by omega) (by omega) HE.out
        clear hS hc9 hbk
        generalize (wl9.setCell ⟨g, zc, none⟩ (.float .f64 YE)) = Ws9 at hO h h2 DT DZ DK bz ⊢
        have hI10 := hI9.congr (g := fullF d e n (k + 1)) (fun j hj => by
          rw [← HN.out] at hj
          have e1 := HKP.out
          have e2 := HZa.out
          have e3 := HZb.out
          have e4 := HZc.out
          subst e1
          rw [← e2, ← e3, ← e4]
          exact full_next hlt hj)
        go_wp2_with fail
        go_roundw
        case rel => exact ⟨k + 1, _, by omega, by go_num, hI10, hO, h, h2, DT, DZ, DK, bz⟩
        case measure => simp [intOf]; omega
    · obtain rfl : k = n := by omega
      have kk : ¬ (k : Int) < k := by omega
      obtain ⟨k0, k1, k2, k3, k4, k5⟩ := Mbx.cells DK
      obtain ⟨z0, z1, z2, z3, z4, z5⟩ := Mbx.cells DZ
      go_wp2_with fail
      obtain ⟨x0, x1, x2, _, _, _⟩ := Mbx.cells (Mbx.put DZ k k (some ⟨g, 0, none⟩) N N)
      refine bodyPost_ret (v := mV k k (some ⟨g, 0, none⟩) N N) (by simp [results, Try.results20, go_sem, x0, x1, x2]) rfl ?_
      have hgs : wr.grownBy (((wr.setCell ⟨w.heap.size + 1, 0, none⟩ (.int .i64 k)).setCell ⟨w.heap.size + 1, 1, none⟩ (.int .i64 k)).setCell ⟨w.heap.size + 1, 2, none⟩ (.slice (some ⟨g, 0, none⟩) N N)) (some (w.heap.size + 1)) := grown_setCell (grown_setCell (grown_setCell (World.grownBy.refl wr _) 0 _) 1 _) 2 _
      exact ⟨_, _, L, rfl, hO.grown_ hgs (fun a e => by injection e with e; subst e; simp; omega), hI, bz.grown hgs bz.size (fun b e => by injection e with e; omega)⟩
end Go.Proofs.Ytaemkjcmjgefeaa
