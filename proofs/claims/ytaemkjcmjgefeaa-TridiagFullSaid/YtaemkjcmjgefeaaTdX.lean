/-
  Layer 10, walks: a tridiagonal as a matrix, by the program. (Written by wip/tools/gen_tdx.py.)
-/
import Derived.Test.YtaemkjcmjgefeaaTdV
import Derived.Test.YtaemkjcmjgefeaaTdD
namespace Go.Proofs.Ytaemkjcmjgefeaa
open Go.RowKit Go.Bw
set_option linter.unusedVariables false
set_option linter.unusedSimpArgs false
attribute [local go_sem] run_store_float
/-- the diagonal's first k -/
def dgF (d : List Int) (n k z : Nat) : Option Nat := if z / n = z % n ∧ z % n < k then fa (D d (z % n)) else some 0
/-- the diagonal, and k on both sides of it -/
def bsF (d e : List Int) (n k z : Nat) : Option Nat := if z / n = z % n then fa (D d (z % n)) else if z % n + 1 = z / n ∧ z / n ≤ k then fa (D e (z % n)) else if z / n + 1 = z % n ∧ z % n ≤ k then fa (D e (z / n)) else some 0
theorem dgF_zero (d : List Int) (n : Nat) : Is (List.replicate (n * n) 0) (n * n) (dgF d n 0) :=
  (oneF_zero n).congr (fun k _ => by
    unfold dgF oneF
    rw [if_neg (by omega), if_neg (by omega)])
theorem dgF_next {d : List Int} {n k j : Nat} (hk : k < n) (hj : j < n * n) : upd (dgF d n k) (k * n + k) (fa (D d k)) j = dgF d n (k + 1) j := by
  have p := pos_iff (i := k) (j := k) hk hk hj
  unfold upd dgF
  generalize j / n = r at *
  generalize j % n = c at *
  by_cases h : j = k * n + k
  · obtain ⟨rfl, rfl⟩ := p.1 h
    rw [if_pos h, if_pos (by omega)]
  · rw [if_neg h]
    have q : ¬ (r = k ∧ c = k) := fun q => h (p.2 q)
    by_cases c1 : r = c ∧ c < k
    · rw [if_pos c1, if_pos (by omega)]
    · rw [if_neg c1, if_neg (by omega)]
theorem dgF_bs {d e : List Int} {n j : Nat} (hn : 0 < n) : dgF d n n j = bsF d e n 0 j := by
  have h := Nat.mod_lt j hn
  unfold dgF bsF
  generalize j / n = r at *
  generalize j % n = c at *
  by_cases c1 : r = c
  · rw [if_pos ⟨c1, h⟩, if_pos c1]
  · rw [if_neg (by omega), if_neg c1, if_neg (by omega), if_neg (by omega)]
theorem bsF_next {d e : List Int} {n k j : Nat} (hk : k + 1 < n) (hj : j < n * n) : upd (upd (bsF d e n k) (k * n + (k + 1)) (fa (D e k))) ((k + 1) * n + k) (fa (D e k)) j = bsF d e n (k + 1) j := by
  have p2 := pos_iff (i := k + 1) (j := k) hk (by omega) hj
  have p3 := pos_iff (i := k) (j := k + 1) (by omega) hk hj
  unfold upd bsF
  generalize j / n = r at *
  generalize j % n = c at *
  by_cases h2 : j = (k + 1) * n + k
  · obtain ⟨rfl, rfl⟩ := p2.1 h2
    rw [if_pos h2, if_neg (by omega), if_pos (by omega)]
  · rw [if_neg h2]
    have q2 : ¬ (r = k + 1 ∧ c = k) := fun q => h2 (p2.2 q)
    by_cases h3 : j = k * n + (k + 1)
    · obtain ⟨rfl, rfl⟩ := p3.1 h3
      rw [if_pos h3, if_neg (by omega), if_neg (by omega), if_pos (by omega)]
    · rw [if_neg h3]
      have q3 : ¬ (r = k ∧ c = k + 1) := fun q => h3 (p3.2 q)
      by_cases c1 : r = c
      · rw [if_pos c1, if_pos c1]
      · rw [if_neg c1, if_neg c1]
        by_cases c2 : c + 1 = r ∧ r ≤ k
        · rw [if_pos c2, if_pos (by omega)]
        · rw [if_neg c2, if_neg (show ¬ (c + 1 = r ∧ r ≤ k + 1) by omega)]
          by_cases c3 : r + 1 = c ∧ c ≤ k
          · rw [if_pos c3, if_pos (show r + 1 = c ∧ c ≤ k + 1 by omega)]
          · rw [if_neg c3, if_neg (show ¬ (r + 1 = c ∧ c ≤ k + 1) by omega)]
theorem bsF_full {d e : List Int} {n m j : Nat} (hm : m + 1 = n) (hj : j < n * n) : bsF d e n m j = fullF d e n n j := by
  have h1 := Nat.mod_lt j (show 0 < n by omega)
  have h2 : j / n < n := Nat.div_lt_of_lt_mul hj
  unfold bsF fullF
  generalize j / n = r at *
  generalize j % n = c at *
  by_cases c1 : r = c
  · rw [if_pos c1, if_pos ⟨c1, h1⟩]
  · rw [if_neg c1, if_neg (show ¬ (r = c ∧ c < n) by omega)]
    by_cases c2 : c + 1 = r
    · rw [if_pos (show c + 1 = r ∧ r ≤ m by omega), if_pos (show c + 1 = r ∧ r < n by omega)]
    · rw [if_neg (show ¬ (c + 1 = r ∧ r ≤ m) by omega), if_neg (show ¬ (c + 1 = r ∧ r < n) by omega)]
      by_cases c3 : r + 1 = c
      · rw [if_pos (show r + 1 = c ∧ c ≤ m by omega), if_pos (show r + 1 = c ∧ c < n by omega)]
      · rw [if_neg (show ¬ (r + 1 = c ∧ c ≤ m) by omega), if_neg (show ¬ (r + 1 = c ∧ c < n) by omega)]
def FlP (w : World) (n : Nat) (F : Nat → Option Nat) (e : Ending) (w' : World) : Prop := ∃ A2 c2 L, e = .returned (.tuple #[mV n n A2 (n * n) c2, .int .i64 0]) ∧ OwnF w' w.heap.size A2 c2 L ∧ Is L (n * n) F ∧ Below w.heap.size w w'
set_option maxRecDepth 100000 in
set_option maxHeartbeats 4000000 in
theorem gFull_no {A A2 : Option Addr} {n c m c2 : Nat} {w : World} (hn : n ≤ 9223372036854775807) (hm : m ≤ 9223372036854775807) (hf : mayT n m = false) :
    Calls Try.prog 17 #[tV A n c A2 m c2] w (QnP w 2) := by
  have pm := fun W => tMayT_any (A := A) (c := c) (A2 := A2) (c2 := c2) hn hm W
  rw [hf] at pm
  have bz := ((Below.refl _ w).alloc (Nat.le_refl _) (.cells #[.slice A n c, .slice A2 m c2] 28)).alloc (by simp) (.cells #[.int .i64 0, .int .i64 0, .slice none 0 0] 24)
  have DZ := Blk.new (w.alloc (.cells #[.slice A n c, .slice A2 m c2] 28)) [.int .i64 0, .int .i64 0, .slice none 0 0] 24
  rw [World.size_alloc] at DZ
  clear hf
  go_enter Try.func17, Try.ntmps17
  go_wp2_with fail
  with_reducible refine (pm _).mono ?_
  rintro e w1 ⟨rfl, hb⟩
  replace DZ := DZ.on hb
  replace bz := bz.trans (hb.mono bz.size)
  obtain ⟨z0, z1, z2, z3, z4, z5⟩ := Mbx.cells DZ
  clear hb pm
  go_wp2_with fail
  obtain ⟨x0, x1, x2, _, _, _⟩ := Mbx.cells (Mbx.put DZ 0 0 none 0 0)
  refine bodyPost_ret (v := .tuple #[mV 0 0 none 0 0, .int .i64 2]) (by simp [results, Try.results17, go_sem, x0, x1, x2]) rfl ?_
  exact ⟨rfl, ((bz.setCell (p := ⟨w.heap.size + 1, 0, none⟩) (by simp) (.int .i64 0)).setCell (p := ⟨w.heap.size + 1, 1, none⟩) (by simp) (.int .i64 0)).setCell (p := ⟨w.heap.size + 1, 2, none⟩) (by simp) (.slice none 0 0)⟩
set_option maxRecDepth 100000 in
set_option maxHeartbeats 16000000 in
theorem gFull_yes {A A2 : Option Addr} {n c m c2 : Nat} {d e : List Int} {w : World} (h : FL w A n c d) (h2 : FL w A2 m c2 e) (hf : mayT n m = true) :
    Calls Try.prog 17 #[tV A n c A2 m c2] w (FlP w n (fullF d e n n)) := by
  have hmn := h.max
  have hmm := h2.max
  obtain ⟨hn, hm⟩ := of_decide_eq_true hf
  have HM := Lib.hid hm
  obtain ⟨N, hN⟩ : ∃ N, n * n = N := ⟨_, rfl⟩
  have n4 : N ≤ 262144 := by rw [← hN]; exact Nat.le_trans (Nat.mul_le_mul hn hn) (by decide)
  have h0 := dgF_zero d n
  have pm := fun W => tMayT_any (A := A) (c := c) (A2 := A2) (c2 := c2) hmn hmm W
  rw [hf] at pm
  have pn := fun W => tnoughts_any (N := N) hN.symm hn W
  rw [hN] at h0
  have HN := Lib.hid hN
  clear hN hf hm
  have hDA : ∀ x, A = some x → 0 < n → x.block < w.heap.size := fun x e h9 => by obtain ⟨y, e2, hy, _⟩ := h.at_ h9; rw [e2] at e; injection e with e; rw [← e]; exact hy
  have hDE : ∀ x, A2 = some x → 0 < m → x.block < w.heap.size := fun x e h9 => by obtain ⟨y, e2, hy, _⟩ := h2.at_ h9; rw [e2] at e; injection e with e; rw [← e]; exact hy
  have DT := (Blk.new w [.slice A n c, .slice A2 m c2] 28).alloc (.cells #[.int .i64 0, .int .i64 0, .slice none 0 0] 24)
  have DZ := Blk.new (w.alloc (.cells #[.slice A n c, .slice A2 m c2] 28)) [.int .i64 0, .int .i64 0, .slice none 0 0] 24
  rw [World.size_alloc] at DZ
  have bz := ((Below.refl _ w).alloc (Nat.le_refl _) (.cells #[.slice A n c, .slice A2 m c2] 28)).alloc (by simp) (.cells #[.int .i64 0, .int .i64 0, .slice none 0 0] 24)
  replace h := h.on bz
  replace h2 := h2.on bz
  go_enter Try.func17, Try.ntmps17
  go_wp2_with fail
  with_reducible refine (pm _).mono ?_
  rintro e9 w1 ⟨rfl, hb⟩
  replace DT := DT.on hb
  replace DZ := DZ.on hb
  replace h := h.on hb
  replace h2 := h2.on hb
  replace bz := bz.trans (hb.mono bz.size)
  obtain ⟨t0, t1, _, _⟩ := Tbx.cells DT
  clear hb pm
  go_wp2_with fail
  clear t0 t1
  with_reducible refine (pn _).mono ?_
  rintro e9 w2 ⟨g, rfl, HR, hg, hb⟩
  have hz1 := Blk.lt DZ
  replace DT := DT.on hb
  replace DZ := DZ.on hb
  replace h := h.on hb
  replace h2 := h2.on hb
  replace bz := bz.trans (hb.mono bz.size)
  have hgz : w.heap.size + 1 < g := by omega
  have DK := Blk.new w2 [.int .i64 n, .int .i64 n, .slice (some ⟨g, 0, none⟩) N N] 24
  obtain ⟨KK, eK⟩ : ∃ H, w2.heap.size = H := ⟨_, rfl⟩
  have hgK := HR.lt
  rw [eK] at DK hgK
  have hbA := (Below.refl _ w2).alloc (Nat.le_refl _) (.cells #[.int .i64 n, .int .i64 n, .slice (some ⟨g, 0, none⟩) N N] 24)
  replace DT := DT.on hbA
  replace DZ := DZ.on hbA
  replace h := h.on hbA
  replace h2 := h2.on hbA
  replace HR := HR.on hbA
  replace bz := bz.trans (hbA.mono bz.size)
  clear hb pn hz1 hbA
  go_wp2_with fail
  try simp only [eK] at ⊢
  clear eK
  generalize w2.alloc (.cells #[.int .i64 n, .int .i64 n, .slice (some ⟨g, 0, none⟩) N N] 24) = W2 at DT DZ h h2 HR DK bz ⊢
  go_loopw [18, 6] (fun i i2 wr => ∃ (k : Nat) (L : List Int), k ≤ n ∧ i = .int .i64 k ∧ Hid (Is L N (dgF d n k)) ∧ RowF wr g L ∧ FL wr A n c d ∧ FL wr A2 m c2 e ∧ Tbx wr w.heap.size A n c A2 m c2 ∧ Mbx wr (w.heap.size + 1) 0 0 none 0 0 ∧ Mbx wr KK n n (some ⟨g, 0, none⟩) N N ∧ Below w.heap.size w wr) (fun i _ _ => n - (intOf i).toNat)
  case atStart => exact ⟨0, _, Nat.zero_le _, rfl, Lib.hid h0, HR, h, h2, DT, DZ, DK, bz⟩
  case round =>
    clear h0 HR h h2 DT DZ DK bz
    obtain ⟨k, L, hk, rfl, hI, HR, h, h2, DT, DZ, DK, bz⟩ := hrel
    have hlen := hI.out.len
    have kk0 : (0 : Int) ≤ k := by omega
    by_cases hlt : k < n
    · as_aux_lemma =>
        have kk : (k : Int) < n := by omega
        have n0 : 0 < n := by omega
        obtain ⟨ya, hya⟩ : ∃ y, k * n = y := ⟨_, rfl⟩
        obtain ⟨za, hza⟩ : ∃ z, ya + k = z := ⟨_, rfl⟩
        have hNa : za < N := by rw [← hza, ← hya, ← HN.out]; exact ix_lt (by omega) (by omega)
        have HZa : Hid (k * n + k = za) := Lib.hid (by rw [← hza, ← hya])
        have eya : (k : Int) * (n : Int) = (ya : Int) := by exact_mod_cast hya
        have eza : (ya : Int) + (k : Int) = (za : Int) := by omega
        have wya : IntKind.i64.wrap (ya : Int) = (ya : Int) := IntWalk.i64_in _ (by omega)
        have wza : IntKind.i64.wrap (za : Int) = (za : Int) := IntWalk.i64_in _ (by omega)
        have z0a : (0 : Int) ≤ za := by omega
        have z1a : (za : Int) < N := by omega
        clear hya hza
        obtain ⟨x1, x2⟩ := h.2.2.at_ k
        obtain ⟨YD, hYD⟩ : ∃ Y, (D d k).toNat = Y := ⟨_, rfl⟩
        have bD : YD ≤ 18446744073709551615 := by omega
        have HD : Hid (fa (YD : Int) = fa (D d k)) := Lib.hid (by rw [fa_nat, ← hYD]; rfl)
        clear x1 x2
        obtain ⟨adD, hA9, _, _⟩ := h.at_ hlt
        have hbD := hDA adD hA9 n0
        subst hA9
        have hc9 : wr.cell? (adD.add k) = some (.float .f64 YD) := by have h9 := h.2.1.at_some (k := k) (by rw [h.1]; omega); rw [hYD] at h9; exact h9
        have hbk : adD.block ≠ g := by omega
        have hlen8 := hI.out.len
        go_wp2_with fail
        replace HR := HR.drew
        replace h := h.drew
        replace h2 := h2.drew
        replace DT := DT.drew
        replace DZ := DZ.drew
        replace DK := DK.drew
        replace bz := bz.drew
        replace hc9 : wr.drew.cell? (adD.add k) = some (.float .f64 YD) := hc9
        refine wp_region_held_drew (S := fun w9 : World => Mbx w9 KK n n (some ⟨g, 0, none⟩) N N ∧ Tbx w9 w.heap.size (some adD) n c A2 m c2 ∧ w9.cell? (adD.add k) = some (.float .f64 YD)) (by kernel_rfl) ⟨DK, DT, hc9⟩ (fun hS => ?_)
        generalize wr.drew = wl8 at hS HR h h2 DT DZ DK hc9 bz ⊢
        refine wpAnyH_take (i := 0) (v := ?v0_10) rfl (by kernel_rfl) (by kernel_rfl) (by kernel_rfl) (fun _ _ _ h => h) (Or.inl ⟨by rfl, ?hy0_10⟩) (by assumption) ?rest0_10
        case hy0_10 => (intro w9 hSw; clear hSw; go_simp; try with_reducible rfl)
        try simp only [Act.put, List.setIfInBounds_toArray, List.set_cons_zero, List.set_cons_succ, List.getElem_toArray, List.getElem_cons_zero, List.getElem_cons_succ]
        refine wpAnyH_take (i := 1) (v := ?v1_11) rfl (by kernel_rfl) (by kernel_rfl) (by kernel_rfl) (fun _ _ _ h => h) (Or.inl ⟨by rfl, ?hy1_11⟩) (by assumption) ?rest1_11
        case hy1_11 => (intro w9 hSw; obtain ⟨ma1, ma2, ma3⟩ := hSw; obtain ⟨y0, y1, y2, _, _, _⟩ := Mbx.cells ma1; obtain ⟨u0, u1, _, _⟩ := Tbx.cells ma2; go_simp; try with_reducible rfl)
        try simp only [Act.put, List.setIfInBounds_toArray, List.set_cons_zero, List.set_cons_succ, List.getElem_toArray, List.getElem_cons_zero, List.getElem_cons_succ]
        refine wpAnyH_take (i := 2) (v := ?v2_12) rfl (by kernel_rfl) (by kernel_rfl) (by kernel_rfl) (fun _ _ _ h => h) (Or.inl ⟨by rfl, ?hy2_12⟩) (by assumption) ?rest2_12
        case hy2_12 => (intro w9 hSw; clear hSw; go_simp; try with_reducible rfl)
        try simp only [Act.put, List.setIfInBounds_toArray, List.set_cons_zero, List.set_cons_succ, List.getElem_toArray, List.getElem_cons_zero, List.getElem_cons_succ]
        refine wpAnyH_take (i := 3) (v := ?v3_13) rfl (by kernel_rfl) (by kernel_rfl) (by kernel_rfl) (fun _ _ _ h => h) (Or.inl ⟨by rfl, ?hy3_13⟩) (by assumption) ?rest3_13
        case hy3_13 => (intro w9 hSw; clear hSw; go_simp; try with_reducible rfl)
        try simp only [Act.put, List.setIfInBounds_toArray, List.set_cons_zero, List.set_cons_succ, List.getElem_toArray, List.getElem_cons_zero, List.getElem_cons_succ]
        refine wpAnyH_take (i := 4) (v := ?v4_14) rfl (by kernel_rfl) (by kernel_rfl) (by kernel_rfl) (fun _ _ _ h => h) (Or.inl ⟨by rfl, ?hy4_14⟩) (by assumption) ?rest4_14
        case hy4_14 => (intro w9 hSw; clear hSw; go_simp; try with_reducible rfl)
        try simp only [Act.put, List.setIfInBounds_toArray, List.set_cons_zero, List.set_cons_succ, List.getElem_toArray, List.getElem_cons_zero, List.getElem_cons_succ]
        refine wpAnyH_take (i := 5) (v := ?v5_15) rfl (by kernel_rfl) (by kernel_rfl) (by kernel_rfl) (fun _ _ _ h => h) (Or.inl ⟨by rfl, ?hy5_15⟩) (by assumption) ?rest5_15
        case hy5_15 => (intro w9 hSw; clear hSw; go_simp; try with_reducible rfl)
        try simp only [Act.put, List.setIfInBounds_toArray, List.set_cons_zero, List.set_cons_succ, List.getElem_toArray, List.getElem_cons_zero, List.getElem_cons_succ]
        refine wpAnyH_take (i := 6) (v := ?v6_16) rfl (by kernel_rfl) (by kernel_rfl) (by kernel_rfl) (fun _ _ _ h => h) (Or.inl ⟨by rfl, ?hy6_16⟩) (by assumption) ?rest6_16
        case hy6_16 => (intro w9 hSw; clear hSw; go_simp; try with_reducible rfl)
        try simp only [Act.put, List.setIfInBounds_toArray, List.set_cons_zero, List.set_cons_succ, List.getElem_toArray, List.getElem_cons_zero, List.getElem_cons_succ]
        refine wpAnyH_take (i := 7) (v := ?v7_17) rfl (by kernel_rfl) (by kernel_rfl) (by kernel_rfl) (fun _ _ _ h => h) (Or.inl ⟨by rfl, ?hy7_17⟩) (by assumption) ?rest7_17
        case hy7_17 => (intro w9 hSw; clear hSw; go_simp; try with_reducible rfl)
        try simp only [Act.put, List.setIfInBounds_toArray, List.set_cons_zero, List.set_cons_succ, List.getElem_toArray, List.getElem_cons_zero, List.getElem_cons_succ]
        refine wpAnyH_take (i := 8) (v := ?v8_18) rfl (by kernel_rfl) (by kernel_rfl) (by kernel_rfl) (fun _ _ _ h => h) (Or.inl ⟨by rfl, ?hy8_18⟩) (by assumption) ?rest8_18
        case hy8_18 => (intro w9 hSw; obtain ⟨ma1, ma2, ma3⟩ := hSw; obtain ⟨y0, y1, y2, _, _, _⟩ := Mbx.cells ma1; obtain ⟨u0, u1, _, _⟩ := Tbx.cells ma2; go_simp; try with_reducible rfl)
        try simp only [Act.put, List.setIfInBounds_toArray, List.set_cons_zero, List.set_cons_succ, List.getElem_toArray, List.getElem_cons_zero, List.getElem_cons_succ]
        refine wpAnyH_take (i := 9) (v := ?v9_19) rfl (by kernel_rfl) (by kernel_rfl) (by kernel_rfl) (fun _ _ _ h => h) (Or.inl ⟨by rfl, ?hy9_19⟩) (by assumption) ?rest9_19
        case hy9_19 => (intro w9 hSw; clear hSw; go_simp; try with_reducible rfl)
        try simp only [Act.put, List.setIfInBounds_toArray, List.set_cons_zero, List.set_cons_succ, List.getElem_toArray, List.getElem_cons_zero, List.getElem_cons_succ]
        refine wpAnyH_take (i := 10) (v := ?v10_20) rfl (by kernel_rfl) (by kernel_rfl) (by kernel_rfl) (fun _ _ _ h => h) (Or.inl ⟨by rfl, ?hy10_20⟩) (by assumption) ?rest10_20
        case hy10_20 => (intro w9 hSw; clear hSw; go_simp; try with_reducible rfl)
        try simp only [Act.put, List.setIfInBounds_toArray, List.set_cons_zero, List.set_cons_succ, List.getElem_toArray, List.getElem_cons_zero, List.getElem_cons_succ]
        refine wpAnyH_take (i := 11) (v := ?v11_21) rfl (by kernel_rfl) (by kernel_rfl) (by kernel_rfl) (fun _ _ _ h => h) (Or.inl ⟨by rfl, ?hy11_21⟩) (by assumption) ?rest11_21
        case hy11_21 => (intro w9 hSw; obtain ⟨ma1, ma2, ma3⟩ := hSw; obtain ⟨y0, y1, y2, _, _, _⟩ := Mbx.cells ma1; obtain ⟨u0, u1, _, _⟩ := Tbx.cells ma2; go_simp; try with_reducible rfl)
        try simp only [Act.put, List.setIfInBounds_toArray, List.set_cons_zero, List.set_cons_succ, List.getElem_toArray, List.getElem_cons_zero, List.getElem_cons_succ]
        refine wpAnyH_take (i := 12) (v := ?v12_22) rfl (by kernel_rfl) (by kernel_rfl) (by kernel_rfl) (fun _ _ _ h => h) (Or.inl ⟨by rfl, ?hy12_22⟩) (by assumption) ?rest12_22
        case hy12_22 => (intro w9 hSw; clear hSw; go_simp; try with_reducible rfl)
        try simp only [Act.put, List.setIfInBounds_toArray, List.set_cons_zero, List.set_cons_succ, List.getElem_toArray, List.getElem_cons_zero, List.getElem_cons_succ]
        obtain ⟨hy4, hy5⟩ := HR.at_ (k := za) (by rw [hlen8]; omega)
        refine wpAnyH_ready (rs := [13]) (by kernel_rfl) (by simp) ?_
        refine AllReadyH.cons rfl (fun K hK => ?_) AllReadyH.nil
        go_simp
        clear hy4 hy5
        have hgs : wl8.grownBy (wl8.setCell ⟨g, za, none⟩ (.float .f64 YD)) (some g) := grown_setCell (World.grownBy.refl wl8 _) _ _
        replace DT := DT.grown hgs (by simp; omega)
        replace DZ := DZ.grown hgs (by simp; omega)
        replace DK := DK.grown hgs (by simp; omega)
        replace h := fl_far h hgs (fun x e h9 => by have := hDA x e h9; omega)
        replace h2 := fl_far h2 hgs (fun x e h9 => by have := hDE x e h9; omega)
        replace hc9 : (wl8.setCell ⟨g, za, none⟩ (.float .f64 YD)).cell? (adD.add k) = some (.float .f64 YD) := (World.cell?_of_block (Below.heap_setCell _ ⟨g, za, none⟩ _ _ (by simp only [add_block]; exact hbk))).trans hc9
        replace HR := HR.set_ za (YD : Int)
        rw [show fV (YD : Int) = .float .f64 YD from rfl] at HR
        replace bz := bz.setCell (p := ⟨g, za, none⟩) (by show w.heap.size ≤ g; omega) (.float .f64 YD)
        clear hgs
        clear hS; refine hK.out _ _ ⟨DK, DT, hc9⟩ (fun hS => ?_); clear hK K
        try simp only [Act.put, List.setIfInBounds_toArray, List.set_cons_zero, List.set_cons_succ, List.getElem_toArray, List.getElem_cons_zero, List.getElem_cons_succ]
        refine wpAnyH_done (by kernel_rfl) ?_ _
        have hI8 := Is.upd hI.out (z := za) (x := (YD : Int)) (by omega) (by omega) (by omega) HD.out
        clear hS hc9 hbk
        generalize (wl8.setCell ⟨g, za, none⟩ (.float .f64 YD)) = Ws8 at HR h h2 DT DZ DK bz ⊢
        have hI9 := Lib.hid (Is.congr hI8 (g := dgF d n (k + 1)) (fun j hj => by rw [← HN.out] at hj; rw [← HZa.out]; exact dgF_next hlt hj))
        clear hI8
        go_wp2_with fail
        go_roundw
        case rel => exact ⟨k + 1, _, by omega, by go_num, hI9, HR, h, h2, DT, DZ, DK, bz⟩
        case measure => simp [intOf]; omega
    · as_aux_lemma =>
        have hkn : k = n := by omega
        have kk : ¬ (k : Int) < n := by omega
        obtain ⟨t0, t1, _, _⟩ := Tbx.cells DT
        have hIb : Hid (Is L N (bsF d e n 0)) := Lib.hid (by
          have h9 := hI.out
          rw [hkn] at h9
          refine h9.congr (fun j hj => ?_)
          rw [← HN.out] at hj
          have n0 : 0 < n := by
            rcases Nat.eq_zero_or_pos n with e0 | e0
            · subst e0; omega
            · exact e0
          exact dgF_bs n0)
        clear hI hkn hlen hlt
        go_wp2_with fail
        clear t0 t1
        go_loopw [38, 7] (fun i i2 wr => ∃ (k : Nat) (L : List Int), k ≤ m ∧ i = .int .i64 k ∧ Hid (Is L N (bsF d e n k)) ∧ RowF wr g L ∧ FL wr A n c d ∧ FL wr A2 m c2 e ∧ Tbx wr w.heap.size A n c A2 m c2 ∧ Mbx wr (w.heap.size + 1) 0 0 none 0 0 ∧ Mbx wr KK n n (some ⟨g, 0, none⟩) N N ∧ Below w.heap.size w wr) (fun i _ _ => m - (intOf i).toNat)
        case atStart => exact ⟨0, L, Nat.zero_le _, rfl, hIb, HR, h, h2, DT, DZ, DK, bz⟩
        case round =>
          clear hIb HR h h2 DT DZ DK bz kk kk0 hk
          obtain ⟨k, L, hk, rfl, hI, HR, h, h2, DT, DZ, DK, bz⟩ := hrel
          have hlen := hI.out.len
          have kk0 : (0 : Int) ≤ k := by omega
          by_cases hlt : k < m
          · as_aux_lemma =>
              have kkm : (k : Int) < m := by omega
              have hmn1 : m + 1 = n := by have := HM.out; omega
              have hk1 : k + 1 < n := by omega
              obtain ⟨k1, hkk1⟩ : ∃ x, k + 1 = x := ⟨_, rfl⟩
              have ek1 : (k : Int) + 1 = (k1 : Int) := by omega
              have wk1 : IntKind.i64.wrap (k1 : Int) = (k1 : Int) := IntWalk.i64_in _ (by omega)
              have HK1 := Lib.hid hkk1
              clear hmn1
              obtain ⟨yb, hyb⟩ : ∃ y, k * n = y := ⟨_, rfl⟩
              obtain ⟨zb, hzb⟩ : ∃ z, yb + k = z := ⟨_, rfl⟩
              obtain ⟨zc, hzc⟩ : ∃ z, zb + 1 = z := ⟨_, rfl⟩
              have hNc : zc < N := by have h9 := ix_lt (i := k) (j := k + 1) (m := n) (q := n) (by omega) (by omega); rw [HN.out] at h9; omega
              have HZc : Hid (k * n + (k + 1) = zc) := Lib.hid (by omega)
              have eyb : (k : Int) * (n : Int) = (yb : Int) := by exact_mod_cast hyb
              have ezb : (yb : Int) + (k : Int) = (zb : Int) := by omega
              have ezc : (zb : Int) + 1 = (zc : Int) := by omega
              have wyb : IntKind.i64.wrap (yb : Int) = (yb : Int) := IntWalk.i64_in _ (by omega)
              have wzb : IntKind.i64.wrap (zb : Int) = (zb : Int) := IntWalk.i64_in _ (by omega)
              have wzc : IntKind.i64.wrap (zc : Int) = (zc : Int) := IntWalk.i64_in _ (by omega)
              have z0c : (0 : Int) ≤ zc := by omega
              have z1c : (zc : Int) < N := by omega
              clear hyb hzb hzc
              obtain ⟨yd, hyd⟩ : ∃ y, k1 * n = y := ⟨_, rfl⟩
              obtain ⟨zd, hzd⟩ : ∃ z, yd + k = z := ⟨_, rfl⟩
              have hNd : zd < N := by rw [← hzd, ← hyd, ← HN.out]; exact ix_lt (by omega) (by omega)
              have HZd : Hid (k1 * n + k = zd) := Lib.hid (by rw [← hzd, ← hyd])
              have eyd : (k1 : Int) * (n : Int) = (yd : Int) := by exact_mod_cast hyd
              have ezd : (yd : Int) + (k : Int) = (zd : Int) := by omega
              have wyd : IntKind.i64.wrap (yd : Int) = (yd : Int) := IntWalk.i64_in _ (by omega)
              have wzd : IntKind.i64.wrap (zd : Int) = (zd : Int) := IntWalk.i64_in _ (by omega)
              have z0d : (0 : Int) ≤ zd := by omega
              have z1d : (zd : Int) < N := by omega
              clear hyd hzd
              obtain ⟨x1, x2⟩ := h2.2.2.at_ k
              obtain ⟨YE, hYE⟩ : ∃ Y, (D e k).toNat = Y := ⟨_, rfl⟩
              have bE : YE ≤ 18446744073709551615 := by omega
              have HE : Hid (fa (YE : Int) = fa (D e k)) := Lib.hid (by rw [fa_nat, ← hYE]; rfl)
              clear x1 x2
              clear hkk1
              obtain ⟨adE, hE9, _, _⟩ := h2.at_ hlt
              have hbE := hDE adE hE9 (by omega)
              subst hE9
              have hc9 : wr.cell? (adE.add k) = some (.float .f64 YE) := by have h9 := h2.2.1.at_some (k := k) (by rw [h2.1]; omega); rw [hYE] at h9; exact h9
              have hbk : adE.block ≠ g := by omega
              have hlen13 := hI.out.len
              go_wp2_with fail
              replace HR := HR.drew
              replace h := h.drew
              replace h2 := h2.drew
              replace DT := DT.drew
              replace DZ := DZ.drew
              replace DK := DK.drew
              replace bz := bz.drew
              replace hc9 : wr.drew.cell? (adE.add k) = some (.float .f64 YE) := hc9
              refine wp_region_held_drew (S := fun w9 : World => Mbx w9 KK n n (some ⟨g, 0, none⟩) N N ∧ Tbx w9 w.heap.size A n c (some adE) m c2 ∧ w9.cell? (adE.add k) = some (.float .f64 YE)) (by kernel_rfl) ⟨DK, DT, hc9⟩ (fun hS => ?_)
              generalize wr.drew = wl13 at hS HR h h2 DT DZ DK hc9 bz ⊢
              refine wpAnyH_take (i := 0) (v := ?v0_23) rfl (by kernel_rfl) (by kernel_rfl) (by kernel_rfl) (fun _ _ _ h => h) (Or.inl ⟨by rfl, ?hy0_23⟩) (by assumption) ?rest0_23
              case hy0_23 => (intro w9 hSw; clear hSw; go_simp; try with_reducible rfl)
              try simp only [Act.put, List.setIfInBounds_toArray, List.set_cons_zero, List.set_cons_succ, List.getElem_toArray, List.getElem_cons_zero, List.getElem_cons_succ]
              refine wpAnyH_take (i := 1) (v := ?v1_24) rfl (by kernel_rfl) (by kernel_rfl) (by kernel_rfl) (fun _ _ _ h => h) (Or.inl ⟨by rfl, ?hy1_24⟩) (by assumption) ?rest1_24
              case hy1_24 => (intro w9 hSw; obtain ⟨ma1, ma2, ma3⟩ := hSw; obtain ⟨y0, y1, y2, _, _, _⟩ := Mbx.cells ma1; obtain ⟨u0, u1, _, _⟩ := Tbx.cells ma2; go_simp; try with_reducible rfl)
              try simp only [Act.put, List.setIfInBounds_toArray, List.set_cons_zero, List.set_cons_succ, List.getElem_toArray, List.getElem_cons_zero, List.getElem_cons_succ]
              refine wpAnyH_take (i := 2) (v := ?v2_25) rfl (by kernel_rfl) (by kernel_rfl) (by kernel_rfl) (fun _ _ _ h => h) (Or.inl ⟨by rfl, ?hy2_25⟩) (by assumption) ?rest2_25
              case hy2_25 => (intro w9 hSw; clear hSw; go_simp; try with_reducible rfl)
              try simp only [Act.put, List.setIfInBounds_toArray, List.set_cons_zero, List.set_cons_succ, List.getElem_toArray, List.getElem_cons_zero, List.getElem_cons_succ]
              refine wpAnyH_take (i := 3) (v := ?v3_26) rfl (by kernel_rfl) (by kernel_rfl) (by kernel_rfl) (fun _ _ _ h => h) (Or.inl ⟨by rfl, ?hy3_26⟩) (by assumption) ?rest3_26
              case hy3_26 => (intro w9 hSw; clear hSw; go_simp; try with_reducible rfl)
              try simp only [Act.put, List.setIfInBounds_toArray, List.set_cons_zero, List.set_cons_succ, List.getElem_toArray, List.getElem_cons_zero, List.getElem_cons_succ]
              refine wpAnyH_take (i := 4) (v := ?v4_27) rfl (by kernel_rfl) (by kernel_rfl) (by kernel_rfl) (fun _ _ _ h => h) (Or.inl ⟨by rfl, ?hy4_27⟩) (by assumption) ?rest4_27
              case hy4_27 => (intro w9 hSw; clear hSw; go_simp; try with_reducible rfl)
              try simp only [Act.put, List.setIfInBounds_toArray, List.set_cons_zero, List.set_cons_succ, List.getElem_toArray, List.getElem_cons_zero, List.getElem_cons_succ]
              refine wpAnyH_take (i := 5) (v := ?v5_28) rfl (by kernel_rfl) (by kernel_rfl) (by kernel_rfl) (fun _ _ _ h => h) (Or.inl ⟨by rfl, ?hy5_28⟩) (by assumption) ?rest5_28
              case hy5_28 => (intro w9 hSw; clear hSw; go_simp; try with_reducible rfl)
              try simp only [Act.put, List.setIfInBounds_toArray, List.set_cons_zero, List.set_cons_succ, List.getElem_toArray, List.getElem_cons_zero, List.getElem_cons_succ]
              refine wpAnyH_take (i := 6) (v := ?v6_29) rfl (by kernel_rfl) (by kernel_rfl) (by kernel_rfl) (fun _ _ _ h => h) (Or.inl ⟨by rfl, ?hy6_29⟩) (by assumption) ?rest6_29
              case hy6_29 => (intro w9 hSw; clear hSw; go_simp; try with_reducible rfl)
              try simp only [Act.put, List.setIfInBounds_toArray, List.set_cons_zero, List.set_cons_succ, List.getElem_toArray, List.getElem_cons_zero, List.getElem_cons_succ]
              refine wpAnyH_take (i := 7) (v := ?v7_30) rfl (by kernel_rfl) (by kernel_rfl) (by kernel_rfl) (fun _ _ _ h => h) (Or.inl ⟨by rfl, ?hy7_30⟩) (by assumption) ?rest7_30
              case hy7_30 => (intro w9 hSw; clear hSw; go_simp; try with_reducible rfl)
              try simp only [Act.put, List.setIfInBounds_toArray, List.set_cons_zero, List.set_cons_succ, List.getElem_toArray, List.getElem_cons_zero, List.getElem_cons_succ]
              refine wpAnyH_take (i := 8) (v := ?v8_31) rfl (by kernel_rfl) (by kernel_rfl) (by kernel_rfl) (fun _ _ _ h => h) (Or.inl ⟨by rfl, ?hy8_31⟩) (by assumption) ?rest8_31
              case hy8_31 => (intro w9 hSw; clear hSw; go_simp; try with_reducible rfl)
              try simp only [Act.put, List.setIfInBounds_toArray, List.set_cons_zero, List.set_cons_succ, List.getElem_toArray, List.getElem_cons_zero, List.getElem_cons_succ]
              refine wpAnyH_take (i := 9) (v := ?v9_32) rfl (by kernel_rfl) (by kernel_rfl) (by kernel_rfl) (fun _ _ _ h => h) (Or.inl ⟨by rfl, ?hy9_32⟩) (by assumption) ?rest9_32
              case hy9_32 => (intro w9 hSw; obtain ⟨ma1, ma2, ma3⟩ := hSw; obtain ⟨y0, y1, y2, _, _, _⟩ := Mbx.cells ma1; obtain ⟨u0, u1, _, _⟩ := Tbx.cells ma2; go_simp; try with_reducible rfl)
              try simp only [Act.put, List.setIfInBounds_toArray, List.set_cons_zero, List.set_cons_succ, List.getElem_toArray, List.getElem_cons_zero, List.getElem_cons_succ]
              refine wpAnyH_take (i := 10) (v := ?v10_33) rfl (by kernel_rfl) (by kernel_rfl) (by kernel_rfl) (fun _ _ _ h => h) (Or.inl ⟨by rfl, ?hy10_33⟩) (by assumption) ?rest10_33
              case hy10_33 => (intro w9 hSw; clear hSw; go_simp; try with_reducible rfl)
              try simp only [Act.put, List.setIfInBounds_toArray, List.set_cons_zero, List.set_cons_succ, List.getElem_toArray, List.getElem_cons_zero, List.getElem_cons_succ]
              refine wpAnyH_take (i := 11) (v := ?v11_34) rfl (by kernel_rfl) (by kernel_rfl) (by kernel_rfl) (fun _ _ _ h => h) (Or.inl ⟨by rfl, ?hy11_34⟩) (by assumption) ?rest11_34
              case hy11_34 => (intro w9 hSw; clear hSw; go_simp; try with_reducible rfl)
              try simp only [Act.put, List.setIfInBounds_toArray, List.set_cons_zero, List.set_cons_succ, List.getElem_toArray, List.getElem_cons_zero, List.getElem_cons_succ]
              refine wpAnyH_take (i := 12) (v := ?v12_35) rfl (by kernel_rfl) (by kernel_rfl) (by kernel_rfl) (fun _ _ _ h => h) (Or.inl ⟨by rfl, ?hy12_35⟩) (by assumption) ?rest12_35
              case hy12_35 => (intro w9 hSw; obtain ⟨ma1, ma2, ma3⟩ := hSw; obtain ⟨y0, y1, y2, _, _, _⟩ := Mbx.cells ma1; obtain ⟨u0, u1, _, _⟩ := Tbx.cells ma2; go_simp; try with_reducible rfl)
              try simp only [Act.put, List.setIfInBounds_toArray, List.set_cons_zero, List.set_cons_succ, List.getElem_toArray, List.getElem_cons_zero, List.getElem_cons_succ]
              refine wpAnyH_take (i := 13) (v := ?v13_36) rfl (by kernel_rfl) (by kernel_rfl) (by kernel_rfl) (fun _ _ _ h => h) (Or.inl ⟨by rfl, ?hy13_36⟩) (by assumption) ?rest13_36
              case hy13_36 => (intro w9 hSw; clear hSw; go_simp; try with_reducible rfl)
              try simp only [Act.put, List.setIfInBounds_toArray, List.set_cons_zero, List.set_cons_succ, List.getElem_toArray, List.getElem_cons_zero, List.getElem_cons_succ]
              obtain ⟨hy4, hy5⟩ := HR.at_ (k := zc) (by rw [hlen13]; omega)
              refine wpAnyH_ready (rs := [14]) (by kernel_rfl) (by simp) ?_
              refine AllReadyH.cons rfl (fun K hK => ?_) AllReadyH.nil
              go_simp
              clear hy4 hy5
              have hgs : wl13.grownBy (wl13.setCell ⟨g, zc, none⟩ (.float .f64 YE)) (some g) := grown_setCell (World.grownBy.refl wl13 _) _ _
              replace DT := DT.grown hgs (by simp; omega)
              replace DZ := DZ.grown hgs (by simp; omega)
              replace DK := DK.grown hgs (by simp; omega)
              replace h := fl_far h hgs (fun x e h9 => by have := hDA x e h9; omega)
              replace h2 := fl_far h2 hgs (fun x e h9 => by have := hDE x e h9; omega)
              replace hc9 : (wl13.setCell ⟨g, zc, none⟩ (.float .f64 YE)).cell? (adE.add k) = some (.float .f64 YE) := (World.cell?_of_block (Below.heap_setCell _ ⟨g, zc, none⟩ _ _ (by simp only [add_block]; exact hbk))).trans hc9
              replace HR := HR.set_ zc (YE : Int)
              rw [show fV (YE : Int) = .float .f64 YE from rfl] at HR
              replace bz := bz.setCell (p := ⟨g, zc, none⟩) (by show w.heap.size ≤ g; omega) (.float .f64 YE)
              clear hgs
              clear hS; refine hK.out _ _ ⟨DK, DT, hc9⟩ (fun hS => ?_); clear hK K
              try simp only [Act.put, List.setIfInBounds_toArray, List.set_cons_zero, List.set_cons_succ, List.getElem_toArray, List.getElem_cons_zero, List.getElem_cons_succ]
              refine wpAnyH_done (by kernel_rfl) ?_ _
              have hI13 := Is.upd hI.out (z := zc) (x := (YE : Int)) (by omega) (by omega) (by omega) HE.out
              clear hS hc9 hbk
              generalize (wl13.setCell ⟨g, zc, none⟩ (.float .f64 YE)) = Ws13 at HR h h2 DT DZ DK bz ⊢
              have hc9 : Ws13.cell? (adE.add k) = some (.float .f64 YE) := by have h9 := h2.2.1.at_some (k := k) (by rw [h2.1]; omega); rw [hYE] at h9; exact h9
              have hbk : adE.block ≠ g := by omega
              have hlen14 := hI13.len
              go_wp2_with fail
              replace HR := HR.drew
              replace h := h.drew
              replace h2 := h2.drew
              replace DT := DT.drew
              replace DZ := DZ.drew
              replace DK := DK.drew
              replace bz := bz.drew
              replace hc9 : Ws13.drew.cell? (adE.add k) = some (.float .f64 YE) := hc9
              refine wp_region_held_drew (S := fun w9 : World => Mbx w9 KK n n (some ⟨g, 0, none⟩) N N ∧ Tbx w9 w.heap.size A n c (some adE) m c2 ∧ w9.cell? (adE.add k) = some (.float .f64 YE)) (by kernel_rfl) ⟨DK, DT, hc9⟩ (fun hS => ?_)
              generalize Ws13.drew = wl14 at hS HR h h2 DT DZ DK hc9 bz ⊢
              refine wpAnyH_take (i := 0) (v := ?v0_37) rfl (by kernel_rfl) (by kernel_rfl) (by kernel_rfl) (fun _ _ _ h => h) (Or.inl ⟨by rfl, ?hy0_37⟩) (by assumption) ?rest0_37
              case hy0_37 => (intro w9 hSw; clear hSw; go_simp; try with_reducible rfl)
              try simp only [Act.put, List.setIfInBounds_toArray, List.set_cons_zero, List.set_cons_succ, List.getElem_toArray, List.getElem_cons_zero, List.getElem_cons_succ]
              refine wpAnyH_take (i := 1) (v := ?v1_38) rfl (by kernel_rfl) (by kernel_rfl) (by kernel_rfl) (fun _ _ _ h => h) (Or.inl ⟨by rfl, ?hy1_38⟩) (by assumption) ?rest1_38
              case hy1_38 => (intro w9 hSw; obtain ⟨ma1, ma2, ma3⟩ := hSw; obtain ⟨y0, y1, y2, _, _, _⟩ := Mbx.cells ma1; obtain ⟨u0, u1, _, _⟩ := Tbx.cells ma2; go_simp; try with_reducible rfl)
              try simp only [Act.put, List.setIfInBounds_toArray, List.set_cons_zero, List.set_cons_succ, List.getElem_toArray, List.getElem_cons_zero, List.getElem_cons_succ]
              refine wpAnyH_take (i := 2) (v := ?v2_39) rfl (by kernel_rfl) (by kernel_rfl) (by kernel_rfl) (fun _ _ _ h => h) (Or.inl ⟨by rfl, ?hy2_39⟩) (by assumption) ?rest2_39
              case hy2_39 => (intro w9 hSw; clear hSw; go_simp; try with_reducible rfl)
              try simp only [Act.put, List.setIfInBounds_toArray, List.set_cons_zero, List.set_cons_succ, List.getElem_toArray, List.getElem_cons_zero, List.getElem_cons_succ]
              refine wpAnyH_take (i := 3) (v := ?v3_40) rfl (by kernel_rfl) (by kernel_rfl) (by kernel_rfl) (fun _ _ _ h => h) (Or.inl ⟨by rfl, ?hy3_40⟩) (by assumption) ?rest3_40
              case hy3_40 => (intro w9 hSw; clear hSw; go_simp; try with_reducible rfl)
              try simp only [Act.put, List.setIfInBounds_toArray, List.set_cons_zero, List.set_cons_succ, List.getElem_toArray, List.getElem_cons_zero, List.getElem_cons_succ]
              refine wpAnyH_take (i := 4) (v := ?v4_41) rfl (by kernel_rfl) (by kernel_rfl) (by kernel_rfl) (fun _ _ _ h => h) (Or.inl ⟨by rfl, ?hy4_41⟩) (by assumption) ?rest4_41
              case hy4_41 => (intro w9 hSw; clear hSw; go_simp; try with_reducible rfl)
              try simp only [Act.put, List.setIfInBounds_toArray, List.set_cons_zero, List.set_cons_succ, List.getElem_toArray, List.getElem_cons_zero, List.getElem_cons_succ]
              refine wpAnyH_take (i := 5) (v := ?v5_42) rfl (by kernel_rfl) (by kernel_rfl) (by kernel_rfl) (fun _ _ _ h => h) (Or.inl ⟨by rfl, ?hy5_42⟩) (by assumption) ?rest5_42
              case hy5_42 => (intro w9 hSw; clear hSw; go_simp; try with_reducible rfl)
              try simp only [Act.put, List.setIfInBounds_toArray, List.set_cons_zero, List.set_cons_succ, List.getElem_toArray, List.getElem_cons_zero, List.getElem_cons_succ]
              refine wpAnyH_take (i := 6) (v := ?v6_43) rfl (by kernel_rfl) (by kernel_rfl) (by kernel_rfl) (fun _ _ _ h => h) (Or.inl ⟨by rfl, ?hy6_43⟩) (by assumption) ?rest6_43
              case hy6_43 => (intro w9 hSw; clear hSw; go_simp; try with_reducible rfl)
              try simp only [Act.put, List.setIfInBounds_toArray, List.set_cons_zero, List.set_cons_succ, List.getElem_toArray, List.getElem_cons_zero, List.getElem_cons_succ]
              refine wpAnyH_take (i := 7) (v := ?v7_44) rfl (by kernel_rfl) (by kernel_rfl) (by kernel_rfl) (fun _ _ _ h => h) (Or.inl ⟨by rfl, ?hy7_44⟩) (by assumption) ?rest7_44
              case hy7_44 => (intro w9 hSw; clear hSw; go_simp; try with_reducible rfl)
              try simp only [Act.put, List.setIfInBounds_toArray, List.set_cons_zero, List.set_cons_succ, List.getElem_toArray, List.getElem_cons_zero, List.getElem_cons_succ]
              refine wpAnyH_take (i := 8) (v := ?v8_45) rfl (by kernel_rfl) (by kernel_rfl) (by kernel_rfl) (fun _ _ _ h => h) (Or.inl ⟨by rfl, ?hy8_45⟩) (by assumption) ?rest8_45
              case hy8_45 => (intro w9 hSw; clear hSw; go_simp; try with_reducible rfl)
              try simp only [Act.put, List.setIfInBounds_toArray, List.set_cons_zero, List.set_cons_succ, List.getElem_toArray, List.getElem_cons_zero, List.getElem_cons_succ]
              refine wpAnyH_take (i := 9) (v := ?v9_46) rfl (by kernel_rfl) (by kernel_rfl) (by kernel_rfl) (fun _ _ _ h => h) (Or.inl ⟨by rfl, ?hy9_46⟩) (by assumption) ?rest9_46
              case hy9_46 => (intro w9 hSw; obtain ⟨ma1, ma2, ma3⟩ := hSw; obtain ⟨y0, y1, y2, _, _, _⟩ := Mbx.cells ma1; obtain ⟨u0, u1, _, _⟩ := Tbx.cells ma2; go_simp; try with_reducible rfl)
              try simp only [Act.put, List.setIfInBounds_toArray, List.set_cons_zero, List.set_cons_succ, List.getElem_toArray, List.getElem_cons_zero, List.getElem_cons_succ]
              refine wpAnyH_take (i := 10) (v := ?v10_47) rfl (by kernel_rfl) (by kernel_rfl) (by kernel_rfl) (fun _ _ _ h => h) (Or.inl ⟨by rfl, ?hy10_47⟩) (by assumption) ?rest10_47
              case hy10_47 => (intro w9 hSw; clear hSw; go_simp; try with_reducible rfl)
              try simp only [Act.put, List.setIfInBounds_toArray, List.set_cons_zero, List.set_cons_succ, List.getElem_toArray, List.getElem_cons_zero, List.getElem_cons_succ]
              refine wpAnyH_take (i := 11) (v := ?v11_48) rfl (by kernel_rfl) (by kernel_rfl) (by kernel_rfl) (fun _ _ _ h => h) (Or.inl ⟨by rfl, ?hy11_48⟩) (by assumption) ?rest11_48
              case hy11_48 => (intro w9 hSw; clear hSw; go_simp; try with_reducible rfl)
              try simp only [Act.put, List.setIfInBounds_toArray, List.set_cons_zero, List.set_cons_succ, List.getElem_toArray, List.getElem_cons_zero, List.getElem_cons_succ]
              refine wpAnyH_take (i := 12) (v := ?v12_49) rfl (by kernel_rfl) (by kernel_rfl) (by kernel_rfl) (fun _ _ _ h => h) (Or.inl ⟨by rfl, ?hy12_49⟩) (by assumption) ?rest12_49
              case hy12_49 => (intro w9 hSw; obtain ⟨ma1, ma2, ma3⟩ := hSw; obtain ⟨y0, y1, y2, _, _, _⟩ := Mbx.cells ma1; obtain ⟨u0, u1, _, _⟩ := Tbx.cells ma2; go_simp; try with_reducible rfl)
              try simp only [Act.put, List.setIfInBounds_toArray, List.set_cons_zero, List.set_cons_succ, List.getElem_toArray, List.getElem_cons_zero, List.getElem_cons_succ]
              refine wpAnyH_take (i := 13) (v := ?v13_50) rfl (by kernel_rfl) (by kernel_rfl) (by kernel_rfl) (fun _ _ _ h => h) (Or.inl ⟨by rfl, ?hy13_50⟩) (by assumption) ?rest13_50
              case hy13_50 => (intro w9 hSw; clear hSw; go_simp; try with_reducible rfl)
              try simp only [Act.put, List.setIfInBounds_toArray, List.set_cons_zero, List.set_cons_succ, List.getElem_toArray, List.getElem_cons_zero, List.getElem_cons_succ]
              obtain ⟨hy4, hy5⟩ := HR.at_ (k := zd) (by rw [hlen14]; omega)
              refine wpAnyH_ready (rs := [14]) (by kernel_rfl) (by simp) ?_
              refine AllReadyH.cons rfl (fun K hK => ?_) AllReadyH.nil
              go_simp
              clear hy4 hy5
              have hgs : wl14.grownBy (wl14.setCell ⟨g, zd, none⟩ (.float .f64 YE)) (some g) := grown_setCell (World.grownBy.refl wl14 _) _ _
              replace DT := DT.grown hgs (by simp; omega)
              replace DZ := DZ.grown hgs (by simp; omega)
              replace DK := DK.grown hgs (by simp; omega)
              replace h := fl_far h hgs (fun x e h9 => by have := hDA x e h9; omega)
              replace h2 := fl_far h2 hgs (fun x e h9 => by have := hDE x e h9; omega)
              replace hc9 : (wl14.setCell ⟨g, zd, none⟩ (.float .f64 YE)).cell? (adE.add k) = some (.float .f64 YE) := (World.cell?_of_block (Below.heap_setCell _ ⟨g, zd, none⟩ _ _ (by simp only [add_block]; exact hbk))).trans hc9
              replace HR := HR.set_ zd (YE : Int)
              rw [show fV (YE : Int) = .float .f64 YE from rfl] at HR
              replace bz := bz.setCell (p := ⟨g, zd, none⟩) (by show w.heap.size ≤ g; omega) (.float .f64 YE)
              clear hgs
              clear hS; refine hK.out _ _ ⟨DK, DT, hc9⟩ (fun hS => ?_); clear hK K
              try simp only [Act.put, List.setIfInBounds_toArray, List.set_cons_zero, List.set_cons_succ, List.getElem_toArray, List.getElem_cons_zero, List.getElem_cons_succ]
              refine wpAnyH_done (by kernel_rfl) ?_ _
              have hI14 := Is.upd hI13 (z := zd) (x := (YE : Int)) (by omega) (by omega) (by omega) HE.out
              clear hS hc9 hbk
              generalize (wl14.setCell ⟨g, zd, none⟩ (.float .f64 YE)) = Ws14 at HR h h2 DT DZ DK bz ⊢
              have hI15 := Lib.hid (Is.congr hI14 (g := bsF d e n (k + 1)) (fun j hj => by
                rw [← HN.out] at hj
                have e1 := HK1.out
                subst e1
                rw [← HZc.out, ← HZd.out]
                exact bsF_next hk1 hj))
              clear hI14 hI13
              go_wp2_with fail
              go_roundw
              case rel => exact ⟨k + 1, _, by omega, by go_num, hI15, HR, h, h2, DT, DZ, DK, bz⟩
              case measure => simp [intOf]; omega
          · as_aux_lemma =>
              have hkm : k = m := by omega
              have kk : ¬ (k : Int) < m := by omega
              obtain ⟨k0, k1, k2, k3, k4, k5⟩ := Mbx.cells DK
              obtain ⟨z0, z1, z2, z3, z4, z5⟩ := Mbx.cells DZ
              have hIf : Hid (Is L N (fullF d e n n)) := Lib.hid (by
                have h9 := hI.out
                rw [hkm] at h9
                refine h9.congr (fun j hj => ?_)
                rw [← HN.out] at hj
                rcases HM.out with ⟨e0, _⟩ | ⟨e0, e1⟩
                · subst e0; omega
                · exact bsF_full e1 hj)
              clear hI hkm
              go_wp2_with fail
              obtain ⟨x0, x1, x2, _, _, _⟩ := Mbx.cells (Mbx.put DZ n n (some ⟨g, 0, none⟩) N N)
              refine bodyPost_ret (v := .tuple #[mV n n (some ⟨g, 0, none⟩) N N, .int .i64 0]) (by simp [results, Try.results17, go_sem, x0, x1, x2]) rfl ?_
              have hgs : wr.grownBy (((wr.setCell ⟨w.heap.size + 1, 0, none⟩ (.int .i64 n)).setCell ⟨w.heap.size + 1, 1, none⟩ (.int .i64 n)).setCell ⟨w.heap.size + 1, 2, none⟩ (.slice (some ⟨g, 0, none⟩) N N)) (some (w.heap.size + 1)) := grown_setCell (grown_setCell (grown_setCell (World.grownBy.refl wr _) 0 _) 1 _) 2 _
              have hO := (RowF.grown HR hgs (by simp; omega)).owned (B := w.heap.size) (by rw [hlen]; omega) (by omega)
              rw [hlen] at hO
              exact ⟨_, N, L, by rw [HN.out], hO, by rw [HN.out]; exact hIf.out, bz.grown hgs bz.size (fun b e => by injection e with e; omega)⟩
end Go.Proofs.Ytaemkjcmjgefeaa
