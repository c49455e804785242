/-
  Layer 9, walks: several reflections at once: sums by the program's closures. (Written by wip/tools/gen_rfw.py.)
-/
import Derived.Test.YtcdbjlmegkcaiaaRfU
namespace Go.Proofs.Ytcdbjlmegkcaiaa
open Go.RowKit Go.Bw
set_option linter.unusedVariables false
set_option linter.unusedSimpArgs false
attribute [local go_sem] run_store_float

/-- what a column's floats come to -/
def bW (hs : List Re) (l : List Int) (M q c i : Nat) : Option Nat := sumA (fun r => aop .mul (fa (D (hV hs i) r)) (ma l q r c)) M
def bX (hs : List Re) (l tl : List Int) (M q k c i : Nat) : Option Nat := sumA (fun x => aop .mul (ma tl k x i) (bW hs l M q c x)) (i + 1)
def bS (hs : List Re) (l tl : List Int) (M q k c r : Nat) : Option Nat := sumA (fun i => aop .mul (fa (D (hV hs i) r)) (bX hs l tl M q k c i)) k
def bF (hs : List Re) (l tl : List Int) (M q k r c : Nat) : Option Nat := aop .sub (ma l q r c) (bS hs l tl M q k c r)
/-- the places that are done -/
def bP (c r a b : Nat) : Bool := decide (b < c ∨ (b = c ∧ a < r))

set_option maxRecDepth 100000 in
set_option maxHeartbeats 8000000 in
theorem sum_b11 {w : World} (p q s u : Nat) (f : Nat → Option Nat) (n : Nat) (hn : n ≤ 9223372036854775807) (HC : Hid (∀ W, Dr w W → ∀ k, k < n → Calls Try.prog 46 #[.int .i64 k, .pointer (some ⟨p, 0, none⟩), .pointer (some ⟨q, 0, none⟩), .pointer (some ⟨s, 0, none⟩), .pointer (some ⟨u, 0, none⟩)] W (FA (f k) W))) :
    Calls Try.prog 41 #[.int .i64 n, .func (.func 46) #[] #[.pointer (some ⟨p, 0, none⟩), .pointer (some ⟨q, 0, none⟩), .pointer (some ⟨s, 0, none⟩), .pointer (some ⟨u, 0, none⟩)]] w (FA (sumA f n) w) := by
  have b0 : (0 : Nat) ≤ 18446744073709551615 := by omega
  go_enter Try.func41, Try.ntmps41
  go_wp2_with fail
  go_loopw [5, 8] (fun acc i wr => ∃ (k r : Nat), k ≤ n ∧ i = .int .i64 k ∧ acc = .float .f64 r ∧ Hid (af r = sumA f k) ∧ r ≤ 18446744073709551615 ∧ Dr w wr) (fun _ i _ => n - (intOf i).toNat)
  case atStart => exact ⟨0, 0, Nat.zero_le _, rfl, rfl, Lib.hid (by rw [af_zero]; rfl), b0, Dr.refl w⟩
  case round =>
    obtain ⟨k, r, hk, rfl, rfl, HN, br, dr⟩ := hrel
    by_cases hlt : k < n
    · have pc := HC.out wr dr k hlt
      go_wp2_with fail
      with_reducible refine pc.mono ?_
      rintro e w1 ⟨r1, rfl, h1, b1, d1⟩
      have H1 := Lib.hid h1
      clear h1 pc
      obtain ⟨r2, w2, e2, d2, h2, b2⟩ := run_add (P := Try.prog) 24 (x := r) (y := r1) br b1 w1
      have HK : Hid (af r2 = sumA f (k + 1)) := Lib.hid (by rw [h2, HN.out, H1.out]; rfl)
      clear h2 H1 HN
      go_wp2_with fail
      go_roundw
      case rel => exact ⟨k + 1, r2, by omega, by go_num, rfl, HK, b2, (dr.trans d1).trans d2⟩
      case measure => simp [intOf]; omega
    · obtain rfl : k = n := by omega
      go_wp2_with fail
      go_ret
      exact ⟨r, rfl, HN.out, br, dr⟩

set_option maxRecDepth 100000 in
set_option maxHeartbeats 8000000 in
theorem b11_any {w : World} {p q s u i r n c k kc M Q cc : Nat} {A MA : Option Addr} {hs : List Re} {l : List Int} (hL : Rl w A k kc hs) (hlen : ∀ e ∈ hs, e.l.length = M) (h : FL w MA n c l) (hn : n = M * Q) (hp : Blk w p [.slice A k kc]) (hq : Blk w q [.int .i64 i]) (hs9 : Mbx w s M Q MA n c) (hu : Blk w u [.int .i64 cc]) (hi : i < k) (hr : r < M) (hc : cc < Q) :
    Calls Try.prog 46 #[.int .i64 r, .pointer (some ⟨p, 0, none⟩), .pointer (some ⟨q, 0, none⟩), .pointer (some ⟨s, 0, none⟩), .pointer (some ⟨u, 0, none⟩)] w (FA (aop .mul (fa (D (hV hs i) r)) (ma l Q r cc)) w) := by
  obtain ⟨ad, rfl⟩ : ∃ ad, A = some ad := by obtain ⟨e, ad, ea, _, hA, _⟩ := hL.at_ hi; exact ⟨ad, hA⟩
  obtain ⟨e, he, _, _⟩ := hL.get hi
  have hem := hlen e (List.mem_of_getElem? he)
  obtain ⟨ea, hE⟩ : ∃ ea, ad.add (i * 2) = ea := ⟨_, rfl⟩
  obtain ⟨c0, _, hv⟩ := hL.cells hi he hE hem
  rw [hV_at he]
  have hmx := hv.max
  have hnx := h.max
  have hn9 := hL.2.1
  obtain ⟨y, hy⟩ : ∃ y, r * Q = y := ⟨_, rfl⟩
  obtain ⟨z, hz⟩ : ∃ z, y + cc = z := ⟨_, rfl⟩
  have hzn : z < n := by rw [← hz, ← hy, hn]; exact ix_lt hr hc
  have ey : (r : Int) * (Q : Int) = (y : Int) := by exact_mod_cast hy
  have ez : (y : Int) + (cc : Int) = (z : Int) := by omega
  have wy : IntKind.i64.wrap (y : Int) = (y : Int) := IntWalk.i64_in _ (by omega)
  have wz : IntKind.i64.wrap (z : Int) = (z : Int) := IntWalk.i64_in _ (by omega)
  have z0 : (0 : Int) ≤ z := by omega
  have z1 : (z : Int) < n := by omega
  obtain ⟨ad1, hA1, _, hcA⟩ := hv.at_ hr
  obtain ⟨ad2, hA2, _, hcB⟩ := h.at_ hzn
  obtain ⟨x0, x1⟩ := hv.2.2.at_ r
  obtain ⟨y0, y1⟩ := h.2.2.at_ z
  have bX : (D e.l r).toNat ≤ 18446744073709551615 := by omega
  have bY : (D l z).toNat ≤ 18446744073709551615 := by omega
  have hma : ma l Q r cc = af (D l z).toNat := by unfold ma; rw [hy, hz]; rfl
  rw [hma]
  unfold fa
  generalize (D e.l r).toNat = X at *
  generalize (D l z).toNat = Y at *
  rw [hA1] at c0
  subst hA2
  have d0 : Dr w w.drew := ⟨1, rfl⟩
  replace hp := hp.drew
  replace hq := hq.drew
  replace hs9 := hs9.drew
  replace hu := hu.drew
  have p0 := Blk.cell hp 0 rfl
  have q0 := Blk.cell hq 0 rfl
  obtain ⟨s0, s1, s2, _, _, _⟩ := Mbx.cells hs9
  have u0 := Blk.cell hu 0 rfl
  replace c0 : w.drew.cell? ea = some (.slice (some ad1) M e.c) := c0
  replace hcA : w.drew.cell? (ad1.add r) = some (.float .f64 X) := hcA
  replace hcB : w.drew.cell? (ad2.add z) = some (.float .f64 Y) := hcB
  have r0 : (0 : Int) ≤ r := by omega
  have r1 : (r : Int) < M := by omega
  have i0 : (0 : Int) ≤ i := by omega
  have i1 : (i : Int) < k := by omega
  clear hL h hv he hem hlen x0 x1 y0 y1 hp hq hs9 hu hA1 hma hn
  go_enter Try.func46, Try.ntmps46
  go_wp2_with fail
  refine wp_region_held_drew (S := fun w9 : World => w9.cell? ⟨p, 0, none⟩ = some (.slice (some ad) k kc) ∧ w9.cell? ⟨q, 0, none⟩ = some (.int .i64 i) ∧ w9.cell? ⟨s, 1, none⟩ = some (.int .i64 Q) ∧ w9.cell? ⟨s, 2, none⟩ = some (.slice (some ad2) n c) ∧ w9.cell? ⟨u, 0, none⟩ = some (.int .i64 cc) ∧ w9.cell? ea = some (.slice (some ad1) M e.c) ∧ w9.cell? (ad1.add r) = some (.float .f64 X) ∧ w9.cell? (ad2.add z) = some (.float .f64 Y)) (by kernel_rfl) ⟨p0, q0, s1, s2, u0, c0, hcA, hcB⟩ (fun hS => ?_)
  refine wpAnyH_take (i := 0) (v := ?v0_26) rfl (by kernel_rfl) (by kernel_rfl) (by kernel_rfl) (fun _ _ _ h => h) (Or.inl ⟨by rfl, ?hy0_26⟩) (by assumption) ?rest0_26
  case hy0_26 => (intro w9 hSw; obtain ⟨m0, m1, m2, m3, m4, m5, m6, m7⟩ := hSw; go_simp; try with_reducible rfl)
  try simp only [Act.put, List.setIfInBounds_toArray, List.set_cons_zero, List.set_cons_succ, List.getElem_toArray, List.getElem_cons_zero, List.getElem_cons_succ]
  refine wpAnyH_take (i := 1) (v := ?v1_27) rfl (by kernel_rfl) (by kernel_rfl) (by kernel_rfl) (fun _ _ _ h => h) (Or.inl ⟨by rfl, ?hy1_27⟩) (by assumption) ?rest1_27
  case hy1_27 => (intro w9 hSw; obtain ⟨m0, m1, m2, m3, m4, m5, m6, m7⟩ := hSw; go_simp; try with_reducible rfl)
  try simp only [Act.put, List.setIfInBounds_toArray, List.set_cons_zero, List.set_cons_succ, List.getElem_toArray, List.getElem_cons_zero, List.getElem_cons_succ]
  refine wpAnyH_take (i := 2) (v := ?v2_28) rfl (by kernel_rfl) (by kernel_rfl) (by kernel_rfl) (fun _ _ _ h => h) (Or.inl ⟨by rfl, ?hy2_28⟩) (by assumption) ?rest2_28
  case hy2_28 => (intro w9 hSw; clear hSw; go_simp; try with_reducible rfl)
  try simp only [Act.put, List.setIfInBounds_toArray, List.set_cons_zero, List.set_cons_succ, List.getElem_toArray, List.getElem_cons_zero, List.getElem_cons_succ]
  refine wpAnyH_take (i := 3) (v := ?v3_29) rfl (by kernel_rfl) (by kernel_rfl) (by kernel_rfl) (fun _ _ _ h => h) (Or.inl ⟨by rfl, ?hy3_29⟩) (by assumption) ?rest3_29
  case hy3_29 => (intro w9 hSw; clear hSw; go_simp; try with_reducible rfl)
  try simp only [Act.put, List.setIfInBounds_toArray, List.set_cons_zero, List.set_cons_succ, List.getElem_toArray, List.getElem_cons_zero, List.getElem_cons_succ]
  refine wpAnyH_take (i := 4) (v := ?v4_30) rfl (by kernel_rfl) (by kernel_rfl) (by kernel_rfl) (fun _ _ _ h => h) (Or.inl ⟨by rfl, ?hy4_30⟩) (by assumption) ?rest4_30
  case hy4_30 => (intro w9 hSw; obtain ⟨m0, m1, m2, m3, m4, m5, m6, m7⟩ := hSw; go_simp; try with_reducible rfl)
  try simp only [Act.put, List.setIfInBounds_toArray, List.set_cons_zero, List.set_cons_succ, List.getElem_toArray, List.getElem_cons_zero, List.getElem_cons_succ]
  refine wpAnyH_take (i := 5) (v := ?v5_31) rfl (by kernel_rfl) (by kernel_rfl) (by kernel_rfl) (fun _ _ _ h => h) (Or.inl ⟨by rfl, ?hy5_31⟩) (by assumption) ?rest5_31
  case hy5_31 => (intro w9 hSw; clear hSw; go_simp; try with_reducible rfl)
  try simp only [Act.put, List.setIfInBounds_toArray, List.set_cons_zero, List.set_cons_succ, List.getElem_toArray, List.getElem_cons_zero, List.getElem_cons_succ]
  refine wpAnyH_take (i := 6) (v := ?v6_32) rfl (by kernel_rfl) (by kernel_rfl) (by kernel_rfl) (fun _ _ _ h => h) (Or.inl ⟨by rfl, ?hy6_32⟩) (by assumption) ?rest6_32
  case hy6_32 => (intro w9 hSw; clear hSw; go_simp; try with_reducible rfl)
  try simp only [Act.put, List.setIfInBounds_toArray, List.set_cons_zero, List.set_cons_succ, List.getElem_toArray, List.getElem_cons_zero, List.getElem_cons_succ]
  refine wpAnyH_take (i := 7) (v := ?v7_33) rfl (by kernel_rfl) (by kernel_rfl) (by kernel_rfl) (fun _ _ _ h => h) (Or.inl ⟨by rfl, ?hy7_33⟩) (by assumption) ?rest7_33
  case hy7_33 => (intro w9 hSw; obtain ⟨m0, m1, m2, m3, m4, m5, m6, m7⟩ := hSw; go_simp; try with_reducible rfl)
  try simp only [Act.put, List.setIfInBounds_toArray, List.set_cons_zero, List.set_cons_succ, List.getElem_toArray, List.getElem_cons_zero, List.getElem_cons_succ]
  refine wpAnyH_take (i := 8) (v := ?v8_34) rfl (by kernel_rfl) (by kernel_rfl) (by kernel_rfl) (fun _ _ _ h => h) (Or.inl ⟨by rfl, ?hy8_34⟩) (by assumption) ?rest8_34
  case hy8_34 => (intro w9 hSw; clear hSw; go_simp; try with_reducible rfl)
  try simp only [Act.put, List.setIfInBounds_toArray, List.set_cons_zero, List.set_cons_succ, List.getElem_toArray, List.getElem_cons_zero, List.getElem_cons_succ]
  refine wpAnyH_take (i := 9) (v := ?v9_35) rfl (by kernel_rfl) (by kernel_rfl) (by kernel_rfl) (fun _ _ _ h => h) (Or.inl ⟨by rfl, ?hy9_35⟩) (by assumption) ?rest9_35
  case hy9_35 => (intro w9 hSw; obtain ⟨m0, m1, m2, m3, m4, m5, m6, m7⟩ := hSw; go_simp; try with_reducible rfl)
  try simp only [Act.put, List.setIfInBounds_toArray, List.set_cons_zero, List.set_cons_succ, List.getElem_toArray, List.getElem_cons_zero, List.getElem_cons_succ]
  refine wpAnyH_take (i := 10) (v := ?v10_36) rfl (by kernel_rfl) (by kernel_rfl) (by kernel_rfl) (fun _ _ _ h => h) (Or.inl ⟨by rfl, ?hy10_36⟩) (by assumption) ?rest10_36
  case hy10_36 => (intro w9 hSw; clear hSw; go_simp; try with_reducible rfl)
  try simp only [Act.put, List.setIfInBounds_toArray, List.set_cons_zero, List.set_cons_succ, List.getElem_toArray, List.getElem_cons_zero, List.getElem_cons_succ]
  refine wpAnyH_take (i := 11) (v := ?v11_37) rfl (by kernel_rfl) (by kernel_rfl) (by kernel_rfl) (fun _ _ _ h => h) (Or.inl ⟨by rfl, ?hy11_37⟩) (by assumption) ?rest11_37
  case hy11_37 => (intro w9 hSw; clear hSw; go_simp; try with_reducible rfl)
  try simp only [Act.put, List.setIfInBounds_toArray, List.set_cons_zero, List.set_cons_succ, List.getElem_toArray, List.getElem_cons_zero, List.getElem_cons_succ]
  refine wpAnyH_take (i := 12) (v := ?v12_38) rfl (by kernel_rfl) (by kernel_rfl) (by kernel_rfl) (fun _ _ _ h => h) (Or.inl ⟨by rfl, ?hy12_38⟩) (by assumption) ?rest12_38
  case hy12_38 => (intro w9 hSw; obtain ⟨m0, m1, m2, m3, m4, m5, m6, m7⟩ := hSw; go_simp; try with_reducible rfl)
  try simp only [Act.put, List.setIfInBounds_toArray, List.set_cons_zero, List.set_cons_succ, List.getElem_toArray, List.getElem_cons_zero, List.getElem_cons_succ]
  refine wpAnyH_take (i := 13) (v := ?v13_39) rfl (by kernel_rfl) (by kernel_rfl) (by kernel_rfl) (fun _ _ _ h => h) (Or.inl ⟨by rfl, ?hy13_39⟩) (by assumption) ?rest13_39
  case hy13_39 => (intro w9 hSw; clear hSw; go_simp; try with_reducible rfl)
  try simp only [Act.put, List.setIfInBounds_toArray, List.set_cons_zero, List.set_cons_succ, List.getElem_toArray, List.getElem_cons_zero, List.getElem_cons_succ]
  refine wpAnyH_take (i := 14) (v := ?v14_40) rfl (by kernel_rfl) (by kernel_rfl) (by kernel_rfl) (fun _ _ _ h => h) (Or.inl ⟨by rfl, ?hy14_40⟩) (by assumption) ?rest14_40
  case hy14_40 => (intro w9 hSw; obtain ⟨m0, m1, m2, m3, m4, m5, m6, m7⟩ := hSw; go_simp; try with_reducible rfl)
  try simp only [Act.put, List.setIfInBounds_toArray, List.set_cons_zero, List.set_cons_succ, List.getElem_toArray, List.getElem_cons_zero, List.getElem_cons_succ]
  refine wpAnyH_take (i := 15) (v := ?v15_41) rfl (by kernel_rfl) (by kernel_rfl) (by kernel_rfl) (fun _ _ _ h => h) (Or.inl ⟨by rfl, ?hy15_41⟩) (by assumption) ?rest15_41
  case hy15_41 => (intro w9 hSw; clear hSw; go_simp; try with_reducible rfl)
  try simp only [Act.put, List.setIfInBounds_toArray, List.set_cons_zero, List.set_cons_succ, List.getElem_toArray, List.getElem_cons_zero, List.getElem_cons_succ]
  refine wpAnyH_take (i := 16) (v := ?v16_42) rfl (by kernel_rfl) (by kernel_rfl) (by kernel_rfl) (fun _ _ _ h => h) (Or.inl ⟨by rfl, ?hy16_42⟩) (by assumption) ?rest16_42
  case hy16_42 => (intro w9 hSw; clear hSw; go_simp; try with_reducible rfl)
  try simp only [Act.put, List.setIfInBounds_toArray, List.set_cons_zero, List.set_cons_succ, List.getElem_toArray, List.getElem_cons_zero, List.getElem_cons_succ]
  refine wpAnyH_take (i := 17) (v := ?v17_43) rfl (by kernel_rfl) (by kernel_rfl) (by kernel_rfl) (fun _ _ _ h => h) (Or.inl ⟨by rfl, ?hy17_43⟩) (by assumption) ?rest17_43
  case hy17_43 => (intro w9 hSw; obtain ⟨m0, m1, m2, m3, m4, m5, m6, m7⟩ := hSw; go_simp; try with_reducible rfl)
  try simp only [Act.put, List.setIfInBounds_toArray, List.set_cons_zero, List.set_cons_succ, List.getElem_toArray, List.getElem_cons_zero, List.getElem_cons_succ]
  refine wpAnyH_ready (rs := [18]) (by kernel_rfl) (by simp) ?_
  refine AllReadyH.cons rfl (fun K hK => ?_) AllReadyH.nil
  refine step_arith .mul (.inr (.inr (.inl rfl))) rfl _ _ _ _ X Y rfl rfl rfl bX bY ?_
  intro r9 w1 hb1 hr9 br9 dr
  have hS1 := hS
  obtain ⟨t9, ht9⟩ := dr
  subst ht9
  clear hS; refine hK.out _ _ hS1 (fun hS => ?_); clear hK K
  try simp only [Act.put, List.setIfInBounds_toArray, List.set_cons_zero, List.set_cons_succ, List.getElem_toArray, List.getElem_cons_zero, List.getElem_cons_succ]
  refine wpAnyH_take (i := 19) (v := ?v19_44) rfl (by kernel_rfl) (by kernel_rfl) (by kernel_rfl) (fun _ _ _ h => h) (Or.inl ⟨by rfl, ?hy19_44⟩) (by assumption) ?rest19_44
  case hy19_44 => (intro w9 hSw; clear hSw; go_simp; try with_reducible rfl)
  try simp only [Act.put, List.setIfInBounds_toArray, List.set_cons_zero, List.set_cons_succ, List.getElem_toArray, List.getElem_cons_zero, List.getElem_cons_succ]
  refine wpAnyH_done (by kernel_rfl) ?_ _
  go_wp2_with fail
  go_ret
  exact ⟨r9, rfl, hr9, br9, d0.trans ⟨t9, rfl⟩⟩

set_option maxRecDepth 100000 in
set_option maxHeartbeats 8000000 in
theorem b1_any {w : World} {p s u i n c k kc M Q cc : Nat} {A MA : Option Addr} {hs : List Re} {l : List Int} (hL : Rl w A k kc hs) (hlen : ∀ e ∈ hs, e.l.length = M) (h : FL w MA n c l) (hn : n = M * Q) (hM : M ≤ 512) (hp : Blk w p [.slice A k kc]) (hs9 : Mbx w s M Q MA n c) (hu : Blk w u [.int .i64 cc]) (hi : i < k) (hc : cc < Q) :
    Calls Try.prog 45 #[.int .i64 i, .pointer (some ⟨s, 0, none⟩), .pointer (some ⟨p, 0, none⟩), .pointer (some ⟨u, 0, none⟩)] w (FB (bW hs l M Q cc i) w) := by
  have DI := Blk.new w [.int .i64 i] 3
  have bz := (Below.refl _ w).alloc (Nat.le_refl _) (.cells #[.int .i64 i] 3)
  replace hL := hL.on bz
  replace h := h.on bz
  replace hp := hp.on bz
  replace hs9 := hs9.on bz
  replace hu := hu.on bz
  have HC : Hid (∀ W, Dr (w.alloc (.cells #[.int .i64 i] 3)) W → ∀ r, r < M → Calls Try.prog 46 #[.int .i64 r, .pointer (some ⟨p, 0, none⟩), .pointer (some ⟨w.heap.size, 0, none⟩), .pointer (some ⟨s, 0, none⟩), .pointer (some ⟨u, 0, none⟩)] W (FA ((fun r => aop .mul (fa (D (hV hs i) r)) (ma l Q r cc)) r) W)) := Lib.hid (fun W hd r hr => b11_any (hL.on (hd.below _)) hlen (h.on (hd.below _)) hn (hp.on (hd.below _)) (DI.on (hd.below _)) (hs9.on (hd.below _)) (hu.on (hd.below _)) hi hr hc)
  have ps := sum_b11 p w.heap.size s u _ M (by omega) HC
  obtain ⟨s0, s1, s2, _, _, _⟩ := Mbx.cells hs9
  clear hL h hp hs9 hu HC DI hn
  go_enter Try.func45, Try.ntmps45
  go_wp2_with fail
  with_reducible refine ps.mono ?_
  rintro e w1 ⟨r1, rfl, hq, b1, dq⟩
  have H1 := Lib.hid hq
  clear hq ps
  go_wp2_with fail
  go_ret
  exact ⟨r1, rfl, H1.out, b1, bz.trans (dq.below _)⟩

set_option maxRecDepth 100000 in
set_option maxHeartbeats 8000000 in
theorem list_b1 {w : World} (p q s : Nat) (f : Nat → Option Nat) (n : Nat) (hn : n ≤ 4000000) (HC : Hid (∀ W, Below w.heap.size w W → ∀ k, k < n → Calls Try.prog 45 #[.int .i64 k, .pointer (some ⟨p, 0, none⟩), .pointer (some ⟨q, 0, none⟩), .pointer (some ⟨s, 0, none⟩)] W (FB (f k) W))) :
    Calls Try.prog 39 #[.int .i64 n, .func (.func 45) #[] #[.pointer (some ⟨p, 0, none⟩), .pointer (some ⟨q, 0, none⟩), .pointer (some ⟨s, 0, none⟩)]] w (fun e w' => ∃ g L, e = .returned (.slice (some ⟨g, 0, none⟩) n n) ∧ RowF w' g L ∧ w.heap.size ≤ g ∧ Is L n f ∧ Below w.heap.size w w') := by
  have hmk := run_makeF n hn
  have HR := RowF.new w (List.replicate n 0)
  have bz := (Below.refl _ w).alloc (Nat.le_refl _) (.cells (LF (List.replicate n 0)).toArray 24)
  have HI : Hid (Is (List.replicate n (0 : Int)) n (fun j => if j < 0 then f j else some 0)) := Lib.hid ⟨by simp, wd_zeros n, fun k _ => by rw [D_zeros]; exact fa_zero⟩
  go_enter Try.func39, Try.ntmps39
  go_wp2_with fail
  clear hmk
  go_loopw [10, 6] (fun i i2 wr => ∃ (k : Nat) (L : List Int), k ≤ n ∧ i = .int .i64 k ∧ RowF wr w.heap.size L ∧ Hid (Is L n (fun j => if j < k then f j else some 0)) ∧ Below w.heap.size w wr) (fun i _ _ => n - (intOf i).toNat)
  case atStart => exact ⟨0, _, Nat.zero_le _, rfl, HR, HI, bz⟩
  case round =>
    clear HR HI bz
    obtain ⟨k, L, hk, rfl, HR, HI, bz⟩ := hrel
    by_cases hlt : k < n
    · have pc := HC.out wr bz k hlt
      have k0 : (0 : Int) ≤ k := by omega
      have k1 : (k : Int) < n := by omega
      go_wp2_with fail
      with_reducible refine pc.mono ?_
      rintro e w1 ⟨r1, rfl, h1, b1, hb⟩
      have H1 := Lib.hid h1
      clear h1 pc
      replace HR := HR.on hb
      replace bz := bz.trans (hb.mono bz.size)
      clear hb
      obtain ⟨c0, c1⟩ := HR.at_ (k := k) (by rw [HI.out.len]; exact hlt)
      have HR2 : RowF (w1.setCell ⟨w.heap.size, k, none⟩ (.float .f64 r1)) w.heap.size (L.set k r1) := HR.set_ k r1
      have bz2 := bz.setCell (p := ⟨w.heap.size, k, none⟩) (Nat.le_refl _) (.float .f64 r1)
      have HI2 : Hid (Is (L.set k (r1 : Int)) n (fun j => if j < k + 1 then f j else some 0)) := Lib.hid (by
        refine HI.out.set (by omega) (by omega) hlt ?_ (fun i _ hi => ?_)
        · rw [fa_nat, H1.out, if_pos (by omega)]
        · by_cases e1 : i < k
          · rw [if_pos (by omega), if_pos e1]
          · rw [if_neg (by omega), if_neg e1])
      clear HR HI bz
      go_wp2_with fail
      go_roundw
      case rel => exact ⟨k + 1, _, by omega, by go_num, HR2, HI2, bz2⟩
      case measure => simp [intOf]; omega
    · obtain rfl : k = n := by omega
      go_wp2_with fail
      go_ret
      exact ⟨_, L, rfl, HR, Nat.le_refl _, HI.out.congr (fun i hi => if_pos hi), bz⟩

set_option maxRecDepth 100000 in
set_option maxHeartbeats 8000000 in
theorem sum_b21 {w : World} (p q s u : Nat) (f : Nat → Option Nat) (n : Nat) (hn : n ≤ 9223372036854775807) (HC : Hid (∀ W, Dr w W → ∀ k, k < n → Calls Try.prog 48 #[.int .i64 k, .pointer (some ⟨p, 0, none⟩), .pointer (some ⟨q, 0, none⟩), .pointer (some ⟨s, 0, none⟩), .pointer (some ⟨u, 0, none⟩)] W (FA (f k) W))) :
    Calls Try.prog 41 #[.int .i64 n, .func (.func 48) #[] #[.pointer (some ⟨p, 0, none⟩), .pointer (some ⟨q, 0, none⟩), .pointer (some ⟨s, 0, none⟩), .pointer (some ⟨u, 0, none⟩)]] w (FA (sumA f n) w) := by
  have b0 : (0 : Nat) ≤ 18446744073709551615 := by omega
  go_enter Try.func41, Try.ntmps41
  go_wp2_with fail
  go_loopw [5, 8] (fun acc i wr => ∃ (k r : Nat), k ≤ n ∧ i = .int .i64 k ∧ acc = .float .f64 r ∧ Hid (af r = sumA f k) ∧ r ≤ 18446744073709551615 ∧ Dr w wr) (fun _ i _ => n - (intOf i).toNat)
  case atStart => exact ⟨0, 0, Nat.zero_le _, rfl, rfl, Lib.hid (by rw [af_zero]; rfl), b0, Dr.refl w⟩
  case round =>
    obtain ⟨k, r, hk, rfl, rfl, HN, br, dr⟩ := hrel
    by_cases hlt : k < n
    · have pc := HC.out wr dr k hlt
      go_wp2_with fail
      with_reducible refine pc.mono ?_
      rintro e w1 ⟨r1, rfl, h1, b1, d1⟩
      have H1 := Lib.hid h1
      clear h1 pc
      obtain ⟨r2, w2, e2, d2, h2, b2⟩ := run_add (P := Try.prog) 24 (x := r) (y := r1) br b1 w1
      have HK : Hid (af r2 = sumA f (k + 1)) := Lib.hid (by rw [h2, HN.out, H1.out]; rfl)
      clear h2 H1 HN
      go_wp2_with fail
      go_roundw
      case rel => exact ⟨k + 1, r2, by omega, by go_num, rfl, HK, b2, (dr.trans d1).trans d2⟩
      case measure => simp [intOf]; omega
    · obtain rfl : k = n := by omega
      go_wp2_with fail
      go_ret
      exact ⟨r, rfl, HN.out, br, dr⟩

set_option maxRecDepth 100000 in
set_option maxHeartbeats 8000000 in
theorem b21_any {w : World} {p q s u i m n c k wc9 : Nat} {TA WA : Option Addr} {tl wl : List Int} (h : FL w TA n c tl) (hn : n = k * k) (hW : FL w WA k wc9 wl) (hp : Mbx w p k k TA n c) (hq : Blk w q [.int .i64 k]) (hs : Blk w s [.int .i64 i]) (hu : Blk w u [.slice WA k wc9]) (hi : i < k) (hm : m < k) :
    Calls Try.prog 48 #[.int .i64 m, .pointer (some ⟨p, 0, none⟩), .pointer (some ⟨q, 0, none⟩), .pointer (some ⟨s, 0, none⟩), .pointer (some ⟨u, 0, none⟩)] w (FA (aop .mul (ma tl k m i) (fa (D wl m))) w) := by
  have hnx := h.max
  have hwx := hW.max
  obtain ⟨y, hy⟩ : ∃ y, m * k = y := ⟨_, rfl⟩
  obtain ⟨z, hz⟩ : ∃ z, y + i = z := ⟨_, rfl⟩
  have hzn : z < n := by rw [← hz, ← hy, hn]; exact ix_lt hm hi
  have ey : (m : Int) * (k : Int) = (y : Int) := by exact_mod_cast hy
  have ez : (y : Int) + (i : Int) = (z : Int) := by omega
  have wy : IntKind.i64.wrap (y : Int) = (y : Int) := IntWalk.i64_in _ (by omega)
  have wz : IntKind.i64.wrap (z : Int) = (z : Int) := IntWalk.i64_in _ (by omega)
  have z0 : (0 : Int) ≤ z := by omega
  have z1 : (z : Int) < n := by omega
  obtain ⟨ad1, hA1, _, hcA⟩ := h.at_ hzn
  obtain ⟨ad2, hA2, _, hcB⟩ := hW.at_ hm
  obtain ⟨x0, x1⟩ := h.2.2.at_ z
  obtain ⟨y0, y1⟩ := hW.2.2.at_ m
  have bX : (D tl z).toNat ≤ 18446744073709551615 := by omega
  have bY : (D wl m).toNat ≤ 18446744073709551615 := by omega
  have hma : ma tl k m i = af (D tl z).toNat := by unfold ma; rw [hy, hz]; rfl
  rw [hma]
  unfold fa
  generalize (D tl z).toNat = X at *
  generalize (D wl m).toNat = Y at *
  subst hA1
  subst hA2
  have d0 : Dr w w.drew := ⟨1, rfl⟩
  replace hp := hp.drew
  replace hq := hq.drew
  replace hs := hs.drew
  replace hu := hu.drew
  obtain ⟨p0, p1, p2, _, _, _⟩ := Mbx.cells hp
  have q0 := Blk.cell hq 0 rfl
  have s0 := Blk.cell hs 0 rfl
  have u0 := Blk.cell hu 0 rfl
  replace hcA : w.drew.cell? (ad1.add z) = some (.float .f64 X) := hcA
  replace hcB : w.drew.cell? (ad2.add m) = some (.float .f64 Y) := hcB
  have r0 : (0 : Int) ≤ m := by omega
  have r1 : (m : Int) < k := by omega
  clear h hW x0 x1 y0 y1 hp hq hs hu hma hn
  go_enter Try.func48, Try.ntmps48
  go_wp2_with fail
  refine wp_region_held_drew (S := fun w9 : World => w9.cell? ⟨p, 2, none⟩ = some (.slice (some ad1) n c) ∧ w9.cell? ⟨q, 0, none⟩ = some (.int .i64 k) ∧ w9.cell? ⟨s, 0, none⟩ = some (.int .i64 i) ∧ w9.cell? ⟨u, 0, none⟩ = some (.slice (some ad2) k wc9) ∧ w9.cell? (ad1.add z) = some (.float .f64 X) ∧ w9.cell? (ad2.add m) = some (.float .f64 Y)) (by kernel_rfl) ⟨p2, q0, s0, u0, hcA, hcB⟩ (fun hS => ?_)
  refine wpAnyH_take (i := 0) (v := ?v0_45) rfl (by kernel_rfl) (by kernel_rfl) (by kernel_rfl) (fun _ _ _ h => h) (Or.inl ⟨by rfl, ?hy0_45⟩) (by assumption) ?rest0_45
  case hy0_45 => (intro w9 hSw; clear hSw; go_simp; try with_reducible rfl)
  try simp only [Act.put, List.setIfInBounds_toArray, List.set_cons_zero, List.set_cons_succ, List.getElem_toArray, List.getElem_cons_zero, List.getElem_cons_succ]
  refine wpAnyH_take (i := 1) (v := ?v1_46) rfl (by kernel_rfl) (by kernel_rfl) (by kernel_rfl) (fun _ _ _ h => h) (Or.inl ⟨by rfl, ?hy1_46⟩) (by assumption) ?rest1_46
  case hy1_46 => (intro w9 hSw; obtain ⟨m0, m1, m2, m3, m4, m5⟩ := hSw; go_simp; try with_reducible rfl)
  try simp only [Act.put, List.setIfInBounds_toArray, List.set_cons_zero, List.set_cons_succ, List.getElem_toArray, List.getElem_cons_zero, List.getElem_cons_succ]
  refine wpAnyH_take (i := 2) (v := ?v2_47) rfl (by kernel_rfl) (by kernel_rfl) (by kernel_rfl) (fun _ _ _ h => h) (Or.inl ⟨by rfl, ?hy2_47⟩) (by assumption) ?rest2_47
  case hy2_47 => (intro w9 hSw; clear hSw; go_simp; try with_reducible rfl)
  try simp only [Act.put, List.setIfInBounds_toArray, List.set_cons_zero, List.set_cons_succ, List.getElem_toArray, List.getElem_cons_zero, List.getElem_cons_succ]
  refine wpAnyH_take (i := 3) (v := ?v3_48) rfl (by kernel_rfl) (by kernel_rfl) (by kernel_rfl) (fun _ _ _ h => h) (Or.inl ⟨by rfl, ?hy3_48⟩) (by assumption) ?rest3_48
  case hy3_48 => (intro w9 hSw; obtain ⟨m0, m1, m2, m3, m4, m5⟩ := hSw; go_simp; try with_reducible rfl)
  try simp only [Act.put, List.setIfInBounds_toArray, List.set_cons_zero, List.set_cons_succ, List.getElem_toArray, List.getElem_cons_zero, List.getElem_cons_succ]
  refine wpAnyH_take (i := 4) (v := ?v4_49) rfl (by kernel_rfl) (by kernel_rfl) (by kernel_rfl) (fun _ _ _ h => h) (Or.inl ⟨by rfl, ?hy4_49⟩) (by assumption) ?rest4_49
  case hy4_49 => (intro w9 hSw; clear hSw; go_simp; try with_reducible rfl)
  try simp only [Act.put, List.setIfInBounds_toArray, List.set_cons_zero, List.set_cons_succ, List.getElem_toArray, List.getElem_cons_zero, List.getElem_cons_succ]
  refine wpAnyH_take (i := 5) (v := ?v5_50) rfl (by kernel_rfl) (by kernel_rfl) (by kernel_rfl) (fun _ _ _ h => h) (Or.inl ⟨by rfl, ?hy5_50⟩) (by assumption) ?rest5_50
  case hy5_50 => (intro w9 hSw; obtain ⟨m0, m1, m2, m3, m4, m5⟩ := hSw; go_simp; try with_reducible rfl)
  try simp only [Act.put, List.setIfInBounds_toArray, List.set_cons_zero, List.set_cons_succ, List.getElem_toArray, List.getElem_cons_zero, List.getElem_cons_succ]
  refine wpAnyH_take (i := 6) (v := ?v6_51) rfl (by kernel_rfl) (by kernel_rfl) (by kernel_rfl) (fun _ _ _ h => h) (Or.inl ⟨by rfl, ?hy6_51⟩) (by assumption) ?rest6_51
  case hy6_51 => (intro w9 hSw; clear hSw; go_simp; try with_reducible rfl)
  try simp only [Act.put, List.setIfInBounds_toArray, List.set_cons_zero, List.set_cons_succ, List.getElem_toArray, List.getElem_cons_zero, List.getElem_cons_succ]
  refine wpAnyH_take (i := 7) (v := ?v7_52) rfl (by kernel_rfl) (by kernel_rfl) (by kernel_rfl) (fun _ _ _ h => h) (Or.inl ⟨by rfl, ?hy7_52⟩) (by assumption) ?rest7_52
  case hy7_52 => (intro w9 hSw; clear hSw; go_simp; try with_reducible rfl)
  try simp only [Act.put, List.setIfInBounds_toArray, List.set_cons_zero, List.set_cons_succ, List.getElem_toArray, List.getElem_cons_zero, List.getElem_cons_succ]
  refine wpAnyH_take (i := 8) (v := ?v8_53) rfl (by kernel_rfl) (by kernel_rfl) (by kernel_rfl) (fun _ _ _ h => h) (Or.inl ⟨by rfl, ?hy8_53⟩) (by assumption) ?rest8_53
  case hy8_53 => (intro w9 hSw; obtain ⟨m0, m1, m2, m3, m4, m5⟩ := hSw; go_simp; try with_reducible rfl)
  try simp only [Act.put, List.setIfInBounds_toArray, List.set_cons_zero, List.set_cons_succ, List.getElem_toArray, List.getElem_cons_zero, List.getElem_cons_succ]
  refine wpAnyH_take (i := 9) (v := ?v9_54) rfl (by kernel_rfl) (by kernel_rfl) (by kernel_rfl) (fun _ _ _ h => h) (Or.inl ⟨by rfl, ?hy9_54⟩) (by assumption) ?rest9_54
  case hy9_54 => (intro w9 hSw; obtain ⟨m0, m1, m2, m3, m4, m5⟩ := hSw; go_simp; try with_reducible rfl)
  try simp only [Act.put, List.setIfInBounds_toArray, List.set_cons_zero, List.set_cons_succ, List.getElem_toArray, List.getElem_cons_zero, List.getElem_cons_succ]
  refine wpAnyH_take (i := 10) (v := ?v10_55) rfl (by kernel_rfl) (by kernel_rfl) (by kernel_rfl) (fun _ _ _ h => h) (Or.inl ⟨by rfl, ?hy10_55⟩) (by assumption) ?rest10_55
  case hy10_55 => (intro w9 hSw; clear hSw; go_simp; try with_reducible rfl)
  try simp only [Act.put, List.setIfInBounds_toArray, List.set_cons_zero, List.set_cons_succ, List.getElem_toArray, List.getElem_cons_zero, List.getElem_cons_succ]
  refine wpAnyH_take (i := 11) (v := ?v11_56) rfl (by kernel_rfl) (by kernel_rfl) (by kernel_rfl) (fun _ _ _ h => h) (Or.inl ⟨by rfl, ?hy11_56⟩) (by assumption) ?rest11_56
  case hy11_56 => (intro w9 hSw; clear hSw; go_simp; try with_reducible rfl)
  try simp only [Act.put, List.setIfInBounds_toArray, List.set_cons_zero, List.set_cons_succ, List.getElem_toArray, List.getElem_cons_zero, List.getElem_cons_succ]
  refine wpAnyH_take (i := 12) (v := ?v12_57) rfl (by kernel_rfl) (by kernel_rfl) (by kernel_rfl) (fun _ _ _ h => h) (Or.inl ⟨by rfl, ?hy12_57⟩) (by assumption) ?rest12_57
  case hy12_57 => (intro w9 hSw; obtain ⟨m0, m1, m2, m3, m4, m5⟩ := hSw; go_simp; try with_reducible rfl)
  try simp only [Act.put, List.setIfInBounds_toArray, List.set_cons_zero, List.set_cons_succ, List.getElem_toArray, List.getElem_cons_zero, List.getElem_cons_succ]
  refine wpAnyH_ready (rs := [13]) (by kernel_rfl) (by simp) ?_
  refine AllReadyH.cons rfl (fun K hK => ?_) AllReadyH.nil
  refine step_arith .mul (.inr (.inr (.inl rfl))) rfl _ _ _ _ X Y rfl rfl rfl bX bY ?_
  intro r9 w1 hb1 hr9 br9 dr
  have hS1 := hS
  obtain ⟨t9, ht9⟩ := dr
  subst ht9
  clear hS; refine hK.out _ _ hS1 (fun hS => ?_); clear hK K
  try simp only [Act.put, List.setIfInBounds_toArray, List.set_cons_zero, List.set_cons_succ, List.getElem_toArray, List.getElem_cons_zero, List.getElem_cons_succ]
  refine wpAnyH_take (i := 14) (v := ?v14_58) rfl (by kernel_rfl) (by kernel_rfl) (by kernel_rfl) (fun _ _ _ h => h) (Or.inl ⟨by rfl, ?hy14_58⟩) (by assumption) ?rest14_58
  case hy14_58 => (intro w9 hSw; clear hSw; go_simp; try with_reducible rfl)
  try simp only [Act.put, List.setIfInBounds_toArray, List.set_cons_zero, List.set_cons_succ, List.getElem_toArray, List.getElem_cons_zero, List.getElem_cons_succ]
  refine wpAnyH_done (by kernel_rfl) ?_ _
  go_wp2_with fail
  go_ret
  exact ⟨r9, rfl, hr9, br9, d0.trans ⟨t9, rfl⟩⟩

set_option maxRecDepth 100000 in
set_option maxHeartbeats 8000000 in
theorem b2_any {w : World} {p q u i n c k wc9 : Nat} {TA WA : Option Addr} {tl wl : List Int} (h : FL w TA n c tl) (hn : n = k * k) (hk : k ≤ 2000) (hW : FL w WA k wc9 wl) (hp : Mbx w p k k TA n c) (hq : Blk w q [.int .i64 k]) (hu : Blk w u [.slice WA k wc9]) (hi : i < k) :
    Calls Try.prog 47 #[.int .i64 i, .pointer (some ⟨p, 0, none⟩), .pointer (some ⟨q, 0, none⟩), .pointer (some ⟨u, 0, none⟩)] w (FB (sumA (fun m => aop .mul (ma tl k m i) (fa (D wl m))) (i + 1)) w) := by
  have DI := Blk.new w [.int .i64 i] 3
  have bz := (Below.refl _ w).alloc (Nat.le_refl _) (.cells #[.int .i64 i] 3)
  replace h := h.on bz
  replace hW := hW.on bz
  replace hp := hp.on bz
  replace hq := hq.on bz
  replace hu := hu.on bz
  have HC : Hid (∀ W, Dr (w.alloc (.cells #[.int .i64 i] 3)) W → ∀ m, m < i + 1 → Calls Try.prog 48 #[.int .i64 m, .pointer (some ⟨p, 0, none⟩), .pointer (some ⟨q, 0, none⟩), .pointer (some ⟨w.heap.size, 0, none⟩), .pointer (some ⟨u, 0, none⟩)] W (FA ((fun m => aop .mul (ma tl k m i) (fa (D wl m))) m) W)) := Lib.hid (fun W hd m hm => b21_any (h.on (hd.below _)) hn (hW.on (hd.below _)) (hp.on (hd.below _)) (hq.on (hd.below _)) (DI.on (hd.below _)) (hu.on (hd.below _)) hi (by omega))
  obtain ⟨i1, hi1⟩ : ∃ i1, i + 1 = i1 := ⟨_, rfl⟩
  rw [hi1] at HC ⊢
  have ei : (i : Int) + 1 = (i1 : Int) := by omega
  have ps := sum_b21 p q w.heap.size u _ i1 (by omega) HC
  clear h hp hq hu HC DI hn hW
  go_enter Try.func47, Try.ntmps47
  go_wp2_with fail
  with_reducible refine ps.mono ?_
  rintro e w1 ⟨r1, rfl, hq, b1, dq⟩
  have H1 := Lib.hid hq
  clear hq ps
  go_wp2_with fail
  go_ret
  exact ⟨r1, rfl, H1.out, b1, bz.trans (dq.below _)⟩

set_option maxRecDepth 100000 in
set_option maxHeartbeats 8000000 in
theorem list_b2 {w : World} (p q s : Nat) (f : Nat → Option Nat) (n : Nat) (hn : n ≤ 4000000) (HC : Hid (∀ W, Below w.heap.size w W → ∀ k, k < n → Calls Try.prog 47 #[.int .i64 k, .pointer (some ⟨p, 0, none⟩), .pointer (some ⟨q, 0, none⟩), .pointer (some ⟨s, 0, none⟩)] W (FB (f k) W))) :
    Calls Try.prog 39 #[.int .i64 n, .func (.func 47) #[] #[.pointer (some ⟨p, 0, none⟩), .pointer (some ⟨q, 0, none⟩), .pointer (some ⟨s, 0, none⟩)]] w (fun e w' => ∃ g L, e = .returned (.slice (some ⟨g, 0, none⟩) n n) ∧ RowF w' g L ∧ w.heap.size ≤ g ∧ Is L n f ∧ Below w.heap.size w w') := by
  have hmk := run_makeF n hn
  have HR := RowF.new w (List.replicate n 0)
  have bz := (Below.refl _ w).alloc (Nat.le_refl _) (.cells (LF (List.replicate n 0)).toArray 24)
  have HI : Hid (Is (List.replicate n (0 : Int)) n (fun j => if j < 0 then f j else some 0)) := Lib.hid ⟨by simp, wd_zeros n, fun k _ => by rw [D_zeros]; exact fa_zero⟩
  go_enter Try.func39, Try.ntmps39
  go_wp2_with fail
  clear hmk
  go_loopw [10, 6] (fun i i2 wr => ∃ (k : Nat) (L : List Int), k ≤ n ∧ i = .int .i64 k ∧ RowF wr w.heap.size L ∧ Hid (Is L n (fun j => if j < k then f j else some 0)) ∧ Below w.heap.size w wr) (fun i _ _ => n - (intOf i).toNat)
  case atStart => exact ⟨0, _, Nat.zero_le _, rfl, HR, HI, bz⟩
  case round =>
    clear HR HI bz
    obtain ⟨k, L, hk, rfl, HR, HI, bz⟩ := hrel
    by_cases hlt : k < n
    · have pc := HC.out wr bz k hlt
      have k0 : (0 : Int) ≤ k := by omega
      have k1 : (k : Int) < n := by omega
      go_wp2_with fail
      with_reducible refine pc.mono ?_
      rintro e w1 ⟨r1, rfl, h1, b1, hb⟩
      have H1 := Lib.hid h1
      clear h1 pc
      replace HR := HR.on hb
      replace bz := bz.trans (hb.mono bz.size)
      clear hb
      obtain ⟨c0, c1⟩ := HR.at_ (k := k) (by rw [HI.out.len]; exact hlt)
      have HR2 : RowF (w1.setCell ⟨w.heap.size, k, none⟩ (.float .f64 r1)) w.heap.size (L.set k r1) := HR.set_ k r1
      have bz2 := bz.setCell (p := ⟨w.heap.size, k, none⟩) (Nat.le_refl _) (.float .f64 r1)
      have HI2 : Hid (Is (L.set k (r1 : Int)) n (fun j => if j < k + 1 then f j else some 0)) := Lib.hid (by
        refine HI.out.set (by omega) (by omega) hlt ?_ (fun i _ hi => ?_)
        · rw [fa_nat, H1.out, if_pos (by omega)]
        · by_cases e1 : i < k
          · rw [if_pos (by omega), if_pos e1]
          · rw [if_neg (by omega), if_neg e1])
      clear HR HI bz
      go_wp2_with fail
      go_roundw
      case rel => exact ⟨k + 1, _, by omega, by go_num, HR2, HI2, bz2⟩
      case measure => simp [intOf]; omega
    · obtain rfl : k = n := by omega
      go_wp2_with fail
      go_ret
      exact ⟨_, L, rfl, HR, Nat.le_refl _, HI.out.congr (fun i hi => if_pos hi), bz⟩

set_option maxRecDepth 100000 in
set_option maxHeartbeats 8000000 in
theorem sum_b3 {w : World} (p q s : Nat) (f : Nat → Option Nat) (n : Nat) (hn : n ≤ 9223372036854775807) (HC : Hid (∀ W, Dr w W → ∀ k, k < n → Calls Try.prog 49 #[.int .i64 k, .pointer (some ⟨p, 0, none⟩), .pointer (some ⟨q, 0, none⟩), .pointer (some ⟨s, 0, none⟩)] W (FA (f k) W))) :
    Calls Try.prog 41 #[.int .i64 n, .func (.func 49) #[] #[.pointer (some ⟨p, 0, none⟩), .pointer (some ⟨q, 0, none⟩), .pointer (some ⟨s, 0, none⟩)]] w (FA (sumA f n) w) := by
  have b0 : (0 : Nat) ≤ 18446744073709551615 := by omega
  go_enter Try.func41, Try.ntmps41
  go_wp2_with fail
  go_loopw [5, 8] (fun acc i wr => ∃ (k r : Nat), k ≤ n ∧ i = .int .i64 k ∧ acc = .float .f64 r ∧ Hid (af r = sumA f k) ∧ r ≤ 18446744073709551615 ∧ Dr w wr) (fun _ i _ => n - (intOf i).toNat)
  case atStart => exact ⟨0, 0, Nat.zero_le _, rfl, rfl, Lib.hid (by rw [af_zero]; rfl), b0, Dr.refl w⟩
  case round =>
    obtain ⟨k, r, hk, rfl, rfl, HN, br, dr⟩ := hrel
    by_cases hlt : k < n
    · have pc := HC.out wr dr k hlt
      go_wp2_with fail
      with_reducible refine pc.mono ?_
      rintro e w1 ⟨r1, rfl, h1, b1, d1⟩
      have H1 := Lib.hid h1
      clear h1 pc
      obtain ⟨r2, w2, e2, d2, h2, b2⟩ := run_add (P := Try.prog) 24 (x := r) (y := r1) br b1 w1
      have HK : Hid (af r2 = sumA f (k + 1)) := Lib.hid (by rw [h2, HN.out, H1.out]; rfl)
      clear h2 H1 HN
      go_wp2_with fail
      go_roundw
      case rel => exact ⟨k + 1, r2, by omega, by go_num, rfl, HK, b2, (dr.trans d1).trans d2⟩
      case measure => simp [intOf]; omega
    · obtain rfl : k = n := by omega
      go_wp2_with fail
      go_ret
      exact ⟨r, rfl, HN.out, br, dr⟩

set_option maxRecDepth 100000 in
set_option maxHeartbeats 8000000 in
theorem b3_any {w : World} {p q s i r k kc M xc : Nat} {A XA : Option Addr} {hs : List Re} {xl : List Int} (hL : Rl w A k kc hs) (hlen : ∀ e ∈ hs, e.l.length = M) (hX : FL w XA k xc xl) (hp : Blk w p [.slice A k kc]) (hq : Blk w q [.int .i64 r]) (hs9 : Blk w s [.slice XA k xc]) (hi : i < k) (hr : r < M) :
    Calls Try.prog 49 #[.int .i64 i, .pointer (some ⟨p, 0, none⟩), .pointer (some ⟨q, 0, none⟩), .pointer (some ⟨s, 0, none⟩)] w (FA (aop .mul (fa (D (hV hs i) r)) (fa (D xl i))) w) := by
  obtain ⟨ad, rfl⟩ : ∃ ad, A = some ad := by obtain ⟨e, ad, ea, _, hA, _⟩ := hL.at_ hi; exact ⟨ad, hA⟩
  obtain ⟨e, he, _, _⟩ := hL.get hi
  have hem := hlen e (List.mem_of_getElem? he)
  obtain ⟨ea, hE⟩ : ∃ ea, ad.add (i * 2) = ea := ⟨_, rfl⟩
  obtain ⟨c0, _, hv⟩ := hL.cells hi he hE hem
  rw [hV_at he]
  have hmx := hv.max
  have hn9 := hL.2.1
  have hxx := hX.max
  obtain ⟨ad1, hA1, _, hcA⟩ := hv.at_ hr
  obtain ⟨ad2, hA2, _, hcB⟩ := hX.at_ hi
  obtain ⟨x0, x1⟩ := hv.2.2.at_ r
  obtain ⟨y0, y1⟩ := hX.2.2.at_ i
  have bX : (D e.l r).toNat ≤ 18446744073709551615 := by omega
  have bY : (D xl i).toNat ≤ 18446744073709551615 := by omega
  unfold fa
  generalize (D e.l r).toNat = X at *
  generalize (D xl i).toNat = Y at *
  rw [hA1] at c0
  subst hA2
  have d0 : Dr w w.drew := ⟨1, rfl⟩
  replace hp := hp.drew
  replace hq := hq.drew
  replace hs9 := hs9.drew
  have p0 := Blk.cell hp 0 rfl
  have q0 := Blk.cell hq 0 rfl
  have s0 := Blk.cell hs9 0 rfl
  replace c0 : w.drew.cell? ea = some (.slice (some ad1) M e.c) := c0
  replace hcA : w.drew.cell? (ad1.add r) = some (.float .f64 X) := hcA
  replace hcB : w.drew.cell? (ad2.add i) = some (.float .f64 Y) := hcB
  have r0 : (0 : Int) ≤ r := by omega
  have r1 : (r : Int) < M := by omega
  have i0 : (0 : Int) ≤ i := by omega
  have i1 : (i : Int) < k := by omega
  clear hL hX hv he hem hlen x0 x1 y0 y1 hp hq hs9 hA1
  go_enter Try.func49, Try.ntmps49
  go_wp2_with fail
  refine wp_region_held_drew (S := fun w9 : World => w9.cell? ⟨p, 0, none⟩ = some (.slice (some ad) k kc) ∧ w9.cell? ⟨q, 0, none⟩ = some (.int .i64 r) ∧ w9.cell? ⟨s, 0, none⟩ = some (.slice (some ad2) k xc) ∧ w9.cell? ea = some (.slice (some ad1) M e.c) ∧ w9.cell? (ad1.add r) = some (.float .f64 X) ∧ w9.cell? (ad2.add i) = some (.float .f64 Y)) (by kernel_rfl) ⟨p0, q0, s0, c0, hcA, hcB⟩ (fun hS => ?_)
  refine wpAnyH_take (i := 0) (v := ?v0_59) rfl (by kernel_rfl) (by kernel_rfl) (by kernel_rfl) (fun _ _ _ h => h) (Or.inl ⟨by rfl, ?hy0_59⟩) (by assumption) ?rest0_59
  case hy0_59 => (intro w9 hSw; obtain ⟨m0, m1, m2, m3, m4, m5⟩ := hSw; go_simp; try with_reducible rfl)
  try simp only [Act.put, List.setIfInBounds_toArray, List.set_cons_zero, List.set_cons_succ, List.getElem_toArray, List.getElem_cons_zero, List.getElem_cons_succ]
  refine wpAnyH_take (i := 1) (v := ?v1_60) rfl (by kernel_rfl) (by kernel_rfl) (by kernel_rfl) (fun _ _ _ h => h) (Or.inl ⟨by rfl, ?hy1_60⟩) (by assumption) ?rest1_60
  case hy1_60 => (intro w9 hSw; clear hSw; go_simp; try with_reducible rfl)
  try simp only [Act.put, List.setIfInBounds_toArray, List.set_cons_zero, List.set_cons_succ, List.getElem_toArray, List.getElem_cons_zero, List.getElem_cons_succ]
  refine wpAnyH_take (i := 2) (v := ?v2_61) rfl (by kernel_rfl) (by kernel_rfl) (by kernel_rfl) (fun _ _ _ h => h) (Or.inl ⟨by rfl, ?hy2_61⟩) (by assumption) ?rest2_61
  case hy2_61 => (intro w9 hSw; clear hSw; go_simp; try with_reducible rfl)
  try simp only [Act.put, List.setIfInBounds_toArray, List.set_cons_zero, List.set_cons_succ, List.getElem_toArray, List.getElem_cons_zero, List.getElem_cons_succ]
  refine wpAnyH_take (i := 3) (v := ?v3_62) rfl (by kernel_rfl) (by kernel_rfl) (by kernel_rfl) (fun _ _ _ h => h) (Or.inl ⟨by rfl, ?hy3_62⟩) (by assumption) ?rest3_62
  case hy3_62 => (intro w9 hSw; clear hSw; go_simp; try with_reducible rfl)
  try simp only [Act.put, List.setIfInBounds_toArray, List.set_cons_zero, List.set_cons_succ, List.getElem_toArray, List.getElem_cons_zero, List.getElem_cons_succ]
  refine wpAnyH_take (i := 4) (v := ?v4_63) rfl (by kernel_rfl) (by kernel_rfl) (by kernel_rfl) (fun _ _ _ h => h) (Or.inl ⟨by rfl, ?hy4_63⟩) (by assumption) ?rest4_63
  case hy4_63 => (intro w9 hSw; obtain ⟨m0, m1, m2, m3, m4, m5⟩ := hSw; go_simp; try with_reducible rfl)
  try simp only [Act.put, List.setIfInBounds_toArray, List.set_cons_zero, List.set_cons_succ, List.getElem_toArray, List.getElem_cons_zero, List.getElem_cons_succ]
  refine wpAnyH_take (i := 5) (v := ?v5_64) rfl (by kernel_rfl) (by kernel_rfl) (by kernel_rfl) (fun _ _ _ h => h) (Or.inl ⟨by rfl, ?hy5_64⟩) (by assumption) ?rest5_64
  case hy5_64 => (intro w9 hSw; obtain ⟨m0, m1, m2, m3, m4, m5⟩ := hSw; go_simp; try with_reducible rfl)
  try simp only [Act.put, List.setIfInBounds_toArray, List.set_cons_zero, List.set_cons_succ, List.getElem_toArray, List.getElem_cons_zero, List.getElem_cons_succ]
  refine wpAnyH_take (i := 6) (v := ?v6_65) rfl (by kernel_rfl) (by kernel_rfl) (by kernel_rfl) (fun _ _ _ h => h) (Or.inl ⟨by rfl, ?hy6_65⟩) (by assumption) ?rest6_65
  case hy6_65 => (intro w9 hSw; clear hSw; go_simp; try with_reducible rfl)
  try simp only [Act.put, List.setIfInBounds_toArray, List.set_cons_zero, List.set_cons_succ, List.getElem_toArray, List.getElem_cons_zero, List.getElem_cons_succ]
  refine wpAnyH_take (i := 7) (v := ?v7_66) rfl (by kernel_rfl) (by kernel_rfl) (by kernel_rfl) (fun _ _ _ h => h) (Or.inl ⟨by rfl, ?hy7_66⟩) (by assumption) ?rest7_66
  case hy7_66 => (intro w9 hSw; obtain ⟨m0, m1, m2, m3, m4, m5⟩ := hSw; go_simp; try with_reducible rfl)
  try simp only [Act.put, List.setIfInBounds_toArray, List.set_cons_zero, List.set_cons_succ, List.getElem_toArray, List.getElem_cons_zero, List.getElem_cons_succ]
  refine wpAnyH_take (i := 8) (v := ?v8_67) rfl (by kernel_rfl) (by kernel_rfl) (by kernel_rfl) (fun _ _ _ h => h) (Or.inl ⟨by rfl, ?hy8_67⟩) (by assumption) ?rest8_67
  case hy8_67 => (intro w9 hSw; obtain ⟨m0, m1, m2, m3, m4, m5⟩ := hSw; go_simp; try with_reducible rfl)
  try simp only [Act.put, List.setIfInBounds_toArray, List.set_cons_zero, List.set_cons_succ, List.getElem_toArray, List.getElem_cons_zero, List.getElem_cons_succ]
  refine wpAnyH_take (i := 9) (v := ?v9_68) rfl (by kernel_rfl) (by kernel_rfl) (by kernel_rfl) (fun _ _ _ h => h) (Or.inl ⟨by rfl, ?hy9_68⟩) (by assumption) ?rest9_68
  case hy9_68 => (intro w9 hSw; clear hSw; go_simp; try with_reducible rfl)
  try simp only [Act.put, List.setIfInBounds_toArray, List.set_cons_zero, List.set_cons_succ, List.getElem_toArray, List.getElem_cons_zero, List.getElem_cons_succ]
  refine wpAnyH_take (i := 10) (v := ?v10_69) rfl (by kernel_rfl) (by kernel_rfl) (by kernel_rfl) (fun _ _ _ h => h) (Or.inl ⟨by rfl, ?hy10_69⟩) (by assumption) ?rest10_69
  case hy10_69 => (intro w9 hSw; clear hSw; go_simp; try with_reducible rfl)
  try simp only [Act.put, List.setIfInBounds_toArray, List.set_cons_zero, List.set_cons_succ, List.getElem_toArray, List.getElem_cons_zero, List.getElem_cons_succ]
  refine wpAnyH_take (i := 11) (v := ?v11_70) rfl (by kernel_rfl) (by kernel_rfl) (by kernel_rfl) (fun _ _ _ h => h) (Or.inl ⟨by rfl, ?hy11_70⟩) (by assumption) ?rest11_70
  case hy11_70 => (intro w9 hSw; obtain ⟨m0, m1, m2, m3, m4, m5⟩ := hSw; go_simp; try with_reducible rfl)
  try simp only [Act.put, List.setIfInBounds_toArray, List.set_cons_zero, List.set_cons_succ, List.getElem_toArray, List.getElem_cons_zero, List.getElem_cons_succ]
  refine wpAnyH_ready (rs := [12]) (by kernel_rfl) (by simp) ?_
  refine AllReadyH.cons rfl (fun K hK => ?_) AllReadyH.nil
  refine step_arith .mul (.inr (.inr (.inl rfl))) rfl _ _ _ _ X Y rfl rfl rfl bX bY ?_
  intro r9 w1 hb1 hr9 br9 dr
  have hS1 := hS
  obtain ⟨t9, ht9⟩ := dr
  subst ht9
  clear hS; refine hK.out _ _ hS1 (fun hS => ?_); clear hK K
  try simp only [Act.put, List.setIfInBounds_toArray, List.set_cons_zero, List.set_cons_succ, List.getElem_toArray, List.getElem_cons_zero, List.getElem_cons_succ]
  refine wpAnyH_take (i := 13) (v := ?v13_71) rfl (by kernel_rfl) (by kernel_rfl) (by kernel_rfl) (fun _ _ _ h => h) (Or.inl ⟨by rfl, ?hy13_71⟩) (by assumption) ?rest13_71
  case hy13_71 => (intro w9 hSw; clear hSw; go_simp; try with_reducible rfl)
  try simp only [Act.put, List.setIfInBounds_toArray, List.set_cons_zero, List.set_cons_succ, List.getElem_toArray, List.getElem_cons_zero, List.getElem_cons_succ]
  refine wpAnyH_done (by kernel_rfl) ?_ _
  go_wp2_with fail
  go_ret
  exact ⟨r9, rfl, hr9, br9, d0.trans ⟨t9, rfl⟩⟩
end Go.Proofs.Ytcdbjlmegkcaiaa
