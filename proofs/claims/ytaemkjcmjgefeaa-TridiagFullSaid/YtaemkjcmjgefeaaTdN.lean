/-
  Layer 10, walks: lists and sums, by the program. (Written by wip/tools/gen_tdn.py.)
-/
import Derived.Test.YtaemkjcmjgefeaaTdL
import Derived.Test.YtaemkjcmjgefeaaTdF
import Derived.Test.YtaemkjcmjgefeaaQRfI
namespace Go.Proofs.Ytaemkjcmjgefeaa
open Go.RowKit Go.Bw
set_option linter.unusedVariables false
set_option linter.unusedSimpArgs false
attribute [local go_sem] run_store_float
/-- a list of n floats in new memory -/
def LsP (w : World) (n : Nat) (f : Nat → Option Nat) (e : Ending) (w' : World) : Prop := ∃ g L, e = .returned (.slice (some ⟨g, 0, none⟩) n n) ∧ RowF w' g L ∧ w.heap.size ≤ g ∧ Is L n f ∧ Below w.heap.size w w'

set_option maxRecDepth 100000 in
set_option maxHeartbeats 8000000 in
theorem sum_dot {w : World} (p q : Nat) (f : Nat → Option Nat) (n : Nat) (hn : n ≤ 9223372036854775807) (HC : Hid (∀ W, Dr w W → ∀ k, k < n → Calls Try.prog 65 #[.int .i64 k, .pointer (some ⟨p, 0, none⟩), .pointer (some ⟨q, 0, none⟩)] W (FA (f k) W))) :
    Calls Try.prog 64 #[.int .i64 n, .func (.func 65) #[] #[.pointer (some ⟨p, 0, none⟩), .pointer (some ⟨q, 0, none⟩)]] w (FA (sumA f n) w) := by
  have b0 : (0 : Nat) ≤ 18446744073709551615 := by omega
  go_enter Try.func64, Try.ntmps64
  go_wp2_with fail
  go_loopw [5, 8] (fun acc i wr => ∃ (k r : Nat), k ≤ n ∧ i = .int .i64 k ∧ acc = .float .f64 r ∧ Hid (af r = sumA f k) ∧ r ≤ 18446744073709551615 ∧ Dr w wr) (fun _ i _ => n - (intOf i).toNat)
  case atStart => exact ⟨0, 0, Nat.zero_le _, rfl, rfl, Lib.hid (by rw [af_zero]; rfl), b0, Dr.refl w⟩
  case round =>
    obtain ⟨k, r, hk, rfl, rfl, HN, br, dr⟩ := hrel
    by_cases hlt : k < n
    · have pc := HC.out wr dr k hlt
      go_wp2_with fail
      with_reducible refine pc.mono ?_
      rintro e w1 ⟨r1, rfl, h1, b1, d1⟩
      have H1 := Lib.hid h1
      clear h1 pc
      obtain ⟨r2, w2, e2, d2, h2, b2⟩ := run_add (P := Try.prog) 39 (x := r) (y := r1) br b1 w1
      have HK : Hid (af r2 = sumA f (k + 1)) := Lib.hid (by rw [h2, HN.out, H1.out]; rfl)
      clear h2 H1 HN
      go_wp2_with fail
      go_roundw
      case rel => exact ⟨k + 1, r2, by omega, by go_num, rfl, HK, b2, (dr.trans d1).trans d2⟩
      case measure => simp [intOf]; omega
    · obtain rfl : k = n := by omega
      go_wp2_with fail
      go_ret
      exact ⟨r, rfl, HN.out, br, dr⟩

set_option maxRecDepth 100000 in
set_option maxHeartbeats 8000000 in
theorem dot1_any {w : World} {p q k n c m vc : Nat} {A VA : Option Addr} {x y : List Int} (h : FL w A n c x) (hv : FL w VA m vc y) (hp : Blk w p [.slice A n c]) (hq : Blk w q [.slice VA m vc]) (hk : k < n) (hk2 : k < m) :
    Calls Try.prog 65 #[.int .i64 k, .pointer (some ⟨p, 0, none⟩), .pointer (some ⟨q, 0, none⟩)] w (FA (aop .mul (fa (D x k)) (fa (D y k))) w) := by
  have hmx := h.max
  have hmy := hv.max
  obtain ⟨ad1, rfl, _, hcA⟩ := h.at_ hk
  obtain ⟨ad2, rfl, _, hcB⟩ := hv.at_ hk2
  obtain ⟨x0, x1⟩ := h.2.2.at_ k
  obtain ⟨y0, y1⟩ := hv.2.2.at_ k
  unfold fa
  have bX : (D x k).toNat ≤ 18446744073709551615 := by omega
  have bY : (D y k).toNat ≤ 18446744073709551615 := by omega
  generalize (D x k).toNat = X at *
  generalize (D y k).toNat = Y at *
  have d0 : Dr w w.drew := ⟨1, rfl⟩
  replace hp := hp.drew
  replace hq := hq.drew
  have p0 := Blk.cell hp 0 rfl
  have q0 := Blk.cell hq 0 rfl
  replace hcA : w.drew.cell? (ad1.add k) = some (.float .f64 X) := hcA
  replace hcB : w.drew.cell? (ad2.add k) = some (.float .f64 Y) := hcB
  have k0 : (0 : Int) ≤ k := by omega
  have k1 : (k : Int) < n := by omega
  have k2 : (k : Int) < m := by omega
  clear h hv x0 x1 y0 y1 hp hq
  go_enter Try.func65, Try.ntmps65
  go_wp2_with fail
  refine wp_region_held_drew (S := fun w9 : World => w9.cell? ⟨p, 0, none⟩ = some (.slice (some ad1) n c) ∧ w9.cell? ⟨q, 0, none⟩ = some (.slice (some ad2) m vc) ∧ w9.cell? (ad1.add k) = some (.float .f64 X) ∧ w9.cell? (ad2.add k) = some (.float .f64 Y)) (by kernel_rfl) ⟨p0, q0, hcA, hcB⟩ (fun hS => ?_)
  refine wpAnyH_take (i := 0) (v := ?v0_1) rfl (by kernel_rfl) (by kernel_rfl) (by kernel_rfl) (fun _ _ _ h => h) (Or.inl ⟨by rfl, ?hy0_1⟩) (by assumption) ?rest0_1
  case hy0_1 => (intro w9 hSw; obtain ⟨m0, m1, m2, m3⟩ := hSw; go_simp; try with_reducible rfl)
  try simp only [Act.put, List.setIfInBounds_toArray, List.set_cons_zero, List.set_cons_succ, List.getElem_toArray, List.getElem_cons_zero, List.getElem_cons_succ]
  refine wpAnyH_take (i := 1) (v := ?v1_2) rfl (by kernel_rfl) (by kernel_rfl) (by kernel_rfl) (fun _ _ _ h => h) (Or.inl ⟨by rfl, ?hy1_2⟩) (by assumption) ?rest1_2
  case hy1_2 => (intro w9 hSw; clear hSw; go_simp; try with_reducible rfl)
  try simp only [Act.put, List.setIfInBounds_toArray, List.set_cons_zero, List.set_cons_succ, List.getElem_toArray, List.getElem_cons_zero, List.getElem_cons_succ]
  refine wpAnyH_take (i := 2) (v := ?v2_3) rfl (by kernel_rfl) (by kernel_rfl) (by kernel_rfl) (fun _ _ _ h => h) (Or.inl ⟨by rfl, ?hy2_3⟩) (by assumption) ?rest2_3
  case hy2_3 => (intro w9 hSw; clear hSw; go_simp; try with_reducible rfl)
  try simp only [Act.put, List.setIfInBounds_toArray, List.set_cons_zero, List.set_cons_succ, List.getElem_toArray, List.getElem_cons_zero, List.getElem_cons_succ]
  refine wpAnyH_take (i := 3) (v := ?v3_4) rfl (by kernel_rfl) (by kernel_rfl) (by kernel_rfl) (fun _ _ _ h => h) (Or.inl ⟨by rfl, ?hy3_4⟩) (by assumption) ?rest3_4
  case hy3_4 => (intro w9 hSw; obtain ⟨m0, m1, m2, m3⟩ := hSw; go_simp; try with_reducible rfl)
  try simp only [Act.put, List.setIfInBounds_toArray, List.set_cons_zero, List.set_cons_succ, List.getElem_toArray, List.getElem_cons_zero, List.getElem_cons_succ]
  refine wpAnyH_take (i := 4) (v := ?v4_5) rfl (by kernel_rfl) (by kernel_rfl) (by kernel_rfl) (fun _ _ _ h => h) (Or.inl ⟨by rfl, ?hy4_5⟩) (by assumption) ?rest4_5
  case hy4_5 => (intro w9 hSw; obtain ⟨m0, m1, m2, m3⟩ := hSw; go_simp; try with_reducible rfl)
  try simp only [Act.put, List.setIfInBounds_toArray, List.set_cons_zero, List.set_cons_succ, List.getElem_toArray, List.getElem_cons_zero, List.getElem_cons_succ]
  refine wpAnyH_take (i := 5) (v := ?v5_6) rfl (by kernel_rfl) (by kernel_rfl) (by kernel_rfl) (fun _ _ _ h => h) (Or.inl ⟨by rfl, ?hy5_6⟩) (by assumption) ?rest5_6
  case hy5_6 => (intro w9 hSw; clear hSw; go_simp; try with_reducible rfl)
  try simp only [Act.put, List.setIfInBounds_toArray, List.set_cons_zero, List.set_cons_succ, List.getElem_toArray, List.getElem_cons_zero, List.getElem_cons_succ]
  refine wpAnyH_take (i := 6) (v := ?v6_7) rfl (by kernel_rfl) (by kernel_rfl) (by kernel_rfl) (fun _ _ _ h => h) (Or.inl ⟨by rfl, ?hy6_7⟩) (by assumption) ?rest6_7
  case hy6_7 => (intro w9 hSw; clear hSw; go_simp; try with_reducible rfl)
  try simp only [Act.put, List.setIfInBounds_toArray, List.set_cons_zero, List.set_cons_succ, List.getElem_toArray, List.getElem_cons_zero, List.getElem_cons_succ]
  refine wpAnyH_take (i := 7) (v := ?v7_8) rfl (by kernel_rfl) (by kernel_rfl) (by kernel_rfl) (fun _ _ _ h => h) (Or.inl ⟨by rfl, ?hy7_8⟩) (by assumption) ?rest7_8
  case hy7_8 => (intro w9 hSw; obtain ⟨m0, m1, m2, m3⟩ := hSw; go_simp; try with_reducible rfl)
  try simp only [Act.put, List.setIfInBounds_toArray, List.set_cons_zero, List.set_cons_succ, List.getElem_toArray, List.getElem_cons_zero, List.getElem_cons_succ]
  refine wpAnyH_ready (rs := [8]) (by kernel_rfl) (by simp) ?_
  refine AllReadyH.cons rfl (fun K hK => ?_) AllReadyH.nil
  refine step_arith .mul (.inr (.inr (.inl rfl))) rfl _ _ _ _ X Y rfl rfl rfl bX bY ?_
  intro r9 w1 hb1 hr9 br9 dr
  have hS1 := hS
  obtain ⟨t9, ht9⟩ := dr
  subst ht9
  clear hS; refine hK.out _ _ hS1 (fun hS => ?_); clear hK K
  try simp only [Act.put, List.setIfInBounds_toArray, List.set_cons_zero, List.set_cons_succ, List.getElem_toArray, List.getElem_cons_zero, List.getElem_cons_succ]
  refine wpAnyH_take (i := 9) (v := ?v9_9) rfl (by kernel_rfl) (by kernel_rfl) (by kernel_rfl) (fun _ _ _ h => h) (Or.inl ⟨by rfl, ?hy9_9⟩) (by assumption) ?rest9_9
  case hy9_9 => (intro w9 hSw; clear hSw; go_simp; try with_reducible rfl)
  try simp only [Act.put, List.setIfInBounds_toArray, List.set_cons_zero, List.set_cons_succ, List.getElem_toArray, List.getElem_cons_zero, List.getElem_cons_succ]
  refine wpAnyH_done (by kernel_rfl) ?_ _
  go_wp2_with fail
  go_ret
  exact ⟨r9, rfl, hr9, br9, d0.trans ⟨t9, rfl⟩⟩

set_option maxRecDepth 100000 in
set_option maxHeartbeats 8000000 in
theorem dot_any {w : World} {n c m vc : Nat} {A VA : Option Addr} {x y : List Int} (h : FL w A n c x) (hv : FL w VA m vc y) (hnm : n ≤ m) :
    Calls Try.prog 46 #[.slice A n c, .slice VA m vc] w (FB (sumA (fun k => aop .mul (fa (D x k)) (fa (D y k))) n) w) := by
  have hmx := h.max
  have D1 := (Blk.new w [.slice A n c] 22).alloc (.cells #[.slice VA m vc] 22)
  have D2 := Blk.new (w.alloc (.cells #[.slice A n c] 22)) [.slice VA m vc] 22
  rw [World.size_alloc] at D2
  have bz := ((Below.refl _ w).alloc (Nat.le_refl _) (.cells #[.slice A n c] 22)).alloc (by simp) (.cells #[.slice VA m vc] 22)
  replace h := h.on bz
  replace hv := hv.on bz
  have HC : Hid (∀ W, Dr ((w.alloc (.cells #[.slice A n c] 22)).alloc (.cells #[.slice VA m vc] 22)) W → ∀ k, k < n → Calls Try.prog 65 #[.int .i64 k, .pointer (some ⟨w.heap.size, 0, none⟩), .pointer (some ⟨w.heap.size + 1, 0, none⟩)] W (FA ((fun k => aop .mul (fa (D x k)) (fa (D y k))) k) W)) := Lib.hid (fun W hd k hk => dot1_any (h.on (hd.below _)) (hv.on (hd.below _)) (D1.on (hd.below _)) (D2.on (hd.below _)) hk (by omega))
  have ps := sum_dot w.heap.size (w.heap.size + 1) _ n hmx HC
  have u1 := Blk.cell D1 0 rfl
  clear h hv HC D1 D2
  go_enter Try.func46, Try.ntmps46
  go_wp2_with fail
  with_reducible refine ps.mono ?_
  rintro e w1 ⟨r1, rfl, hq, b1, dq⟩
  have H1 := Lib.hid hq
  clear hq ps
  go_wp2_with fail
  go_ret
  exact ⟨r1, rfl, H1.out, b1, bz.trans ((dq.below _).mono bz.size)⟩

set_option maxRecDepth 100000 in
set_option maxHeartbeats 8000000 in
theorem list_below {w : World} (p q s : Nat) (f : Nat → Option Nat) (n : Nat) (hn : n ≤ 4000000) (HC : Hid (∀ W, Below w.heap.size w W → ∀ k, k < n → Calls Try.prog 43 #[.int .i64 k, .pointer (some ⟨p, 0, none⟩), .pointer (some ⟨q, 0, none⟩), .pointer (some ⟨s, 0, none⟩)] W (FB (f k) W))) :
    Calls Try.prog 27 #[.int .i64 n, .func (.func 43) #[] #[.pointer (some ⟨p, 0, none⟩), .pointer (some ⟨q, 0, none⟩), .pointer (some ⟨s, 0, none⟩)]] w (fun e w' => ∃ g L, e = .returned (.slice (some ⟨g, 0, none⟩) n n) ∧ RowF w' g L ∧ w.heap.size ≤ g ∧ Is L n f ∧ Below w.heap.size w w') := by
  have hmk := run_makeF n hn
  have HR := RowF.new w (List.replicate n 0)
  have bz := (Below.refl _ w).alloc (Nat.le_refl _) (.cells (LF (List.replicate n 0)).toArray 39)
  have HI : Hid (Is (List.replicate n (0 : Int)) n (fun j => if j < 0 then f j else some 0)) := Lib.hid ⟨by simp, wd_zeros n, fun k _ => by rw [D_zeros]; exact fa_zero⟩
  go_enter Try.func27, Try.ntmps27
  go_wp2_with fail
  clear hmk
  go_loopw [10, 6] (fun i i2 wr => ∃ (k : Nat) (L : List Int), k ≤ n ∧ i = .int .i64 k ∧ RowF wr w.heap.size L ∧ Hid (Is L n (fun j => if j < k then f j else some 0)) ∧ Below w.heap.size w wr) (fun i _ _ => n - (intOf i).toNat)
  case atStart => exact ⟨0, _, Nat.zero_le _, rfl, HR, HI, bz⟩
  case round =>
    clear HR HI bz
    obtain ⟨k, L, hk, rfl, HR, HI, bz⟩ := hrel
    by_cases hlt : k < n
    · have pc := HC.out wr bz k hlt
      have k0 : (0 : Int) ≤ k := by omega
      have k1 : (k : Int) < n := by omega
      go_wp2_with fail
      with_reducible refine pc.mono ?_
      rintro e w1 ⟨r1, rfl, h1, b1, hb⟩
      have H1 := Lib.hid h1
      clear h1 pc
      replace HR := HR.on hb
      replace bz := bz.trans (hb.mono bz.size)
      clear hb
      obtain ⟨c0, c1⟩ := HR.at_ (k := k) (by rw [HI.out.len]; exact hlt)
      have HR2 : RowF (w1.setCell ⟨w.heap.size, k, none⟩ (.float .f64 r1)) w.heap.size (L.set k r1) := HR.set_ k r1
      have bz2 := bz.setCell (p := ⟨w.heap.size, k, none⟩) (Nat.le_refl _) (.float .f64 r1)
      have HI2 : Hid (Is (L.set k (r1 : Int)) n (fun j => if j < k + 1 then f j else some 0)) := Lib.hid (by
        refine HI.out.set (by omega) (by omega) hlt ?_ (fun i _ hi => ?_)
        · rw [fa_nat, H1.out, if_pos (by omega)]
        · by_cases e1 : i < k
          · rw [if_pos (by omega), if_pos e1]
          · rw [if_neg (by omega), if_neg e1])
      clear HR HI bz
      go_wp2_with fail
      go_roundw
      case rel => exact ⟨k + 1, _, by omega, by go_num, HR2, HI2, bz2⟩
      case measure => simp [intOf]; omega
    · obtain rfl : k = n := by omega
      go_wp2_with fail
      go_ret
      exact ⟨_, L, rfl, HR, Nat.le_refl _, HI.out.congr (fun i hi => if_pos hi), bz⟩

set_option maxRecDepth 100000 in
set_option maxHeartbeats 8000000 in
theorem below1_any {w : World} {p q s g i k n N : Nat} {L : List Int} (HR : RowF w g L) (hw : Wd L) (hl : L.length = N) (hN : N = n * n) (hn : n ≤ 512) (hp : Blk w p [.slice (some ⟨g, 0, none⟩) N N]) (hq : Blk w q [.int .i64 k]) (hs : Blk w s [.int .i64 n]) (hi : i < n - 1 - k) :
    Calls Try.prog 43 #[.int .i64 i, .pointer (some ⟨p, 0, none⟩), .pointer (some ⟨q, 0, none⟩), .pointer (some ⟨s, 0, none⟩)] w (FB (fa (D L ((k + 1 + i) * n + k))) w) := by
  have n4 : N ≤ 262144 := by rw [hN]; exact Nat.le_trans (Nat.mul_le_mul hn hn) (by decide)
  obtain ⟨x, hx⟩ : ∃ x, k + 1 + i = x := ⟨_, rfl⟩
  obtain ⟨ya, hya⟩ : ∃ y, x * n = y := ⟨_, rfl⟩
  obtain ⟨za, hza⟩ : ∃ z, ya + k = z := ⟨_, rfl⟩
  have hNa : za < N := by rw [← hza, ← hya, hN]; exact ix_lt (by omega) (by omega)
  have HZa : x * n + k = za := by rw [← hza, ← hya]
  have eya : (x : Int) * (n : Int) = (ya : Int) := by exact_mod_cast hya
  have eza : (ya : Int) + (k : Int) = (za : Int) := by omega
  have wya : IntKind.i64.wrap (ya : Int) = (ya : Int) := IntWalk.i64_in _ (by omega)
  have wza : IntKind.i64.wrap (za : Int) = (za : Int) := IntWalk.i64_in _ (by omega)
  have z0a : (0 : Int) ≤ za := by omega
  have z1a : (za : Int) < N := by omega
  clear hya hza
  obtain ⟨hc, _⟩ := HR.at_ (k := za) (by rw [hl]; exact hNa)
  rw [hx, HZa]
  obtain ⟨x0, x1⟩ := hw.at_ za
  have bY : (D L za).toNat ≤ 18446744073709551615 := by omega
  unfold fa
  generalize (D L za).toNat = Y at *
  have p0 := Blk.cell hp 0 rfl
  have q0 := Blk.cell hq 0 rfl
  have s0 := Blk.cell hs 0 rfl
  obtain ⟨k2, hk2⟩ : ∃ z, k + 1 = z := ⟨_, rfl⟩
  have e1 : (k : Int) + 1 = (k2 : Int) := by omega
  have w1 : IntKind.i64.wrap (k2 : Int) = (k2 : Int) := IntWalk.i64_in _ (by omega)
  have e2 : (k2 : Int) + (i : Int) = (x : Int) := by omega
  have w2 : IntKind.i64.wrap (x : Int) = (x : Int) := IntWalk.i64_in _ (by omega)
  clear HR hw hp hq hs hN x0 x1 HZa hx hk2 hl
  go_enter Try.func43, Try.ntmps43
  go_wp2_with fail
  go_ret
  exact ⟨Y, rfl, rfl, bY, Below.refl _ _⟩

set_option maxRecDepth 100000 in
set_option maxHeartbeats 8000000 in
theorem below_any {w : World} {g k n N : Nat} {L : List Int} (HR : RowF w g L) (hw : Wd L) (hl : L.length = N) (hN : N = n * n) (hn : n ≤ 512) (hk : k < n) :
    Calls Try.prog 25 #[.slice (some ⟨g, 0, none⟩) N N, .int .i64 n, .int .i64 k] w (LsP w (n - 1 - k) (fun i => fa (D L ((k + 1 + i) * n + k))) ) := by
  have D1 := ((Blk.new w [.slice (some ⟨g, 0, none⟩) N N] 22).alloc (.cells #[.int .i64 n] 3)).alloc (.cells #[.int .i64 k] 3)
  have D2 := (Blk.new (w.alloc (.cells #[.slice (some ⟨g, 0, none⟩) N N] 22)) [.int .i64 n] 3).alloc (.cells #[.int .i64 k] 3)
  have D3 := Blk.new ((w.alloc (.cells #[.slice (some ⟨g, 0, none⟩) N N] 22)).alloc (.cells #[.int .i64 n] 3)) [.int .i64 k] 3
  simp only [World.size_alloc] at D2 D3
  have bz := (((Below.refl _ w).alloc (Nat.le_refl _) (.cells #[.slice (some ⟨g, 0, none⟩) N N] 22)).alloc (by simp) (.cells #[.int .i64 n] 3)).alloc (by simp; omega) (.cells #[.int .i64 k] 3)
  replace HR := HR.on bz
  have HC : Hid (∀ W, Below (((w.alloc (.cells #[.slice (some ⟨g, 0, none⟩) N N] 22)).alloc (.cells #[.int .i64 n] 3)).alloc (.cells #[.int .i64 k] 3)).heap.size (((w.alloc (.cells #[.slice (some ⟨g, 0, none⟩) N N] 22)).alloc (.cells #[.int .i64 n] 3)).alloc (.cells #[.int .i64 k] 3)) W → ∀ i, i < n - 1 - k → Calls Try.prog 43 #[.int .i64 i, .pointer (some ⟨w.heap.size, 0, none⟩), .pointer (some ⟨w.heap.size + 1 + 1, 0, none⟩), .pointer (some ⟨w.heap.size + 1, 0, none⟩)] W (FB ((fun i => fa (D L ((k + 1 + i) * n + k))) i) W)) := Lib.hid (fun W hd i hi => below1_any (HR.on hd) hw hl hN hn (D1.on hd) (D3.on hd) (D2.on hd) hi)
  have ps := list_below w.heap.size (w.heap.size + 1 + 1) (w.heap.size + 1) _ (n - 1 - k) (by omega) HC
  have hs3 : (((w.alloc (.cells #[.slice (some ⟨g, 0, none⟩) N N] 22)).alloc (.cells #[.int .i64 n] 3)).alloc (.cells #[.int .i64 k] 3)).heap.size = w.heap.size + 1 + 1 + 1 := by simp
  have u2 := Blk.cell D2 0 rfl
  have u3 := Blk.cell D3 0 rfl
  obtain ⟨n1, hn1⟩ : ∃ z, n - 1 = z := ⟨_, rfl⟩
  have e1 : (n : Int) - 1 = (n1 : Int) := by omega
  have w1 : IntKind.i64.wrap (n1 : Int) = (n1 : Int) := IntWalk.i64_in _ (by omega)
  rw [hn1] at ps ⊢
  obtain ⟨m, hm⟩ : ∃ z, n1 - k = z := ⟨_, rfl⟩
  have e2 : (n1 : Int) - (k : Int) = (m : Int) := by omega
  have w2 : IntKind.i64.wrap (m : Int) = (m : Int) := IntWalk.i64_in _ (by omega)
  rw [hm] at ps ⊢
  clear HR HC D1 D2 D3 hN hn1 hm
  go_enter Try.func25, Try.ntmps25
  go_wp2_with fail
  with_reducible refine ps.mono ?_
  rintro e w1 ⟨g2, L2, rfl, h1, h2, h3, h4⟩
  have H3 := Lib.hid h3
  clear h3 ps
  go_wp2_with fail
  go_ret
  exact ⟨g2, L2, rfl, h1, by omega, H3.out, bz.trans (h4.mono bz.size)⟩

set_option maxRecDepth 100000 in
set_option maxHeartbeats 8000000 in
theorem list_diag {w : World} (p q : Nat) (f : Nat → Option Nat) (n : Nat) (hn : n ≤ 4000000) (HC : Hid (∀ W, Below w.heap.size w W → ∀ k, k < n → Calls Try.prog 28 #[.int .i64 k, .pointer (some ⟨p, 0, none⟩), .pointer (some ⟨q, 0, none⟩)] W (FB (f k) W))) :
    Calls Try.prog 27 #[.int .i64 n, .func (.func 28) #[] #[.pointer (some ⟨p, 0, none⟩), .pointer (some ⟨q, 0, none⟩)]] w (fun e w' => ∃ g L, e = .returned (.slice (some ⟨g, 0, none⟩) n n) ∧ RowF w' g L ∧ w.heap.size ≤ g ∧ Is L n f ∧ Below w.heap.size w w') := by
  have hmk := run_makeF n hn
  have HR := RowF.new w (List.replicate n 0)
  have bz := (Below.refl _ w).alloc (Nat.le_refl _) (.cells (LF (List.replicate n 0)).toArray 39)
  have HI : Hid (Is (List.replicate n (0 : Int)) n (fun j => if j < 0 then f j else some 0)) := Lib.hid ⟨by simp, wd_zeros n, fun k _ => by rw [D_zeros]; exact fa_zero⟩
  go_enter Try.func27, Try.ntmps27
  go_wp2_with fail
  clear hmk
  go_loopw [10, 6] (fun i i2 wr => ∃ (k : Nat) (L : List Int), k ≤ n ∧ i = .int .i64 k ∧ RowF wr w.heap.size L ∧ Hid (Is L n (fun j => if j < k then f j else some 0)) ∧ Below w.heap.size w wr) (fun i _ _ => n - (intOf i).toNat)
  case atStart => exact ⟨0, _, Nat.zero_le _, rfl, HR, HI, bz⟩
  case round =>
    clear HR HI bz
    obtain ⟨k, L, hk, rfl, HR, HI, bz⟩ := hrel
    by_cases hlt : k < n
    · have pc := HC.out wr bz k hlt
      have k0 : (0 : Int) ≤ k := by omega
      have k1 : (k : Int) < n := by omega
      go_wp2_with fail
      with_reducible refine pc.mono ?_
      rintro e w1 ⟨r1, rfl, h1, b1, hb⟩
      have H1 := Lib.hid h1
      clear h1 pc
      replace HR := HR.on hb
      replace bz := bz.trans (hb.mono bz.size)
      clear hb
      obtain ⟨c0, c1⟩ := HR.at_ (k := k) (by rw [HI.out.len]; exact hlt)
      have HR2 : RowF (w1.setCell ⟨w.heap.size, k, none⟩ (.float .f64 r1)) w.heap.size (L.set k r1) := HR.set_ k r1
      have bz2 := bz.setCell (p := ⟨w.heap.size, k, none⟩) (Nat.le_refl _) (.float .f64 r1)
      have HI2 : Hid (Is (L.set k (r1 : Int)) n (fun j => if j < k + 1 then f j else some 0)) := Lib.hid (by
        refine HI.out.set (by omega) (by omega) hlt ?_ (fun i _ hi => ?_)
        · rw [fa_nat, H1.out, if_pos (by omega)]
        · by_cases e1 : i < k
          · rw [if_pos (by omega), if_pos e1]
          · rw [if_neg (by omega), if_neg e1])
      clear HR HI bz
      go_wp2_with fail
      go_roundw
      case rel => exact ⟨k + 1, _, by omega, by go_num, HR2, HI2, bz2⟩
      case measure => simp [intOf]; omega
    · obtain rfl : k = n := by omega
      go_wp2_with fail
      go_ret
      exact ⟨_, L, rfl, HR, Nat.le_refl _, HI.out.congr (fun i hi => if_pos hi), bz⟩

set_option maxRecDepth 100000 in
set_option maxHeartbeats 8000000 in
theorem diag1_any {w : World} {p q g i n N : Nat} {L : List Int} (HR : RowF w g L) (hw : Wd L) (hl : L.length = N) (hN : N = n * n) (hn : n ≤ 512) (hp : Blk w p [.slice (some ⟨g, 0, none⟩) N N]) (hq : Blk w q [.int .i64 n]) (hi : i < n) :
    Calls Try.prog 28 #[.int .i64 i, .pointer (some ⟨p, 0, none⟩), .pointer (some ⟨q, 0, none⟩)] w (FB (fa (D L (i * n + i))) w) := by
  have n4 : N ≤ 262144 := by rw [hN]; exact Nat.le_trans (Nat.mul_le_mul hn hn) (by decide)
  obtain ⟨ya, hya⟩ : ∃ y, i * n = y := ⟨_, rfl⟩
  obtain ⟨za, hza⟩ : ∃ z, ya + i = z := ⟨_, rfl⟩
  have hNa : za < N := by rw [← hza, ← hya, hN]; exact ix_lt (by omega) (by omega)
  have HZa : i * n + i = za := by rw [← hza, ← hya]
  have eya : (i : Int) * (n : Int) = (ya : Int) := by exact_mod_cast hya
  have eza : (ya : Int) + (i : Int) = (za : Int) := by omega
  have wya : IntKind.i64.wrap (ya : Int) = (ya : Int) := IntWalk.i64_in _ (by omega)
  have wza : IntKind.i64.wrap (za : Int) = (za : Int) := IntWalk.i64_in _ (by omega)
  have z0a : (0 : Int) ≤ za := by omega
  have z1a : (za : Int) < N := by omega
  clear hya hza
  obtain ⟨hc, _⟩ := HR.at_ (k := za) (by rw [hl]; exact hNa)
  rw [HZa]
  obtain ⟨x0, x1⟩ := hw.at_ za
  have bY : (D L za).toNat ≤ 18446744073709551615 := by omega
  unfold fa
  generalize (D L za).toNat = Y at *
  have p0 := Blk.cell hp 0 rfl
  have q0 := Blk.cell hq 0 rfl
  clear HR hw hp hq hN x0 x1 HZa hl
  go_enter Try.func28, Try.ntmps28
  go_wp2_with fail
  go_ret
  exact ⟨Y, rfl, rfl, bY, Below.refl _ _⟩

set_option maxHeartbeats 4000000 in
theorem tcopied_any {A : Option Addr} {n c : Nat} {l : List Int} {w : World} (h : FL w A n c l) (hm : n ≤ 4000000) :
    Calls Try.prog 23 #[.slice A n c] w (fun e w' => e = .returned (.slice (some ⟨w.heap.size, 0, none⟩) n n) ∧ w' = w.alloc (.cells (LF l).toArray 39)) := by
  have hll := h.1
  have hmx := h.max
  have hmk := run_makeF n hm
  have hcp := run_copyF h 3
  go_enter Try.func23, Try.ntmps23
  go_wp2_with fail
  go_ret
  exact ⟨rfl, rfl⟩
end Go.Proofs.Ytaemkjcmjgefeaa
