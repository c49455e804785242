/-
  Layer 9, walks: several reflections' factor, by the program. (Written by wip/tools/gen_rfs.py.)
-/
import Derived.Test.YtcdbjlmegkcaiaaRfI
namespace Go.Proofs.Ytcdbjlmegkcaiaa
open Go.RowKit Go.Bw
set_option linter.unusedVariables false
set_option linter.unusedSimpArgs false
attribute [local go_sem] run_store_float

/-- the i-th one's floats, and tau -/
def hV (hs : List Re) (i : Nat) : List Int := match hs[i]? with | some e => e.l | none => []
def hT (hs : List Re) (i : Nat) : Option Nat := match hs[i]? with | some e => af e.t | none => none
theorem hV_at {hs : List Re} {i : Nat} {e : Re} (h : hs[i]? = some e) : hV hs i = e.l := by unfold hV; rw [h]
theorem hT_at {hs : List Re} {i : Nat} {e : Re} (h : hs[i]? = some e) : hT hs i = af e.t := by unfold hT; rw [h]
/-- the product of two -/
def yA (hs : List Re) (n i j : Nat) : Option Nat := sumA (fun r => aop .mul (fa (D (hV hs i) r)) (fa (D (hV hs j) r))) n
/-- the factor's columns below j -/
def facC (hs : List Re) (n : Nat) : Nat → Nat → Nat → Option Nat
  | 0 => fun _ _ => some 0
  | j + 1 => fun a b => if b = j then (if a = j then hT hs j else if a < j then negA (aop .mul (hT hs j) (sumA (fun x => aop .mul (facC hs n j a (a + x)) (yA hs n (a + x) j)) (j - a))) else some 0) else facC hs n j a b
theorem facC_step (hs : List Re) (n a b d : Nat) : facC hs n (b + 1 + d) a b = facC hs n (b + 1) a b := by
  induction d with
  | zero => rfl
  | succ d ih =>
    rw [← ih]
    show (if b = b + 1 + d then _ else facC hs n (b + 1 + d) a b) = _
    rw [if_neg (by omega)]
theorem facC_is {hs : List Re} {n a b k : Nat} (h : b < k) : facC hs n k a b = facC hs n (b + 1) a b := by
  obtain ⟨d, rfl⟩ := Nat.exists_eq_add_of_le (show b + 1 ≤ k from h)
  exact facC_step hs n a b d
theorem facD {hs : List Re} {n j k : Nat} (h : j < k) : facC hs n k j j = hT hs j := by
  rw [facC_is h]
  show (if j = j then (if j = j then _ else _) else _) = _
  rw [if_pos rfl, if_pos rfl]
theorem facB {hs : List Re} {n a b k : Nat} (h : b < k) (h2 : b < a) : facC hs n k a b = some 0 := by
  rw [facC_is h]
  show (if b = b then (if a = b then _ else if a < b then _ else _) else _) = _
  rw [if_pos rfl, if_neg (by omega), if_neg (by omega)]
theorem facE {hs : List Re} {n i j k : Nat} (h : j < k) (h2 : i < j) : facC hs n k i j = negA (aop .mul (hT hs j) (sumA (fun x => aop .mul (facC hs n k i (i + x)) (yA hs n (i + x) j)) (j - i))) := by
  rw [facC_is h]
  show (if j = j then (if i = j then _ else if i < j then negA (aop .mul (hT hs j) (sumA (fun x => aop .mul (facC hs n j i (i + x)) (yA hs n (i + x) j)) (j - i))) else _) else _) = _
  rw [if_pos rfl, if_neg (by omega), if_pos h2]
  congr 2
  refine sumA_congr (fun x hx => ?_)
  rw [facC_is (k := j) (by omega), facC_is (k := k) (b := i + x) (by omega)]
/-- a place of a list of reflections, its floats read -/
theorem Rl.get {w : World} {A : Option Addr} {n c k : Nat} {hs : List Re} (h : Rl w A n c hs) (hk : k < n) : ∃ e, hs[k]? = some e ∧ FL w e.A e.l.length e.c e.l ∧ e.t ≤ 18446744073709551615 := by
  obtain ⟨e, _, _, he, _, _, _, _, _, h1, h2⟩ := h.at_ hk
  exact ⟨e, he, h1, h2⟩

set_option maxRecDepth 100000 in
set_option maxHeartbeats 8000000 in
theorem sum_fac11 {w : World} (p q s : Nat) (f : Nat → Option Nat) (n : Nat) (hn : n ≤ 9223372036854775807) (HC : Hid (∀ W, Dr w W → ∀ k, k < n → Calls Try.prog 42 #[.int .i64 k, .pointer (some ⟨p, 0, none⟩), .pointer (some ⟨q, 0, none⟩), .pointer (some ⟨s, 0, none⟩)] W (FA (f k) W))) :
    Calls Try.prog 41 #[.int .i64 n, .func (.func 42) #[] #[.pointer (some ⟨p, 0, none⟩), .pointer (some ⟨q, 0, none⟩), .pointer (some ⟨s, 0, none⟩)]] w (FA (sumA f n) w) := by
  have b0 : (0 : Nat) ≤ 18446744073709551615 := by omega
  go_enter Try.func41, Try.ntmps41
  go_wp2_with fail
  go_loopw [5, 8] (fun acc i wr => ∃ (k r : Nat), k ≤ n ∧ i = .int .i64 k ∧ acc = .float .f64 r ∧ Hid (af r = sumA f k) ∧ r ≤ 18446744073709551615 ∧ Dr w wr) (fun _ i _ => n - (intOf i).toNat)
  case atStart => exact ⟨0, 0, Nat.zero_le _, rfl, rfl, Lib.hid (by rw [af_zero]; rfl), b0, Dr.refl w⟩
  case round =>
    obtain ⟨k, r, hk, rfl, rfl, HN, br, dr⟩ := hrel
    by_cases hlt : k < n
    · have pc := HC.out wr dr k hlt
      go_wp2_with fail
      with_reducible refine pc.mono ?_
      rintro e w1 ⟨r1, rfl, h1, b1, d1⟩
      have H1 := Lib.hid h1
      clear h1 pc
      obtain ⟨r2, w2, e2, d2, h2, b2⟩ := run_add (P := Try.prog) 24 (x := r) (y := r1) br b1 w1
      have HK : Hid (af r2 = sumA f (k + 1)) := Lib.hid (by rw [h2, HN.out, H1.out]; rfl)
      clear h2 H1 HN
      go_wp2_with fail
      go_roundw
      case rel => exact ⟨k + 1, r2, by omega, by go_num, rfl, HK, b2, (dr.trans d1).trans d2⟩
      case measure => simp [intOf]; omega
    · obtain rfl : k = n := by omega
      go_wp2_with fail
      go_ret
      exact ⟨r, rfl, HN.out, br, dr⟩

set_option maxRecDepth 100000 in
set_option maxHeartbeats 8000000 in
theorem fac11_any {w : World} {p q s i r n c m vc t : Nat} {A VA : Option Addr} {hs : List Re} {v : List Int} (hL : Rl w A n c hs) (hlen : ∀ e ∈ hs, e.l.length = m) (h : FL w VA m vc v) (hp : Blk w p [.slice A n c]) (hq : Blk w q [.int .i64 i]) (hs9 : Rbx w s VA m vc t) (hi : i < n) (hr : r < m) :
    Calls Try.prog 42 #[.int .i64 r, .pointer (some ⟨p, 0, none⟩), .pointer (some ⟨q, 0, none⟩), .pointer (some ⟨s, 0, none⟩)] w (FA (aop .mul (fa (D (hV hs i) r)) (fa (D v r))) w) := by
  obtain ⟨e, ad, ea, he, rfl, hE, hl, hc0, hc1, hv, bt⟩ := hL.at_ hi
  rw [hV_at he]
  have hll : r < e.l.length := by have := hlen e (List.mem_of_getElem? he); omega
  have hem := hv.max
  have hmx := h.max
  obtain ⟨ad1, hA1, _, hcA⟩ := hv.at_ hll
  obtain ⟨ad2, hA2, _, hcB⟩ := h.at_ hr
  obtain ⟨x0, x1⟩ := hv.2.2.at_ r
  obtain ⟨y0, y1⟩ := h.2.2.at_ r
  have bX : (D e.l r).toNat ≤ 18446744073709551615 := by omega
  have bY : (D v r).toNat ≤ 18446744073709551615 := by omega
  unfold fa
  generalize (D e.l r).toNat = X at *
  generalize (D v r).toNat = Y at *
  have d0 : Dr w w.drew := ⟨1, rfl⟩
  replace hp := hp.drew
  replace hq := hq.drew
  replace hs9 := hs9.drew
  obtain ⟨s0, s1, _, _⟩ := Rbx.cells hs9
  have p0 := Blk.cell hp 0 rfl
  have q0 := Blk.cell hq 0 rfl
  rw [hA1] at hc0
  subst hA2
  replace hc0 : w.drew.cell? ea = some (.slice (some ad1) e.l.length e.c) := hc0
  replace hcA : w.drew.cell? (ad1.add r) = some (.float .f64 X) := hcA
  replace hcB : w.drew.cell? (ad2.add r) = some (.float .f64 Y) := hcB
  have r0 : (0 : Int) ≤ r := by omega
  have r1 : (r : Int) < m := by omega
  have r2 : (r : Int) < e.l.length := by omega
  have i0 : (0 : Int) ≤ i := by omega
  have i1 : (i : Int) < n := by omega
  have hn9 := hL.2.1
  clear hL h hv he hlen x0 x1 y0 y1 hp hq hs9 hA1 hc1 bt
  go_enter Try.func42, Try.ntmps42
  go_wp2_with fail
  refine wp_region_held_drew (S := fun w9 : World => w9.cell? ⟨p, 0, none⟩ = some (.slice (some ad) n c) ∧ w9.cell? ⟨q, 0, none⟩ = some (.int .i64 i) ∧ w9.cell? ⟨s, 0, none⟩ = some (.slice (some ad2) m vc) ∧ w9.cell? ea = some (.slice (some ad1) e.l.length e.c) ∧ w9.cell? (ad1.add r) = some (.float .f64 X) ∧ w9.cell? (ad2.add r) = some (.float .f64 Y)) (by kernel_rfl) ⟨p0, q0, s0, hc0, hcA, hcB⟩ (fun hS => ?_)
  refine wpAnyH_take (i := 0) (v := ?v0_1) rfl (by kernel_rfl) (by kernel_rfl) (by kernel_rfl) (fun _ _ _ h => h) (Or.inl ⟨by rfl, ?hy0_1⟩) (by assumption) ?rest0_1
  case hy0_1 => (intro w9 hSw; obtain ⟨m0, m1, m2, m3, m4, m5⟩ := hSw; go_simp; try with_reducible rfl)
  try simp only [Act.put, List.setIfInBounds_toArray, List.set_cons_zero, List.set_cons_succ, List.getElem_toArray, List.getElem_cons_zero, List.getElem_cons_succ]
  refine wpAnyH_take (i := 1) (v := ?v1_2) rfl (by kernel_rfl) (by kernel_rfl) (by kernel_rfl) (fun _ _ _ h => h) (Or.inl ⟨by rfl, ?hy1_2⟩) (by assumption) ?rest1_2
  case hy1_2 => (intro w9 hSw; obtain ⟨m0, m1, m2, m3, m4, m5⟩ := hSw; go_simp; try with_reducible rfl)
  try simp only [Act.put, List.setIfInBounds_toArray, List.set_cons_zero, List.set_cons_succ, List.getElem_toArray, List.getElem_cons_zero, List.getElem_cons_succ]
  refine wpAnyH_take (i := 2) (v := ?v2_3) rfl (by kernel_rfl) (by kernel_rfl) (by kernel_rfl) (fun _ _ _ h => h) (Or.inl ⟨by rfl, ?hy2_3⟩) (by assumption) ?rest2_3
  case hy2_3 => (intro w9 hSw; clear hSw; go_simp; try with_reducible rfl)
  try simp only [Act.put, List.setIfInBounds_toArray, List.set_cons_zero, List.set_cons_succ, List.getElem_toArray, List.getElem_cons_zero, List.getElem_cons_succ]
  refine wpAnyH_take (i := 3) (v := ?v3_4) rfl (by kernel_rfl) (by kernel_rfl) (by kernel_rfl) (fun _ _ _ h => h) (Or.inl ⟨by rfl, ?hy3_4⟩) (by assumption) ?rest3_4
  case hy3_4 => (intro w9 hSw; clear hSw; go_simp; try with_reducible rfl)
  try simp only [Act.put, List.setIfInBounds_toArray, List.set_cons_zero, List.set_cons_succ, List.getElem_toArray, List.getElem_cons_zero, List.getElem_cons_succ]
  refine wpAnyH_take (i := 4) (v := ?v4_5) rfl (by kernel_rfl) (by kernel_rfl) (by kernel_rfl) (fun _ _ _ h => h) (Or.inl ⟨by rfl, ?hy4_5⟩) (by assumption) ?rest4_5
  case hy4_5 => (intro w9 hSw; obtain ⟨m0, m1, m2, m3, m4, m5⟩ := hSw; go_simp; try with_reducible rfl)
  try simp only [Act.put, List.setIfInBounds_toArray, List.set_cons_zero, List.set_cons_succ, List.getElem_toArray, List.getElem_cons_zero, List.getElem_cons_succ]
  refine wpAnyH_take (i := 5) (v := ?v5_6) rfl (by kernel_rfl) (by kernel_rfl) (by kernel_rfl) (fun _ _ _ h => h) (Or.inl ⟨by rfl, ?hy5_6⟩) (by assumption) ?rest5_6
  case hy5_6 => (intro w9 hSw; clear hSw; go_simp; try with_reducible rfl)
  try simp only [Act.put, List.setIfInBounds_toArray, List.set_cons_zero, List.set_cons_succ, List.getElem_toArray, List.getElem_cons_zero, List.getElem_cons_succ]
  refine wpAnyH_take (i := 6) (v := ?v6_7) rfl (by kernel_rfl) (by kernel_rfl) (by kernel_rfl) (fun _ _ _ h => h) (Or.inl ⟨by rfl, ?hy6_7⟩) (by assumption) ?rest6_7
  case hy6_7 => (intro w9 hSw; clear hSw; go_simp; try with_reducible rfl)
  try simp only [Act.put, List.setIfInBounds_toArray, List.set_cons_zero, List.set_cons_succ, List.getElem_toArray, List.getElem_cons_zero, List.getElem_cons_succ]
  refine wpAnyH_take (i := 7) (v := ?v7_8) rfl (by kernel_rfl) (by kernel_rfl) (by kernel_rfl) (fun _ _ _ h => h) (Or.inl ⟨by rfl, ?hy7_8⟩) (by assumption) ?rest7_8
  case hy7_8 => (intro w9 hSw; obtain ⟨m0, m1, m2, m3, m4, m5⟩ := hSw; go_simp; try with_reducible rfl)
  try simp only [Act.put, List.setIfInBounds_toArray, List.set_cons_zero, List.set_cons_succ, List.getElem_toArray, List.getElem_cons_zero, List.getElem_cons_succ]
  refine wpAnyH_take (i := 8) (v := ?v8_9) rfl (by kernel_rfl) (by kernel_rfl) (by kernel_rfl) (fun _ _ _ h => h) (Or.inl ⟨by rfl, ?hy8_9⟩) (by assumption) ?rest8_9
  case hy8_9 => (intro w9 hSw; clear hSw; go_simp; try with_reducible rfl)
  try simp only [Act.put, List.setIfInBounds_toArray, List.set_cons_zero, List.set_cons_succ, List.getElem_toArray, List.getElem_cons_zero, List.getElem_cons_succ]
  refine wpAnyH_take (i := 9) (v := ?v9_10) rfl (by kernel_rfl) (by kernel_rfl) (by kernel_rfl) (fun _ _ _ h => h) (Or.inl ⟨by rfl, ?hy9_10⟩) (by assumption) ?rest9_10
  case hy9_10 => (intro w9 hSw; obtain ⟨m0, m1, m2, m3, m4, m5⟩ := hSw; go_simp; try with_reducible rfl)
  try simp only [Act.put, List.setIfInBounds_toArray, List.set_cons_zero, List.set_cons_succ, List.getElem_toArray, List.getElem_cons_zero, List.getElem_cons_succ]
  refine wpAnyH_take (i := 10) (v := ?v10_11) rfl (by kernel_rfl) (by kernel_rfl) (by kernel_rfl) (fun _ _ _ h => h) (Or.inl ⟨by rfl, ?hy10_11⟩) (by assumption) ?rest10_11
  case hy10_11 => (intro w9 hSw; clear hSw; go_simp; try with_reducible rfl)
  try simp only [Act.put, List.setIfInBounds_toArray, List.set_cons_zero, List.set_cons_succ, List.getElem_toArray, List.getElem_cons_zero, List.getElem_cons_succ]
  refine wpAnyH_take (i := 11) (v := ?v11_12) rfl (by kernel_rfl) (by kernel_rfl) (by kernel_rfl) (fun _ _ _ h => h) (Or.inl ⟨by rfl, ?hy11_12⟩) (by assumption) ?rest11_12
  case hy11_12 => (intro w9 hSw; clear hSw; go_simp; try with_reducible rfl)
  try simp only [Act.put, List.setIfInBounds_toArray, List.set_cons_zero, List.set_cons_succ, List.getElem_toArray, List.getElem_cons_zero, List.getElem_cons_succ]
  refine wpAnyH_take (i := 12) (v := ?v12_13) rfl (by kernel_rfl) (by kernel_rfl) (by kernel_rfl) (fun _ _ _ h => h) (Or.inl ⟨by rfl, ?hy12_13⟩) (by assumption) ?rest12_13
  case hy12_13 => (intro w9 hSw; obtain ⟨m0, m1, m2, m3, m4, m5⟩ := hSw; go_simp; try with_reducible rfl)
  try simp only [Act.put, List.setIfInBounds_toArray, List.set_cons_zero, List.set_cons_succ, List.getElem_toArray, List.getElem_cons_zero, List.getElem_cons_succ]
  refine wpAnyH_ready (rs := [13]) (by kernel_rfl) (by simp) ?_
  refine AllReadyH.cons rfl (fun K hK => ?_) AllReadyH.nil
  refine step_arith .mul (.inr (.inr (.inl rfl))) rfl _ _ _ _ X Y rfl rfl rfl bX bY ?_
  intro r9 w1 hb1 hr9 br9 dr
  have hS1 := hS
  obtain ⟨t9, ht9⟩ := dr
  subst ht9
  clear hS; refine hK.out _ _ hS1 (fun hS => ?_); clear hK K
  try simp only [Act.put, List.setIfInBounds_toArray, List.set_cons_zero, List.set_cons_succ, List.getElem_toArray, List.getElem_cons_zero, List.getElem_cons_succ]
  refine wpAnyH_take (i := 14) (v := ?v14_14) rfl (by kernel_rfl) (by kernel_rfl) (by kernel_rfl) (fun _ _ _ h => h) (Or.inl ⟨by rfl, ?hy14_14⟩) (by assumption) ?rest14_14
  case hy14_14 => (intro w9 hSw; clear hSw; go_simp; try with_reducible rfl)
  try simp only [Act.put, List.setIfInBounds_toArray, List.set_cons_zero, List.set_cons_succ, List.getElem_toArray, List.getElem_cons_zero, List.getElem_cons_succ]
  refine wpAnyH_done (by kernel_rfl) ?_ _
  go_wp2_with fail
  go_ret
  exact ⟨r9, rfl, hr9, br9, d0.trans ⟨t9, rfl⟩⟩

set_option maxRecDepth 100000 in
set_option maxHeartbeats 8000000 in
theorem fac1_any {w : World} {p s i n c m vc t : Nat} {A VA : Option Addr} {hs : List Re} {v : List Int} (hL : Rl w A n c hs) (hlen : ∀ e ∈ hs, e.l.length = m) (h : FL w VA m vc v) (hp : Blk w p [.slice A n c]) (hs9 : Rbx w s VA m vc t) (hi : i < n) :
    Calls Try.prog 40 #[.int .i64 i, .pointer (some ⟨s, 0, none⟩), .pointer (some ⟨p, 0, none⟩)] w (FB (sumA (fun r => aop .mul (fa (D (hV hs i) r)) (fa (D v r))) m) w) := by
  have hmx := h.max
  have DI := Blk.new w [.int .i64 i] 3
  have bz := (Below.refl _ w).alloc (Nat.le_refl _) (.cells #[.int .i64 i] 3)
  replace hL := hL.on bz
  replace h := h.on bz
  replace hp := hp.on bz
  replace hs9 := hs9.on bz
  have HC : Hid (∀ W, Dr (w.alloc (.cells #[.int .i64 i] 3)) W → ∀ r, r < m → Calls Try.prog 42 #[.int .i64 r, .pointer (some ⟨p, 0, none⟩), .pointer (some ⟨w.heap.size, 0, none⟩), .pointer (some ⟨s, 0, none⟩)] W (FA ((fun r => aop .mul (fa (D (hV hs i) r)) (fa (D v r))) r) W)) := Lib.hid (fun W hd r hr => fac11_any (hL.on (hd.below _)) hlen (h.on (hd.below _)) (hp.on (hd.below _)) (DI.on (hd.below _)) (hs9.on (hd.below _)) hi hr)
  have ps := sum_fac11 p w.heap.size s _ m hmx HC
  obtain ⟨u0, u1, _, _⟩ := Rbx.cells hs9
  clear hL h hp hs9 HC DI
  go_enter Try.func40, Try.ntmps40
  go_wp2_with fail
  with_reducible refine ps.mono ?_
  rintro e w1 ⟨r1, rfl, hq, b1, dq⟩
  have H1 := Lib.hid hq
  clear hq ps
  go_wp2_with fail
  go_ret
  exact ⟨r1, rfl, H1.out, b1, bz.trans (dq.below _)⟩

set_option maxRecDepth 100000 in
set_option maxHeartbeats 8000000 in
theorem list_fac1 {w : World} (p q : Nat) (f : Nat → Option Nat) (n : Nat) (hn : n ≤ 4000000) (HC : Hid (∀ W, Below w.heap.size w W → ∀ k, k < n → Calls Try.prog 40 #[.int .i64 k, .pointer (some ⟨p, 0, none⟩), .pointer (some ⟨q, 0, none⟩)] W (FB (f k) W))) :
    Calls Try.prog 39 #[.int .i64 n, .func (.func 40) #[] #[.pointer (some ⟨p, 0, none⟩), .pointer (some ⟨q, 0, none⟩)]] w (fun e w' => ∃ g L, e = .returned (.slice (some ⟨g, 0, none⟩) n n) ∧ RowF w' g L ∧ w.heap.size ≤ g ∧ Is L n f ∧ Below w.heap.size w w') := by
  have hmk := run_makeF n hn
  have HR := RowF.new w (List.replicate n 0)
  have bz := (Below.refl _ w).alloc (Nat.le_refl _) (.cells (LF (List.replicate n 0)).toArray 24)
  have HI : Hid (Is (List.replicate n (0 : Int)) n (fun j => if j < 0 then f j else some 0)) := Lib.hid ⟨by simp, wd_zeros n, fun k _ => by rw [D_zeros]; exact fa_zero⟩
  go_enter Try.func39, Try.ntmps39
  go_wp2_with fail
  clear hmk
  go_loopw [10, 6] (fun i i2 wr => ∃ (k : Nat) (L : List Int), k ≤ n ∧ i = .int .i64 k ∧ RowF wr w.heap.size L ∧ Hid (Is L n (fun j => if j < k then f j else some 0)) ∧ Below w.heap.size w wr) (fun i _ _ => n - (intOf i).toNat)
  case atStart => exact ⟨0, _, Nat.zero_le _, rfl, HR, HI, bz⟩
  case round =>
    clear HR HI bz
    obtain ⟨k, L, hk, rfl, HR, HI, bz⟩ := hrel
    by_cases hlt : k < n
    · have pc := HC.out wr bz k hlt
      have k0 : (0 : Int) ≤ k := by omega
      have k1 : (k : Int) < n := by omega
      go_wp2_with fail
      with_reducible refine pc.mono ?_
      rintro e w1 ⟨r1, rfl, h1, b1, hb⟩
      have H1 := Lib.hid h1
      clear h1 pc
      replace HR := HR.on hb
      replace bz := bz.trans (hb.mono bz.size)
      clear hb
      obtain ⟨c0, c1⟩ := HR.at_ (k := k) (by rw [HI.out.len]; exact hlt)
      have HR2 : RowF (w1.setCell ⟨w.heap.size, k, none⟩ (.float .f64 r1)) w.heap.size (L.set k r1) := HR.set_ k r1
      have bz2 := bz.setCell (p := ⟨w.heap.size, k, none⟩) (Nat.le_refl _) (.float .f64 r1)
      have HI2 : Hid (Is (L.set k (r1 : Int)) n (fun j => if j < k + 1 then f j else some 0)) := Lib.hid (by
        refine HI.out.set (by omega) (by omega) hlt ?_ (fun i _ hi => ?_)
        · rw [fa_nat, H1.out, if_pos (by omega)]
        · by_cases e1 : i < k
          · rw [if_pos (by omega), if_pos e1]
          · rw [if_neg (by omega), if_neg e1])
      clear HR HI bz
      go_wp2_with fail
      go_roundw
      case rel => exact ⟨k + 1, _, by omega, by go_num, HR2, HI2, bz2⟩
      case measure => simp [intOf]; omega
    · obtain rfl : k = n := by omega
      go_wp2_with fail
      go_ret
      exact ⟨_, L, rfl, HR, Nat.le_refl _, HI.out.congr (fun i hi => if_pos hi), bz⟩

set_option maxRecDepth 100000 in
set_option maxHeartbeats 8000000 in
theorem sum_fac2 {w : World} (p q s : Nat) (f : Nat → Option Nat) (n : Nat) (hn : n ≤ 9223372036854775807) (HC : Hid (∀ W, Dr w W → ∀ k, k < n → Calls Try.prog 43 #[.int .i64 k, .pointer (some ⟨p, 0, none⟩), .pointer (some ⟨q, 0, none⟩), .pointer (some ⟨s, 0, none⟩)] W (FA (f k) W))) :
    Calls Try.prog 41 #[.int .i64 n, .func (.func 43) #[] #[.pointer (some ⟨p, 0, none⟩), .pointer (some ⟨q, 0, none⟩), .pointer (some ⟨s, 0, none⟩)]] w (FA (sumA f n) w) := by
  have b0 : (0 : Nat) ≤ 18446744073709551615 := by omega
  go_enter Try.func41, Try.ntmps41
  go_wp2_with fail
  go_loopw [5, 8] (fun acc i wr => ∃ (k r : Nat), k ≤ n ∧ i = .int .i64 k ∧ acc = .float .f64 r ∧ Hid (af r = sumA f k) ∧ r ≤ 18446744073709551615 ∧ Dr w wr) (fun _ i _ => n - (intOf i).toNat)
  case atStart => exact ⟨0, 0, Nat.zero_le _, rfl, rfl, Lib.hid (by rw [af_zero]; rfl), b0, Dr.refl w⟩
  case round =>
    obtain ⟨k, r, hk, rfl, rfl, HN, br, dr⟩ := hrel
    by_cases hlt : k < n
    · have pc := HC.out wr dr k hlt
      go_wp2_with fail
      with_reducible refine pc.mono ?_
      rintro e w1 ⟨r1, rfl, h1, b1, d1⟩
      have H1 := Lib.hid h1
      clear h1 pc
      obtain ⟨r2, w2, e2, d2, h2, b2⟩ := run_add (P := Try.prog) 24 (x := r) (y := r1) br b1 w1
      have HK : Hid (af r2 = sumA f (k + 1)) := Lib.hid (by rw [h2, HN.out, H1.out]; rfl)
      clear h2 H1 HN
      go_wp2_with fail
      go_roundw
      case rel => exact ⟨k + 1, r2, by omega, by go_num, rfl, HK, b2, (dr.trans d1).trans d2⟩
      case measure => simp [intOf]; omega
    · obtain rfl : k = n := by omega
      go_wp2_with fail
      go_ret
      exact ⟨r, rfl, HN.out, br, dr⟩

set_option maxRecDepth 100000 in
set_option maxHeartbeats 8000000 in
theorem fac2_any {w : World} {p q s i x z g o n ec m mc B cap : Nat} {YA : Option Addr} {L y : List Int} (hO : OwnF w B (some ⟨g, 0, none⟩) cap L) (hw : Wd L) (hY : FL w YA m mc y) (hp : Blk w p [.slice (some ⟨g, o, none⟩) n ec]) (hq : Blk w q [.slice YA m mc]) (hs : Blk w s [.int .i64 i])
    (hx : x < n) (hon : o + n = L.length) (hne : n ≤ ec) (hec : ec ≤ 9223372036854775807) (hiz : i + x = z) (hz : z < m) :
    Calls Try.prog 43 #[.int .i64 x, .pointer (some ⟨p, 0, none⟩), .pointer (some ⟨q, 0, none⟩), .pointer (some ⟨s, 0, none⟩)] w (FA (aop .mul (fa (D L (o + x))) (fa (D y z))) w) := by
  obtain ⟨x0, x1⟩ := hw.at_ (o + x)
  obtain ⟨y0, y1⟩ := hY.2.2.at_ z
  have bX : (D L (o + x)).toNat ≤ 18446744073709551615 := by omega
  have bY : (D y z).toNat ≤ 18446744073709551615 := by omega
  obtain ⟨hcA, _⟩ := hO.at' (k := o + x) (by omega)
  obtain ⟨ad2, hA2, _, hcB⟩ := hY.at_ hz
  have hmx := hY.max
  have hcap := hO.ge
  unfold fa
  generalize (D L (o + x)).toNat = X at *
  generalize (D y z).toNat = Y at *
  have d0 : Dr w w.drew := ⟨1, rfl⟩
  replace hp := hp.drew
  replace hq := hq.drew
  replace hs := hs.drew
  have p0 := Blk.cell hp 0 rfl
  have q0 := Blk.cell hq 0 rfl
  have s0 := Blk.cell hs 0 rfl
  subst hA2
  replace hcA : w.drew.cell? ⟨g, o + x, none⟩ = some (.float .f64 X) := hcA
  replace hcB : w.drew.cell? (ad2.add z) = some (.float .f64 Y) := hcB
  have e0 : (i : Int) + (x : Int) = (z : Int) := by omega
  have r0 : (0 : Int) ≤ x := by omega
  have r1 : (x : Int) < n := by omega
  have z0 : (0 : Int) ≤ z := by omega
  have z1 : (z : Int) < m := by omega
  have wz : IntKind.i64.wrap (z : Int) = (z : Int) := IntWalk.i64_in _ (by omega)
  clear hO hY hp hq hs x0 x1 y0 y1 hw hiz
  go_enter Try.func43, Try.ntmps43
  go_wp2_with fail
  refine wp_region_held_drew (S := fun w9 : World => w9.cell? ⟨p, 0, none⟩ = some (.slice (some ⟨g, o, none⟩) n ec) ∧ w9.cell? ⟨q, 0, none⟩ = some (.slice (some ad2) m mc) ∧ w9.cell? ⟨s, 0, none⟩ = some (.int .i64 i) ∧ w9.cell? ⟨g, o + x, none⟩ = some (.float .f64 X) ∧ w9.cell? (ad2.add z) = some (.float .f64 Y)) (by kernel_rfl) ⟨p0, q0, s0, hcA, hcB⟩ (fun hS => ?_)
  refine wpAnyH_take (i := 0) (v := ?v0_15) rfl (by kernel_rfl) (by kernel_rfl) (by kernel_rfl) (fun _ _ _ h => h) (Or.inl ⟨by rfl, ?hy0_15⟩) (by assumption) ?rest0_15
  case hy0_15 => (intro w9 hSw; obtain ⟨m0, m1, m2, m3, m4⟩ := hSw; go_simp; try with_reducible rfl)
  try simp only [Act.put, List.setIfInBounds_toArray, List.set_cons_zero, List.set_cons_succ, List.getElem_toArray, List.getElem_cons_zero, List.getElem_cons_succ]
  refine wpAnyH_take (i := 1) (v := ?v1_16) rfl (by kernel_rfl) (by kernel_rfl) (by kernel_rfl) (fun _ _ _ h => h) (Or.inl ⟨by rfl, ?hy1_16⟩) (by assumption) ?rest1_16
  case hy1_16 => (intro w9 hSw; clear hSw; go_simp; try with_reducible rfl)
  try simp only [Act.put, List.setIfInBounds_toArray, List.set_cons_zero, List.set_cons_succ, List.getElem_toArray, List.getElem_cons_zero, List.getElem_cons_succ]
  refine wpAnyH_take (i := 2) (v := ?v2_17) rfl (by kernel_rfl) (by kernel_rfl) (by kernel_rfl) (fun _ _ _ h => h) (Or.inl ⟨by rfl, ?hy2_17⟩) (by assumption) ?rest2_17
  case hy2_17 => (intro w9 hSw; clear hSw; go_simp; try with_reducible rfl)
  try simp only [Act.put, List.setIfInBounds_toArray, List.set_cons_zero, List.set_cons_succ, List.getElem_toArray, List.getElem_cons_zero, List.getElem_cons_succ]
  refine wpAnyH_take (i := 3) (v := ?v3_18) rfl (by kernel_rfl) (by kernel_rfl) (by kernel_rfl) (fun _ _ _ h => h) (Or.inl ⟨by rfl, ?hy3_18⟩) (by assumption) ?rest3_18
  case hy3_18 => (intro w9 hSw; obtain ⟨m0, m1, m2, m3, m4⟩ := hSw; go_simp; try with_reducible rfl)
  try simp only [Act.put, List.setIfInBounds_toArray, List.set_cons_zero, List.set_cons_succ, List.getElem_toArray, List.getElem_cons_zero, List.getElem_cons_succ]
  refine wpAnyH_take (i := 4) (v := ?v4_19) rfl (by kernel_rfl) (by kernel_rfl) (by kernel_rfl) (fun _ _ _ h => h) (Or.inl ⟨by rfl, ?hy4_19⟩) (by assumption) ?rest4_19
  case hy4_19 => (intro w9 hSw; obtain ⟨m0, m1, m2, m3, m4⟩ := hSw; go_simp; try with_reducible rfl)
  try simp only [Act.put, List.setIfInBounds_toArray, List.set_cons_zero, List.set_cons_succ, List.getElem_toArray, List.getElem_cons_zero, List.getElem_cons_succ]
  refine wpAnyH_take (i := 5) (v := ?v5_20) rfl (by kernel_rfl) (by kernel_rfl) (by kernel_rfl) (fun _ _ _ h => h) (Or.inl ⟨by rfl, ?hy5_20⟩) (by assumption) ?rest5_20
  case hy5_20 => (intro w9 hSw; obtain ⟨m0, m1, m2, m3, m4⟩ := hSw; go_simp; try with_reducible rfl)
  try simp only [Act.put, List.setIfInBounds_toArray, List.set_cons_zero, List.set_cons_succ, List.getElem_toArray, List.getElem_cons_zero, List.getElem_cons_succ]
  refine wpAnyH_take (i := 6) (v := ?v6_21) rfl (by kernel_rfl) (by kernel_rfl) (by kernel_rfl) (fun _ _ _ h => h) (Or.inl ⟨by rfl, ?hy6_21⟩) (by assumption) ?rest6_21
  case hy6_21 => (intro w9 hSw; clear hSw; go_simp; try with_reducible rfl)
  try simp only [Act.put, List.setIfInBounds_toArray, List.set_cons_zero, List.set_cons_succ, List.getElem_toArray, List.getElem_cons_zero, List.getElem_cons_succ]
  refine wpAnyH_take (i := 7) (v := ?v7_22) rfl (by kernel_rfl) (by kernel_rfl) (by kernel_rfl) (fun _ _ _ h => h) (Or.inl ⟨by rfl, ?hy7_22⟩) (by assumption) ?rest7_22
  case hy7_22 => (intro w9 hSw; clear hSw; go_simp; try with_reducible rfl)
  try simp only [Act.put, List.setIfInBounds_toArray, List.set_cons_zero, List.set_cons_succ, List.getElem_toArray, List.getElem_cons_zero, List.getElem_cons_succ]
  refine wpAnyH_take (i := 8) (v := ?v8_23) rfl (by kernel_rfl) (by kernel_rfl) (by kernel_rfl) (fun _ _ _ h => h) (Or.inl ⟨by rfl, ?hy8_23⟩) (by assumption) ?rest8_23
  case hy8_23 => (intro w9 hSw; clear hSw; go_simp; try with_reducible rfl)
  try simp only [Act.put, List.setIfInBounds_toArray, List.set_cons_zero, List.set_cons_succ, List.getElem_toArray, List.getElem_cons_zero, List.getElem_cons_succ]
  refine wpAnyH_take (i := 9) (v := ?v9_24) rfl (by kernel_rfl) (by kernel_rfl) (by kernel_rfl) (fun _ _ _ h => h) (Or.inl ⟨by rfl, ?hy9_24⟩) (by assumption) ?rest9_24
  case hy9_24 => (intro w9 hSw; obtain ⟨m0, m1, m2, m3, m4⟩ := hSw; go_simp; try with_reducible rfl)
  try simp only [Act.put, List.setIfInBounds_toArray, List.set_cons_zero, List.set_cons_succ, List.getElem_toArray, List.getElem_cons_zero, List.getElem_cons_succ]
  refine wpAnyH_ready (rs := [10]) (by kernel_rfl) (by simp) ?_
  refine AllReadyH.cons rfl (fun K hK => ?_) AllReadyH.nil
  refine step_arith .mul (.inr (.inr (.inl rfl))) rfl _ _ _ _ X Y rfl rfl rfl bX bY ?_
  intro r9 w1 hb1 hr9 br9 dr
  have hS1 := hS
  obtain ⟨t9, ht9⟩ := dr
  subst ht9
  clear hS; refine hK.out _ _ hS1 (fun hS => ?_); clear hK K
  try simp only [Act.put, List.setIfInBounds_toArray, List.set_cons_zero, List.set_cons_succ, List.getElem_toArray, List.getElem_cons_zero, List.getElem_cons_succ]
  refine wpAnyH_take (i := 11) (v := ?v11_25) rfl (by kernel_rfl) (by kernel_rfl) (by kernel_rfl) (fun _ _ _ h => h) (Or.inl ⟨by rfl, ?hy11_25⟩) (by assumption) ?rest11_25
  case hy11_25 => (intro w9 hSw; clear hSw; go_simp; try with_reducible rfl)
  try simp only [Act.put, List.setIfInBounds_toArray, List.set_cons_zero, List.set_cons_succ, List.getElem_toArray, List.getElem_cons_zero, List.getElem_cons_succ]
  refine wpAnyH_done (by kernel_rfl) ?_ _
  go_wp2_with fail
  go_ret
  exact ⟨r9, rfl, hr9, br9, d0.trans ⟨t9, rfl⟩⟩
end Go.Proofs.Ytcdbjlmegkcaiaa
