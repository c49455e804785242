/-
  Layer 9, walks: a line of a list reflected, by the program. (Written by wip/tools/gen_rfi.py.)
-/
import Derived.Test.YtbaeabmmokgomaaMJRfH
namespace Go.Proofs.Ytbaeabmmokgomaa
open Go.RowKit Go.Bw
set_option linter.unusedVariables false
set_option linter.unusedSimpArgs false
attribute [local go_sem] run_store_float

set_option maxRecDepth 100000 in
set_option maxHeartbeats 8000000 in
theorem sum_turn {w : World} (p q s : Nat) (f : Nat → Option Nat) (n : Nat) (hn : n ≤ 9223372036854775807) (HC : Hid (∀ W, Dr w W → ∀ k, k < n → Calls Try.prog 85 #[.int .i64 k, .pointer (some ⟨p, 0, none⟩), .pointer (some ⟨q, 0, none⟩), .pointer (some ⟨s, 0, none⟩)] W (FA (f k) W))) :
    Calls Try.prog 84 #[.int .i64 n, .func (.func 85) #[] #[.pointer (some ⟨p, 0, none⟩), .pointer (some ⟨q, 0, none⟩), .pointer (some ⟨s, 0, none⟩)]] w (FA (sumA f n) w) := by
  have b0 : (0 : Nat) ≤ 18446744073709551615 := by omega
  go_enter Try.func84, Try.ntmps84
  go_wp2_with fail
  go_loopw [5, 8] (fun acc i wr => ∃ (k r : Nat), k ≤ n ∧ i = .int .i64 k ∧ acc = .float .f64 r ∧ Hid (af r = sumA f k) ∧ r ≤ 18446744073709551615 ∧ Dr w wr) (fun _ i _ => n - (intOf i).toNat)
  case atStart => exact ⟨0, 0, Nat.zero_le _, rfl, rfl, Lib.hid (by rw [af_zero]; rfl), b0, Dr.refl w⟩
  case round =>
    obtain ⟨k, r, hk, rfl, rfl, HN, br, dr⟩ := hrel
    by_cases hlt : k < n
    · have pc := HC.out wr dr k hlt
      go_wp2_with fail
      with_reducible refine pc.mono ?_
      rintro e w1 ⟨r1, rfl, h1, b1, d1⟩
      have H1 := Lib.hid h1
      clear h1 pc
      obtain ⟨r2, w2, e2, d2, h2, b2⟩ := run_add (P := Try.prog) 49 (x := r) (y := r1) br b1 w1
      have HK : Hid (af r2 = sumA f (k + 1)) := Lib.hid (by rw [h2, HN.out, H1.out]; rfl)
      clear h2 H1 HN
      go_wp2_with fail
      go_roundw
      case rel => exact ⟨k + 1, r2, by omega, by go_num, rfl, HK, b2, (dr.trans d1).trans d2⟩
      case measure => simp [intOf]; omega
    · obtain rfl : k = n := by omega
      go_wp2_with fail
      go_ret
      exact ⟨r, rfl, HN.out, br, dr⟩

set_option maxRecDepth 100000 in
set_option maxHeartbeats 8000000 in
theorem turn1_any {w : World} {p e s k m vc t g o q z n ec B cap : Nat} {VA : Option Addr} {v L : List Int} (h : FL w VA m vc v) (hL : OwnF w B (some ⟨g, 0, none⟩) cap L) (hw : Wd L) (hp : Rbx w p VA m vc t) (he : Blk w e [.slice (some ⟨g, o, none⟩) n ec]) (hs : Blk w s [.int .i64 q])
    (hk : k < m) (hz : k * q = z) (hzn : z < n) (hn : o + n = L.length) (hne : n ≤ ec) (hec : ec ≤ 9223372036854775807) :
    Calls Try.prog 85 #[.int .i64 k, .pointer (some ⟨p, 0, none⟩), .pointer (some ⟨e, 0, none⟩), .pointer (some ⟨s, 0, none⟩)] w (FA (aop .mul (fa (D v k)) (fa (D L (o + z)))) w) := by
  have hmx := h.max
  obtain ⟨ad, rfl, hb1, hc1⟩ := h.at_ hk
  obtain ⟨x0, x1⟩ := h.2.2.at_ k
  obtain ⟨y0, y1⟩ := hw.at_ (o + z)
  obtain ⟨hc2, _⟩ := hL.at' (k := o + z) (by omega)
  have hcap := hL.ge
  unfold fa
  have bX : (D v k).toNat ≤ 18446744073709551615 := by omega
  have bY : (D L (o + z)).toNat ≤ 18446744073709551615 := by omega
  generalize (D v k).toNat = X at *
  generalize (D L (o + z)).toNat = Y at *
  have d0 : Dr w w.drew := ⟨1, rfl⟩
  replace hp := hp.drew
  replace he := he.drew
  replace hs := hs.drew
  obtain ⟨p0, p1, _, _⟩ := Rbx.cells hp
  have e0 := Blk.cell he 0 rfl
  have s0 := Blk.cell hs 0 rfl
  replace hc1 : w.drew.cell? (ad.add k) = some (.float .f64 X) := hc1
  replace hc2 : w.drew.cell? ⟨g, o + z, none⟩ = some (.float .f64 Y) := hc2
  have k0 : (0 : Int) ≤ k := by omega
  have k1 : (k : Int) < m := by omega
  have z0 : (0 : Int) ≤ z := by omega
  have z1 : (z : Int) < n := by omega
  have z2 : (z : Int) ≤ 9223372036854775807 := by omega
  have ez : (k : Int) * (q : Int) = (z : Int) := by exact_mod_cast hz
  have wz : IntKind.i64.wrap (z : Int) = (z : Int) := IntWalk.i64_in _ (by omega)
  clear h hw hL x0 x1 y0 y1 hp he hs hz
  go_enter Try.func85, Try.ntmps85
  go_wp2_with fail
  refine wp_region_held_drew (S := fun w9 : World => w9.cell? ⟨p, 0, none⟩ = some (.slice (some ad) m vc) ∧ w9.cell? ⟨e, 0, none⟩ = some (.slice (some ⟨g, o, none⟩) n ec) ∧ w9.cell? ⟨s, 0, none⟩ = some (.int .i64 q) ∧ w9.cell? (ad.add k) = some (.float .f64 X) ∧ w9.cell? ⟨g, o + z, none⟩ = some (.float .f64 Y)) (by kernel_rfl) ⟨p0, e0, s0, hc1, hc2⟩ (fun hS => ?_)
  refine wpAnyH_take (i := 0) (v := ?v0_1) rfl (by kernel_rfl) (by kernel_rfl) (by kernel_rfl) (fun _ _ _ h => h) (Or.inl ⟨by rfl, ?hy0_1⟩) (by assumption) ?rest0_1
  case hy0_1 => (intro w9 hSw; clear hSw; go_simp; try with_reducible rfl)
  try simp only [Act.put, List.setIfInBounds_toArray, List.set_cons_zero, List.set_cons_succ, List.getElem_toArray, List.getElem_cons_zero, List.getElem_cons_succ]
  refine wpAnyH_take (i := 1) (v := ?v1_2) rfl (by kernel_rfl) (by kernel_rfl) (by kernel_rfl) (fun _ _ _ h => h) (Or.inl ⟨by rfl, ?hy1_2⟩) (by assumption) ?rest1_2
  case hy1_2 => (intro w9 hSw; obtain ⟨m0, m1, m2, m3, m4⟩ := hSw; go_simp; try with_reducible rfl)
  try simp only [Act.put, List.setIfInBounds_toArray, List.set_cons_zero, List.set_cons_succ, List.getElem_toArray, List.getElem_cons_zero, List.getElem_cons_succ]
  refine wpAnyH_take (i := 2) (v := ?v2_3) rfl (by kernel_rfl) (by kernel_rfl) (by kernel_rfl) (fun _ _ _ h => h) (Or.inl ⟨by rfl, ?hy2_3⟩) (by assumption) ?rest2_3
  case hy2_3 => (intro w9 hSw; clear hSw; go_simp; try with_reducible rfl)
  try simp only [Act.put, List.setIfInBounds_toArray, List.set_cons_zero, List.set_cons_succ, List.getElem_toArray, List.getElem_cons_zero, List.getElem_cons_succ]
  refine wpAnyH_take (i := 3) (v := ?v3_4) rfl (by kernel_rfl) (by kernel_rfl) (by kernel_rfl) (fun _ _ _ h => h) (Or.inl ⟨by rfl, ?hy3_4⟩) (by assumption) ?rest3_4
  case hy3_4 => (intro w9 hSw; clear hSw; go_simp; try with_reducible rfl)
  try simp only [Act.put, List.setIfInBounds_toArray, List.set_cons_zero, List.set_cons_succ, List.getElem_toArray, List.getElem_cons_zero, List.getElem_cons_succ]
  refine wpAnyH_take (i := 4) (v := ?v4_5) rfl (by kernel_rfl) (by kernel_rfl) (by kernel_rfl) (fun _ _ _ h => h) (Or.inl ⟨by rfl, ?hy4_5⟩) (by assumption) ?rest4_5
  case hy4_5 => (intro w9 hSw; obtain ⟨m0, m1, m2, m3, m4⟩ := hSw; go_simp; try with_reducible rfl)
  try simp only [Act.put, List.setIfInBounds_toArray, List.set_cons_zero, List.set_cons_succ, List.getElem_toArray, List.getElem_cons_zero, List.getElem_cons_succ]
  refine wpAnyH_take (i := 5) (v := ?v5_6) rfl (by kernel_rfl) (by kernel_rfl) (by kernel_rfl) (fun _ _ _ h => h) (Or.inl ⟨by rfl, ?hy5_6⟩) (by assumption) ?rest5_6
  case hy5_6 => (intro w9 hSw; obtain ⟨m0, m1, m2, m3, m4⟩ := hSw; go_simp; try with_reducible rfl)
  try simp only [Act.put, List.setIfInBounds_toArray, List.set_cons_zero, List.set_cons_succ, List.getElem_toArray, List.getElem_cons_zero, List.getElem_cons_succ]
  refine wpAnyH_take (i := 6) (v := ?v6_7) rfl (by kernel_rfl) (by kernel_rfl) (by kernel_rfl) (fun _ _ _ h => h) (Or.inl ⟨by rfl, ?hy6_7⟩) (by assumption) ?rest6_7
  case hy6_7 => (intro w9 hSw; clear hSw; go_simp; try with_reducible rfl)
  try simp only [Act.put, List.setIfInBounds_toArray, List.set_cons_zero, List.set_cons_succ, List.getElem_toArray, List.getElem_cons_zero, List.getElem_cons_succ]
  refine wpAnyH_take (i := 7) (v := ?v7_8) rfl (by kernel_rfl) (by kernel_rfl) (by kernel_rfl) (fun _ _ _ h => h) (Or.inl ⟨by rfl, ?hy7_8⟩) (by assumption) ?rest7_8
  case hy7_8 => (intro w9 hSw; obtain ⟨m0, m1, m2, m3, m4⟩ := hSw; go_simp; try with_reducible rfl)
  try simp only [Act.put, List.setIfInBounds_toArray, List.set_cons_zero, List.set_cons_succ, List.getElem_toArray, List.getElem_cons_zero, List.getElem_cons_succ]
  refine wpAnyH_take (i := 8) (v := ?v8_9) rfl (by kernel_rfl) (by kernel_rfl) (by kernel_rfl) (fun _ _ _ h => h) (Or.inl ⟨by rfl, ?hy8_9⟩) (by assumption) ?rest8_9
  case hy8_9 => (intro w9 hSw; clear hSw; go_simp; try with_reducible rfl)
  try simp only [Act.put, List.setIfInBounds_toArray, List.set_cons_zero, List.set_cons_succ, List.getElem_toArray, List.getElem_cons_zero, List.getElem_cons_succ]
  refine wpAnyH_take (i := 9) (v := ?v9_10) rfl (by kernel_rfl) (by kernel_rfl) (by kernel_rfl) (fun _ _ _ h => h) (Or.inl ⟨by rfl, ?hy9_10⟩) (by assumption) ?rest9_10
  case hy9_10 => (intro w9 hSw; clear hSw; go_simp; try with_reducible rfl)
  try simp only [Act.put, List.setIfInBounds_toArray, List.set_cons_zero, List.set_cons_succ, List.getElem_toArray, List.getElem_cons_zero, List.getElem_cons_succ]
  refine wpAnyH_take (i := 10) (v := ?v10_11) rfl (by kernel_rfl) (by kernel_rfl) (by kernel_rfl) (fun _ _ _ h => h) (Or.inl ⟨by rfl, ?hy10_11⟩) (by assumption) ?rest10_11
  case hy10_11 => (intro w9 hSw; obtain ⟨m0, m1, m2, m3, m4⟩ := hSw; go_simp; try with_reducible rfl)
  try simp only [Act.put, List.setIfInBounds_toArray, List.set_cons_zero, List.set_cons_succ, List.getElem_toArray, List.getElem_cons_zero, List.getElem_cons_succ]
  refine wpAnyH_ready (rs := [11]) (by kernel_rfl) (by simp) ?_
  refine AllReadyH.cons rfl (fun K hK => ?_) AllReadyH.nil
  refine step_arith .mul (.inr (.inr (.inl rfl))) rfl _ _ _ _ X Y rfl rfl rfl bX bY ?_
  intro r w1 hb1 hr br dr
  have hS1 := hS
  obtain ⟨t9, ht9⟩ := dr
  subst ht9
  clear hS; refine hK.out _ _ hS1 (fun hS => ?_); clear hK K
  try simp only [Act.put, List.setIfInBounds_toArray, List.set_cons_zero, List.set_cons_succ, List.getElem_toArray, List.getElem_cons_zero, List.getElem_cons_succ]
  refine wpAnyH_take (i := 12) (v := ?v12_12) rfl (by kernel_rfl) (by kernel_rfl) (by kernel_rfl) (fun _ _ _ h => h) (Or.inl ⟨by rfl, ?hy12_12⟩) (by assumption) ?rest12_12
  case hy12_12 => (intro w9 hSw; clear hSw; go_simp; try with_reducible rfl)
  try simp only [Act.put, List.setIfInBounds_toArray, List.set_cons_zero, List.set_cons_succ, List.getElem_toArray, List.getElem_cons_zero, List.getElem_cons_succ]
  refine wpAnyH_done (by kernel_rfl) ?_ _
  go_wp2_with fail
  go_ret
  exact ⟨r, rfl, hr, br, d0.trans ⟨t9, rfl⟩⟩

/-- what a line's float comes to: v's place i, the line's floats x, tau t, n of them -/
def lnW (v : List Int) (x : Nat → Option Nat) (t : Option Nat) (n : Nat) : Option Nat := aop .mul t (sumA (fun i => aop .mul (fa (D v i)) (x i)) n)
def lnF (v : List Int) (x : Nat → Option Nat) (t : Option Nat) (n : Nat) (i : Nat) : Option Nat := aop .sub (x i) (aop .mul (fa (D v i)) (lnW v x t n))
/-- a line was reflected -/
def TurnP (w : World) (B g cap o q m t : Nat) (v L : List Int) (e : Ending) (w' : World) : Prop := ∃ L', e = .returned (.tuple #[]) ∧ OwnF w' B (some ⟨g, 0, none⟩) cap L' ∧ Tn L L' (fun i => o + i * q) (if eqA (af t) (some 0) = true then 0 else m) (lnF v (fun i => fa (D L (o + i * q))) (af t) m) ∧ w.grownBy w' (some g)

set_option maxRecDepth 100000 in
set_option maxHeartbeats 8000000 in
theorem turn_any {w : World} {m vc t g o q n ec B cap : Nat} {VA : Option Addr} {v L : List Int} (h : FL w VA m vc v) (ht : t ≤ 18446744073709551615) (hL : OwnF w B (some ⟨g, 0, none⟩) cap L) (hw : Wd L) (hVA : ∀ a, VA = some a → a.block ≠ g)
    (hfit : ∀ k, k < m → o + k * q < L.length) (hn : o + n = L.length) (hne : n ≤ ec) (hec : ec ≤ 9223372036854775807) (hq0 : 0 < q) :
    Calls Try.prog 61 #[rV VA m vc t, .slice (some ⟨g, o, none⟩) n ec, .int .i64 q] w (TurnP w B g cap o q m t v L) := by
  have hmx := h.max
  have hcap := hL.ge
  have bz := (((Below.refl _ w).alloc (Nat.le_refl _) (.cells #[.slice VA m vc, .float .f64 t] 51)).alloc (by simp) (.cells #[.slice (some ⟨g, o, none⟩) n ec] 22)).alloc (by simp; omega) (.cells #[.int .i64 q] 3)
  have DH := ((Blk.new w [.slice VA m vc, .float .f64 t] 51).alloc (.cells #[.slice (some ⟨g, o, none⟩) n ec] 22)).alloc (.cells #[.int .i64 q] 3)
  have DE := (Blk.new (w.alloc (.cells #[.slice VA m vc, .float .f64 t] 51)) [.slice (some ⟨g, o, none⟩) n ec] 22).alloc (.cells #[.int .i64 q] 3)
  have DS := Blk.new ((w.alloc (.cells #[.slice VA m vc, .float .f64 t] 51)).alloc (.cells #[.slice (some ⟨g, o, none⟩) n ec] 22)) [.int .i64 q] 3
  simp only [World.size_alloc] at DE DS
  replace h := h.on bz
  have hg0 := (hL.gt rfl).2
  replace hL := hL.on_ bz
  have hsz : (((w.alloc (.cells #[.slice VA m vc, .float .f64 t] 51)).alloc (.cells #[.slice (some ⟨g, o, none⟩) n ec] 22)).alloc (.cells #[.int .i64 q] 3)).heap.size = w.heap.size + 1 + 1 + 1 := by simp
  have b0 : (0 : Nat) ≤ 18446744073709551615 := by omega
  have HZ : Hid (eqA (af t) (some 0) = (FloatKind.f64.format.order t 0 == some .eq)) := Lib.hid (by rw [← af_zero, eq_is ht b0])
  cases cz : (FloatKind.f64.format.order t 0 == some .eq)
  · rw [cz] at HZ
    go_enter Try.func61, Try.ntmps61
    go_upto_region 2 with fail
    generalize (((w.alloc (.cells #[.slice VA m vc, .float .f64 t] 51)).alloc (.cells #[.slice (some ⟨g, o, none⟩) n ec] 22)).alloc (.cells #[.int .i64 q] 3)) = W0 at h hL DH DE DS bz hsz ⊢
    replace h := h.drew
    replace hL := hL.drew
    replace DH := DH.drew
    replace DE := DE.drew
    replace DS := DS.drew
    replace bz := bz.drew
    replace hsz : W0.drew.heap.size = w.heap.size + 1 + 1 + 1 := hsz
    refine wp_region_held_drew (S := fun w9 : World => Rbx w9 w.heap.size VA m vc t) (by kernel_rfl) DH (fun hS => ?_)
    generalize W0.drew = wd at hS h hL DH DE DS hsz bz ⊢
    refine wpAnyH_take (i := 0) (v := ?v0_13) rfl (by kernel_rfl) (by kernel_rfl) (by kernel_rfl) (fun _ _ _ h => h) (Or.inl ⟨by rfl, ?hy0_13⟩) (by assumption) ?rest0_13
    case hy0_13 => (intro w9 hSw; clear hSw; go_simp; try with_reducible rfl)
    try simp only [Act.put, List.setIfInBounds_toArray, List.set_cons_zero, List.set_cons_succ, List.getElem_toArray, List.getElem_cons_zero, List.getElem_cons_succ]
    refine wpAnyH_take (i := 1) (v := ?v1_14) rfl (by kernel_rfl) (by kernel_rfl) (by kernel_rfl) (fun _ _ _ h => h) (Or.inl ⟨by rfl, ?hy1_14⟩) (by assumption) ?rest1_14
    case hy1_14 => (intro w9 hSw; have m0 : Rbx w9 w.heap.size VA m vc t := hSw; obtain ⟨y0, y1, _, _⟩ := Rbx.cells m0; go_simp; try with_reducible rfl)
    try simp only [Act.put, List.setIfInBounds_toArray, List.set_cons_zero, List.set_cons_succ, List.getElem_toArray, List.getElem_cons_zero, List.getElem_cons_succ]
    refine wpAnyH_take (i := 2) (v := ?v2_15) rfl (by kernel_rfl) (by kernel_rfl) (by kernel_rfl) (fun _ _ _ h => h) (Or.inl ⟨by rfl, ?hy2_15⟩) (by assumption) ?rest2_15
    case hy2_15 => (intro w9 hSw; clear hSw; go_simp; try with_reducible rfl)
    try simp only [Act.put, List.setIfInBounds_toArray, List.set_cons_zero, List.set_cons_succ, List.getElem_toArray, List.getElem_cons_zero, List.getElem_cons_succ]
    refine wpAnyH_take (i := 3) (v := ?v3_16) rfl (by kernel_rfl) (by kernel_rfl) (by kernel_rfl) (fun _ _ _ h => h) (Or.inl ⟨by rfl, ?hy3_16⟩) (by assumption) ?rest3_16
    case hy3_16 => (intro w9 hSw; have m0 : Rbx w9 w.heap.size VA m vc t := hSw; obtain ⟨y0, y1, _, _⟩ := Rbx.cells m0; go_simp; try with_reducible rfl)
    try simp only [Act.put, List.setIfInBounds_toArray, List.set_cons_zero, List.set_cons_succ, List.getElem_toArray, List.getElem_cons_zero, List.getElem_cons_succ]
    refine wpAnyH_take (i := 4) (v := ?v4_17) rfl (by kernel_rfl) (by kernel_rfl) (by kernel_rfl) (fun _ _ _ h => h) (Or.inl ⟨by rfl, ?hy4_17⟩) (by assumption) ?rest4_17
    case hy4_17 => (intro w9 hSw; have m0 : Rbx w9 w.heap.size VA m vc t := hSw; obtain ⟨y0, y1, _, _⟩ := Rbx.cells m0; go_simp; try with_reducible rfl)
    try simp only [Act.put, List.setIfInBounds_toArray, List.set_cons_zero, List.set_cons_succ, List.getElem_toArray, List.getElem_cons_zero, List.getElem_cons_succ]
    refine wpAnyH_take (i := 5) (v := ?v5_18) rfl (by kernel_rfl) (by kernel_rfl) (by kernel_rfl) (fun _ _ _ h => h) (Or.inl ⟨by rfl, ?hy5_18⟩) (by assumption) ?rest5_18
    case hy5_18 => (intro w9 hSw; clear hSw; go_simp; try with_reducible rfl)
    try simp only [Act.put, List.setIfInBounds_toArray, List.set_cons_zero, List.set_cons_succ, List.getElem_toArray, List.getElem_cons_zero, List.getElem_cons_succ]
    refine wpAnyH_ready (rs := [6]) (by kernel_rfl) (by simp) ?_
    refine AllReadyH.cons rfl (fun K hK => ?_) AllReadyH.nil
    go_simp
    have HC : Hid (∀ W, Dr wd W → ∀ k, k < m → Calls Try.prog 85 #[.int .i64 k, .pointer (some ⟨w.heap.size, 0, none⟩), .pointer (some ⟨w.heap.size + 1, 0, none⟩), .pointer (some ⟨w.heap.size + 1 + 1, 0, none⟩)] W (FA ((fun i => aop .mul (fa (D v i)) (fa (D L (o + i * q)))) k) W)) := Lib.hid (fun W hd k hk => turn1_any (h.on (hd.below _)) (hL.on_ (hd.below _)) hw (DH.on (hd.below _)) (DE.on (hd.below _)) (DS.on (hd.below _)) hk rfl (by have := hfit k hk; omega) hn hne hec)
    have ps := sum_turn w.heap.size (w.heap.size + 1) (w.heap.size + 1 + 1) _ m hmx HC
    with_reducible refine ps.mono ?_
    rintro e w1 ⟨r1, rfl, hq, b1, dq⟩
    have H1 := Lib.hid hq
    clear hq ps HC
    have hb := dq.below wd.heap.size
    replace h := h.on hb
    replace hL := hL.on_ hb
    replace DH := DH.on hb
    replace DE := DE.on hb
    replace DS := DS.on hb
    replace bz := bz.trans (hb.mono bz.size)
    have hsz1 : w1.heap.size = w.heap.size + 1 + 1 + 1 := by obtain ⟨k, rfl⟩ := dq; exact hsz
    clear hb dq hsz
    clear hS; refine hK.out _ _ DH (fun hS => ?_); clear hK K
    try simp only [Act.put, List.setIfInBounds_toArray, List.set_cons_zero, List.set_cons_succ, List.getElem_toArray, List.getElem_cons_zero, List.getElem_cons_succ]
    refine wpAnyH_ready (rs := [7]) (by kernel_rfl) (by simp) ?_
    refine AllReadyH.cons rfl (fun K hK => ?_) AllReadyH.nil
    refine step_arith .mul (.inr (.inr (.inl rfl))) rfl _ _ _ _ t r1 rfl rfl rfl ht b1 ?_
    intro r2 w2 hb hq b2 dq
    have H2 := Lib.hid hq
    clear hq
    replace h := h.on hb
    replace hL := hL.on_ hb
    replace DH := DH.on hb
    replace DE := DE.on hb
    replace DS := DS.on hb
    replace bz := bz.trans (hb.mono bz.size)
    have hsz2 : w2.heap.size = w.heap.size + 1 + 1 + 1 := by obtain ⟨k, rfl⟩ := dq; exact hsz1
    clear hb dq hsz1
    clear hS; refine hK.out _ _ DH (fun hS => ?_); clear hK K
    try simp only [Act.put, List.setIfInBounds_toArray, List.set_cons_zero, List.set_cons_succ, List.getElem_toArray, List.getElem_cons_zero, List.getElem_cons_succ]
    refine wpAnyH_take (i := 8) (v := ?v8_19) rfl (by kernel_rfl) (by kernel_rfl) (by kernel_rfl) (fun _ _ _ h => h) (Or.inl ⟨by rfl, ?hy8_19⟩) (by assumption) ?rest8_19
    case hy8_19 => (intro w9 hSw; clear hSw; go_simp; try with_reducible rfl)
    try simp only [Act.put, List.setIfInBounds_toArray, List.set_cons_zero, List.set_cons_succ, List.getElem_toArray, List.getElem_cons_zero, List.getElem_cons_succ]
    refine wpAnyH_done (by kernel_rfl) ?_ _
    have HW : Hid (af r2 = lnW v (fun i => fa (D L (o + i * q))) (af t) m) := Lib.hid (by rw [H2.out, H1.out]; rfl)
    clear H1 H2
    obtain ⟨p0, p1, _, _⟩ := Rbx.cells DH
    go_wp2_with fail
    clear p0 p1
    have hgr : w.grownBy w2 (some g) := grown_below bz _
    have hT := Tn.start hw (fun i => o + i * q) (lnF v (fun i => fa (D L (o + i * q))) (af t) m)
    clear bz
    go_loopw [23] (fun i wr => ∃ (k : Nat) (L2 : List Int), k ≤ m ∧ i = .int .i64 k ∧ Tn L L2 (fun i => o + i * q) k (lnF v (fun i => fa (D L (o + i * q))) (af t) m) ∧ OwnF wr B (some ⟨g, 0, none⟩) cap L2 ∧ FL wr VA m vc v ∧ Blk wr (w.heap.size + 1) [.slice (some ⟨g, o, none⟩) n ec] ∧ Blk wr (w.heap.size + 1 + 1) [.int .i64 q] ∧ w.grownBy wr (some g)) (fun i _ => m - (intOf i).toNat)
    case atStart => exact ⟨0, L, Nat.zero_le _, rfl, hT, hL, h, DE, DS, hgr⟩
    case round =>
      clear hT hL h DE DS hgr DH hsz2 hS
      obtain ⟨k, L2, hk, rfl, hT, hL, h, DE, DS, hgr⟩ := hrel
      by_cases hlt : k < m
      · have hf := hfit k hlt
        obtain ⟨z, hz⟩ : ∃ z, k * q = z := ⟨_, rfl⟩
        have hlen := hT.len
        have hl2 := hL.ge
        have ez : (k : Int) * (q : Int) = (z : Int) := by exact_mod_cast hz
        have z0 : (0 : Int) ≤ z := by omega
        have z1 : (z : Int) < n := by omega
        have z2 : (z : Int) ≤ 9223372036854775807 := by omega
        have wz : IntKind.i64.wrap (z : Int) = (z : Int) := IntWalk.i64_in _ (by omega)
        obtain ⟨ad, hA, hbl, hc1⟩ := h.at_ hlt
        obtain ⟨x0, x1⟩ := h.2.2.at_ k
        have bX : (D v k).toNat ≤ 18446744073709551615 := by omega
        have HX : Hid (af (D v k).toNat = fa (D v k)) := Lib.hid rfl
        generalize (D v k).toNat = X at *
        subst hA
        obtain ⟨y0, y1⟩ := hT.wd.at_ (o + z)
        have bY : (D L2 (o + z)).toNat ≤ 18446744073709551615 := by omega
        have HY : Hid (af (D L2 (o + z)).toNat = fa (D L (o + k * q))) := Lib.hid (by rw [← hT.old (o + k * q) (fun i hi e => by have hi2 : i * q < k * q := Nat.mul_lt_mul_of_pos_right hi hq0; omega), hz]; rfl)
        obtain ⟨r3, w3, e3, d3, h3, b3⟩ := run_mul (P := Try.prog) 49 (x := X) (y := r2) bX b2 wr
        obtain ⟨r4, w4, e4, d4, h4, b4⟩ := run_sub (P := Try.prog) 49 (x := (D L2 (o + z)).toNat) (y := r3) bY b3 w3
        have HF : fa (r4 : Int) = lnF v (fun i => fa (D L (o + i * q))) (af t) m k := by rw [fa_nat, h4, h3, HX.out, HY.out, HW.out]; rfl
        have HHF := Lib.hid HF
        clear h3 h4 HF HX HY
        obtain ⟨hy0, _⟩ := hL.at' (k := o + z) (by omega)
        have hd := (d3.trans d4).below wr.heap.size
        have hh3 := d3.below wr.heap.size
        have hy3 : w3.cell? ⟨g, o + z, none⟩ = some (.float .f64 (D L2 (o + z)).toNat) := ((hL.on_ hh3).at' (k := o + z) (by omega)).1
        have HL4 := hL.on_ hd
        obtain ⟨hy4, hy5⟩ := HL4.at' (k := o + z) (by omega)
        obtain ⟨e0⟩ : PLift _ := ⟨Blk.cell DE 0 rfl⟩
        obtain ⟨s0⟩ : PLift _ := ⟨Blk.cell DS 0 rfl⟩
        have hgs : w4.grownBy (w4.setCell ⟨g, o + z, none⟩ (.float .f64 r4)) (some g) := grown_setCell (World.grownBy.refl w4 _) _ _
        have DE4 := (DE.on hd).grown hgs (by simp; omega)
        have DS4 := (DS.on hd).grown hgs (by simp; omega)
        have h4 := (h.on hd).farB hgs (fun a e => hVA a e)
        have hL4 : OwnF (w4.setCell ⟨g, o + z, none⟩ (.float .f64 r4)) B (some ⟨g, 0, none⟩) cap (L2.set (o + z) r4) := HL4.set_ (o + z) r4
        have hgr4 := grown_setCell (grown_on hgr hd) (o + z) (.float .f64 r4)
        have hT4 := hT.next (x := (r4 : Int)) (by omega) (by omega) (by show o + k * q < _; exact hf) (fun i hi e => by have hi2 : i * q < k * q := Nat.mul_lt_mul_of_pos_right hi hq0; have e2 : o + i * q = o + k * q := e; omega) HHF.out
        have hT5 : Tn L (L2.set (o + z) r4) (fun i => o + i * q) (k + 1) (lnF v (fun i => fa (D L (o + i * q))) (af t) m) := by rw [← hz]; exact hT4
        have HT5 := Lib.hid hT5
        clear hT4 hT5 hT DE DS h hL hgr hd hh3 HL4 x0 x1 y0 y1
        have k0 : (0 : Int) ≤ k := by omega
        have k1 : (k : Int) < m := by omega
        generalize (D L2 (o + z)).toNat = Y at *
        go_wp2_with fail
        go_roundw
        case rel => exact ⟨k + 1, _, by omega, by go_num, HT5.out, hL4, h4, DE4, DS4, hgr4⟩
        case measure => simp [intOf]; omega
      · obtain rfl : k = m := by omega
        go_wp2_with fail
        refine bodyPost_ret (v := .tuple #[]) (by simp [results, Try.results61, go_sem]) rfl ?_
        exact ⟨L2, rfl, hL, by rw [HZ.out, if_neg (by decide)]; exact hT, hgr⟩
  · rw [cz] at HZ
    go_enter Try.func61, Try.ntmps61
    go_wp2_with fail
    refine bodyPost_ret (v := .tuple #[]) (by simp [results, Try.results61, go_sem]) rfl ?_
    exact ⟨L, rfl, hL, by rw [HZ.out, if_pos rfl]; exact Tn.start hw _ _, grown_below bz _⟩
end Go.Proofs.Ytbaeabmmokgomaa
