/-
  Layer 8, walks: the reference's entries, rows, columns, sums, steps on vectors. (Written by wip/tools/gen_knr.py.)
-/
import Derived.Test.YtfelmkkkaphkpaaKnB
namespace Go.Proofs.Ytfelmkkkaphkpaa
open Go.RowKit Go.Bw Go.Sort Go.Shelf
set_option linter.unusedVariables false
set_option linter.unusedSimpArgs false

/-- a part of a list -/
theorem FL.cut {w : World} {A : Option Addr} {n c lo k : Nat} {l : List Int} (h : FL w A n c l) (hk : lo + k ≤ n) : FL w (if c = lo then A else A.map (·.add lo)) k (c - lo) ((l.drop lo).take k) := by
  have hn := h.2.1.1
  have hl := h.1
  have e : ((l.drop lo).take k).length = k := by rw [List.length_take, List.length_drop]; omega
  refine ⟨e, ⟨by rw [e]; omega, by have := h.2.1.2.1; omega, fun hp => ?_⟩, fun x hx => h.2.2 x (List.mem_of_mem_drop (List.mem_of_mem_take hx))⟩
  rw [e] at hp
  rw [if_neg (by omega)]
  obtain ⟨ad, rfl, hb, _⟩ := h.at_ (k := lo) (by omega)
  refine ⟨ad.add lo, rfl, by rw [add_block]; exact hb, fun j hj => ?_⟩
  rw [e] at hj
  rw [add_add, D_take, if_pos hj, D_drop]
  exact h.2.1.at_some (by omega)
/-- a list of floats -/
def RowA (w : World) (n : Nat) (l : List Int) (e : Ending) (w' : World) : Prop := ∃ A2 c2, e = .returned (.slice A2 n c2) ∧ FL w' A2 n c2 l ∧ Below w.heap.size w w'
/-- a list of floats of new memory, that is f -/
def NewF (w : World) (n : Nat) (f : Nat → Option Nat) (e : Ending) (w' : World) : Prop := ∃ A2 c2 L, e = .returned (.slice A2 n c2) ∧ Is L n f ∧ OwnF w' w.heap.size A2 c2 L ∧ Below w.heap.size w w'
theorem Is.fl {w : World} {B n c : Nat} {A : Option Addr} {L : List Int} {f : Nat → Option Nat} (h : Is L n f) (ho : OwnF w B A c L) : FL w A n c L := ⟨h.len, ho.nums, h.wd⟩
theorem D_row {l : List Int} {q i k : Nat} (hk : k < q) : fa (D ((l.drop (i * q)).take q) k) = ma l q i k := by unfold ma; rw [D_take, if_pos hk, D_drop]

section
variable {w : World} {m q i j n c : Nat} {A : Option Addr} {l : List Int}
set_option maxRecDepth 100000 in
set_option maxHeartbeats 4000000 in
theorem rAt_any (h : FL w A n c l) (hn : n = m * q) (hm : m ≤ 512) (hq : q ≤ 512) (hi : i < m) (hj : j < q) :
    Calls Try.prog 84 #[mV m q A n c, .int .i64 i, .int .i64 j] w (Ans w (.float .f64 (D l (i * q + j)).toNat)) := by
  have hk := ix_lt hi hj
  rw [← hn] at hk
  have hX2 : i * q ≤ 512 * 512 := Nat.mul_le_mul (by omega) hq
  have hmx := h.max
  obtain ⟨ad, rfl, hb, hc⟩ := h.at_ hk
  obtain ⟨X, hX⟩ : ∃ X, i * q = X := ⟨_, rfl⟩
  have hXi : (i : Int) * (q : Int) = (X : Int) := by exact_mod_cast hX
  rw [hX] at hk hc hX2 ⊢
  obtain ⟨k, hK⟩ : ∃ k, X + j = k := ⟨_, rfl⟩
  have hKi : (X : Int) + (j : Int) = (k : Int) := by exact_mod_cast hK
  rw [hK] at hk hc ⊢
  have DB := Blk.new w [.int .i64 m, .int .i64 q, .slice (some ad) n c] 24
  have hc2 := (World.cell?_alloc_lt w (.cells #[.int .i64 m, .int .i64 q, .slice (some ad) n c] 24) (ad.add k) (by rw [add_block]; exact hb)).trans hc
  have k0 : (0 : Int) ≤ k := by omega
  have k1 : (k : Int) < n := by omega
  have j0 : (0 : Int) ≤ j := by omega
  obtain ⟨c0, c1, c2, f0, f1, f2⟩ := Mbx.cells DB
  clear DB h hc hX hK hn hX2
  go_enter Try.func84, Try.ntmps84
  go_wp2_with fail
  go_ret
  exact ⟨rfl, by go_grown⟩
set_option maxRecDepth 100000 in
set_option maxHeartbeats 4000000 in
theorem rRow_any (h : FL w A n c l) (hn : n = m * q) (hm : m ≤ 512) (hq : q ≤ 512) (hi : i < m) :
    Calls Try.prog 82 #[mV m q A n c, .int .i64 i] w (RowA w q ((l.drop (i * q)).take q)) := by
  have hk : (i + 1) * q ≤ m * q := Nat.mul_le_mul_right q hi
  rw [Nat.add_mul, Nat.one_mul, ← hn] at hk
  have hX2 : i * q ≤ 512 * 512 := Nat.mul_le_mul (by omega) hq
  have hmx := h.max
  have hnc := h.2.1.1
  have hcm := h.2.1.max'
  rw [h.1] at hnc
  have bw := (Below.refl _ w).alloc (Nat.le_refl _) (.cells #[.int .i64 m, .int .i64 q, .slice A n c] 24)
  have hL := (h.on bw).cut (lo := i * q) (k := q) hk
  obtain ⟨X, hX⟩ : ∃ X, i * q = X := ⟨_, rfl⟩
  have hXi : (i : Int) * (q : Int) = (X : Int) := by exact_mod_cast hX
  rw [hX] at hk hX2 hL ⊢
  obtain ⟨Y, hY⟩ : ∃ Y, X + q = Y := ⟨_, rfl⟩
  have hYi : (X : Int) + (q : Int) = (Y : Int) := by exact_mod_cast hY
  have eY : Y - X = q := by omega
  have DB := Blk.new w [.int .i64 m, .int .i64 q, .slice A n c] 24
  have x0 : (0 : Int) ≤ X := by omega
  have x1 : (X : Int) ≤ Y := by omega
  have x2 : (Y : Int) ≤ c := by omega
  obtain ⟨c0, c1, c2, f0, f1, f2⟩ := Mbx.cells DB
  clear DB h hX hn
  by_cases hcX : c = X
  · rw [if_pos hcX] at hL
    subst hcX
    simp only [Nat.sub_self] at hL
    go_enter Try.func82, Try.ntmps82
    go_wp2_with fail
    go_ret
    exact ⟨_, _, rfl, by first | exact hL | simpa using hL, by go_grown⟩
  · rw [if_neg hcX] at hL
    go_enter Try.func82, Try.ntmps82
    go_wp2_with fail
    go_ret
    exact ⟨_, _, rfl, by first | exact hL | simpa using hL, by go_grown⟩
set_option maxRecDepth 100000 in
set_option maxHeartbeats 4000000 in
theorem rBoth_any {b x a y : Nat} (bb : b ≤ 18446744073709551615) (bx : x ≤ 18446744073709551615) (ba : a ≤ 18446744073709551615) (by_ : y ≤ 18446744073709551615) (w : World) :
    Calls Try.prog 81 #[.float .f64 b, .float .f64 x, .float .f64 a, .float .f64 y] w (FA (bothA (af b) (af x) (af a) (af y)) w) := by
  obtain ⟨r1, w1, e1, d1, h1, b1⟩ := run_mul (P := Try.prog) 32 (x := b) (y := x) bb bx w
  obtain ⟨r2, w2, e2, d2, h2, b2⟩ := run_mul (P := Try.prog) 32 (x := a) (y := y) ba by_ w1
  obtain ⟨r3, w3, e3, d3, h3, b3⟩ := run_add (P := Try.prog) 32 (x := r1) (y := r2) b1 b2 w2
  have HK : Hid (af r3 = bothA (af b) (af x) (af a) (af y)) := Lib.hid (by unfold bothA; rw [h3, h1, h2])
  clear h1 h2 h3
  go_enter Try.func81, Try.ntmps81
  go_wp2_with fail
  go_ret
  exact ⟨r3, rfl, HK.out, b3, (d1.trans d2).trans d3⟩
set_option maxRecDepth 100000 in
set_option maxHeartbeats 4000000 in
theorem rDot_any {n2 c2 : Nat} {A2 : Option Addr} {y : List Int} (h : FL w A n c l) (h2 : FL w A2 n2 c2 y) (hle : n ≤ n2) :
    Calls Try.prog 26 #[.slice A n c, .slice A2 n2 c2] w (FA (dotA l y n) w) := by
  have hmx := h.max
  have hmx2 := h2.max
  have b0 : (0 : Nat) ≤ 18446744073709551615 := by omega
  have HH := Lib.hid h
  have HH2 := Lib.hid h2
  clear h h2
  go_enter Try.func26, Try.ntmps26
  go_wp2_with fail
  go_loopw [5, 6] (fun acc i wr => ∃ (k r : Nat), k ≤ n ∧ i = .int .i64 k ∧ acc = .float .f64 r ∧ Hid (af r = dotA l y k) ∧ r ≤ 18446744073709551615 ∧ Dr w wr) (fun _ i _ => n - (intOf i).toNat)
  case atStart => exact ⟨0, 0, Nat.zero_le _, rfl, rfl, Lib.hid (by rw [af_zero]; rfl), b0, Dr.refl w⟩
  case round =>
    obtain ⟨k, r, hk, rfl, rfl, HN, br, dr⟩ := hrel
    by_cases hlt : k < n
    · obtain ⟨ad, hA, hb1, hc1⟩ := (HH.out.on dr.below).at_ hlt
      obtain ⟨ad2, hA2, hb2, hc2⟩ := (HH2.out.on dr.below).at_ (k := k) (by omega)
      obtain ⟨x0, x1⟩ := HH.out.2.2.at_ k
      obtain ⟨y0, y1⟩ := HH2.out.2.2.at_ k
      have bX : (D l k).toNat ≤ 18446744073709551615 := by omega
      have bY : (D y k).toNat ≤ 18446744073709551615 := by omega
      have HX : Hid (af (D l k).toNat = fa (D l k) ∧ af (D y k).toNat = fa (D y k)) := Lib.hid ⟨rfl, rfl⟩
      generalize (D l k).toNat = X at *
      generalize (D y k).toNat = Y at *
      subst hA hA2
      replace hc1 : wr.drew.cell? (ad.add k) = some (.float .f64 X) := hc1
      replace hc2 : wr.drew.cell? (ad2.add k) = some (.float .f64 Y) := hc2
      replace dr : Dr w wr.drew := dr.trans ⟨1, rfl⟩
      have k0 : (0 : Int) ≤ k := by omega
      have k1 : (k : Int) < n := by omega
      have k2 : (k : Int) < n2 := by omega
      clear x0 x1 y0 y1 hb1 hb2
      go_wp2_with fail
      refine wp_region_held_drew (S := fun w9 : World => w9.cell? (ad.add k) = some (.float .f64 X) ∧ w9.cell? (ad2.add k) = some (.float .f64 Y)) (by kernel_rfl) ⟨hc1, hc2⟩ (fun hS => ?_)
      refine wpAnyH_take (i := 0) (v := ?v0_1) rfl (by kernel_rfl) (by kernel_rfl) (by kernel_rfl) (fun _ _ _ h => h) (Or.inl ⟨by rfl, ?hy0_1⟩) (by assumption) ?rest0_1
      case hy0_1 => (intro w9 hSw; clear hSw; go_simp; try with_reducible rfl)
      try simp only [Act.put, List.setIfInBounds_toArray, List.set_cons_zero, List.set_cons_succ, List.getElem_toArray, List.getElem_cons_zero, List.getElem_cons_succ]
      refine wpAnyH_take (i := 1) (v := ?v1_2) rfl (by kernel_rfl) (by kernel_rfl) (by kernel_rfl) (fun _ _ _ h => h) (Or.inl ⟨by rfl, ?hy1_2⟩) (by assumption) ?rest1_2
      case hy1_2 => (intro w9 hSw; clear hSw; go_simp; try with_reducible rfl)
      try simp only [Act.put, List.setIfInBounds_toArray, List.set_cons_zero, List.set_cons_succ, List.getElem_toArray, List.getElem_cons_zero, List.getElem_cons_succ]
      refine wpAnyH_take (i := 2) (v := ?v2_3) rfl (by kernel_rfl) (by kernel_rfl) (by kernel_rfl) (fun _ _ _ h => h) (Or.inl ⟨by rfl, ?hy2_3⟩) (by assumption) ?rest2_3
      case hy2_3 => (intro w9 hSw; clear hSw; go_simp; try with_reducible rfl)
      try simp only [Act.put, List.setIfInBounds_toArray, List.set_cons_zero, List.set_cons_succ, List.getElem_toArray, List.getElem_cons_zero, List.getElem_cons_succ]
      refine wpAnyH_take (i := 3) (v := ?v3_4) rfl (by kernel_rfl) (by kernel_rfl) (by kernel_rfl) (fun _ _ _ h => h) (Or.inl ⟨by rfl, ?hy3_4⟩) (by assumption) ?rest3_4
      case hy3_4 => (intro w9 hSw; obtain ⟨m2, m3⟩ := hSw; go_simp; try with_reducible rfl)
      try simp only [Act.put, List.setIfInBounds_toArray, List.set_cons_zero, List.set_cons_succ, List.getElem_toArray, List.getElem_cons_zero, List.getElem_cons_succ]
      refine wpAnyH_take (i := 4) (v := ?v4_5) rfl (by kernel_rfl) (by kernel_rfl) (by kernel_rfl) (fun _ _ _ h => h) (Or.inl ⟨by rfl, ?hy4_5⟩) (by assumption) ?rest4_5
      case hy4_5 => (intro w9 hSw; clear hSw; go_simp; try with_reducible rfl)
      try simp only [Act.put, List.setIfInBounds_toArray, List.set_cons_zero, List.set_cons_succ, List.getElem_toArray, List.getElem_cons_zero, List.getElem_cons_succ]
      refine wpAnyH_take (i := 5) (v := ?v5_6) rfl (by kernel_rfl) (by kernel_rfl) (by kernel_rfl) (fun _ _ _ h => h) (Or.inl ⟨by rfl, ?hy5_6⟩) (by assumption) ?rest5_6
      case hy5_6 => (intro w9 hSw; clear hSw; go_simp; try with_reducible rfl)
      try simp only [Act.put, List.setIfInBounds_toArray, List.set_cons_zero, List.set_cons_succ, List.getElem_toArray, List.getElem_cons_zero, List.getElem_cons_succ]
      refine wpAnyH_take (i := 6) (v := ?v6_7) rfl (by kernel_rfl) (by kernel_rfl) (by kernel_rfl) (fun _ _ _ h => h) (Or.inl ⟨by rfl, ?hy6_7⟩) (by assumption) ?rest6_7
      case hy6_7 => (intro w9 hSw; clear hSw; go_simp; try with_reducible rfl)
      try simp only [Act.put, List.setIfInBounds_toArray, List.set_cons_zero, List.set_cons_succ, List.getElem_toArray, List.getElem_cons_zero, List.getElem_cons_succ]
      refine wpAnyH_take (i := 7) (v := ?v7_8) rfl (by kernel_rfl) (by kernel_rfl) (by kernel_rfl) (fun _ _ _ h => h) (Or.inl ⟨by rfl, ?hy7_8⟩) (by assumption) ?rest7_8
      case hy7_8 => (intro w9 hSw; obtain ⟨m2, m3⟩ := hSw; go_simp; try with_reducible rfl)
      try simp only [Act.put, List.setIfInBounds_toArray, List.set_cons_zero, List.set_cons_succ, List.getElem_toArray, List.getElem_cons_zero, List.getElem_cons_succ]
      refine wpAnyH_ready (rs := [8]) (by kernel_rfl) (by simp) ?_
      refine AllReadyH.cons rfl (fun K hK => ?_) AllReadyH.nil
      refine step_arith .mul (.inr (.inr (.inl rfl))) rfl _ _ _ _ X Y rfl rfl rfl bX bY ?_
      intro r1 w1 hb1 hr b1 dr1
      refine hK.out _ _ (by obtain ⟨t, rfl⟩ := dr1; exact hS) (fun hH => ?_)
      clear hK K hS
      have hS := hH
      clear hH
      try simp only [Act.put, List.setIfInBounds_toArray, List.set_cons_zero, List.set_cons_succ, List.getElem_toArray, List.getElem_cons_zero, List.getElem_cons_succ]
      refine wpAnyH_take (i := 9) (v := ?v9_9) rfl (by kernel_rfl) (by kernel_rfl) (by kernel_rfl) (fun _ _ _ h => h) (Or.inl ⟨by rfl, ?hy9_9⟩) (by assumption) ?rest9_9
      case hy9_9 => (intro w9 hSw; clear hSw; go_simp; try with_reducible rfl)
      try simp only [Act.put, List.setIfInBounds_toArray, List.set_cons_zero, List.set_cons_succ, List.getElem_toArray, List.getElem_cons_zero, List.getElem_cons_succ]
      refine wpAnyH_done (by kernel_rfl) ?_ _
      have Hr := Lib.hid hr
      clear hr hS hc1 hc2 hb1
      obtain ⟨r2, w2, e2, d2, h2, b2⟩ := run_add (P := Try.prog) 32 (x := r) (y := r1) br b1 w1
      have HK : Hid (af r2 = dotA l y (k + 1)) := Lib.hid (by rw [h2, HN.out, Hr.out, HX.out.1, HX.out.2]; rfl)
      clear h2 Hr HN HX
      go_wp2_with fail
      go_roundw
      case rel => exact ⟨k + 1, r2, by omega, by go_num, rfl, HK, b2, (dr.trans dr1).trans d2⟩
      case measure => simp [intOf]; omega
    · obtain rfl : k = n := by omega
      go_wp2_with fail
      go_ret
      exact ⟨r, rfl, HN.out, br, dr⟩
set_option maxRecDepth 100000 in
set_option maxHeartbeats 4000000 in
theorem rAsum_any (h : FL w A n c l) : Calls Try.prog 25 #[.slice A n c] w (FA (asumA l n) w) := by
  have hmx := h.max
  have b0 : (0 : Nat) ≤ 18446744073709551615 := by omega
  have HH := Lib.hid h
  clear h
  go_enter Try.func25, Try.ntmps25
  go_wp2_with fail
  go_loopw [3, 4] (fun acc i wr => ∃ (k r : Nat), k ≤ n ∧ i = .int .i64 k ∧ acc = .float .f64 r ∧ Hid (af r = asumA l k) ∧ r ≤ 18446744073709551615 ∧ Dr w wr) (fun _ i _ => n - (intOf i).toNat)
  case atStart => exact ⟨0, 0, Nat.zero_le _, rfl, rfl, Lib.hid (by rw [af_zero]; rfl), b0, Dr.refl w⟩
  case round =>
    obtain ⟨k, r, hk, rfl, rfl, HN, br, dr⟩ := hrel
    by_cases hlt : k < n
    · obtain ⟨ad, hA, hb1, hc1⟩ := (HH.out.on dr.below).at_ hlt
      obtain ⟨x0, x1⟩ := HH.out.2.2.at_ k
      have bX : (D l k).toNat ≤ 18446744073709551615 := by omega
      have HX : Hid (af (D l k).toNat = fa (D l k)) := Lib.hid rfl
      generalize (D l k).toNat = X at *
      subst hA
      have k0 : (0 : Int) ≤ k := by omega
      have k1 : (k : Int) < n := by omega
      clear x0 x1 hb1
      go_wp2_with fail
      with_reducible refine (Abs_any bX _).mono ?_
      rintro e w1 ⟨r1, rfl, h1, b1, rfl⟩
      obtain ⟨r2, w2, e2, d2, h2, b2⟩ := run_add (P := Try.prog) 32 (x := r) (y := r1) br b1 wr
      have HK : Hid (af r2 = asumA l (k + 1)) := Lib.hid (by rw [h2, HN.out, h1, HX.out]; rfl)
      clear h2 h1 HN HX
      go_wp2_with fail
      go_roundw
      case rel => exact ⟨k + 1, r2, by omega, by go_num, rfl, HK, b2, dr.trans d2⟩
      case measure => simp [intOf]; omega
    · obtain rfl : k = n := by omega
      go_wp2_with fail
      go_ret
      exact ⟨r, rfl, HN.out, br, dr⟩
theorem amx_pick {k r P : Nat} {p : Int} {X : Option Nat} {L : Int × Option Nat} (hL : (p, af P) = L) (ha : af r = absA X) (b1 : r ≤ 18446744073709551615) (bP : P ≤ 18446744073709551615) {t1 t2 t3 : Bool}
    (e1 : (FloatKind.f64.format.order r r == some .eq) = t1) (e2 : decide (p < 0) = t2) (e3 : (FloatKind.f64.format.order r P == some .gt) = t3) :
    amxS L k X = if (t1 && (t2 || t3)) = true then ((k : Int), af r) else (p, af P) := by
  subst hL
  unfold amxS
  rw [← ha, eq_is b1 b1, gt_is b1 bP, e1, e3]
  show (if (t1 && (decide (p < 0) || t3)) = true then _ else _) = _
  rw [e2]
set_option maxRecDepth 100000 in
set_option maxHeartbeats 4000000 in
theorem rAmax_any (h : FL w A n c l) : Calls Try.prog 24 #[.slice A n c] w (fun e w' => ∃ (p : Int) (P : Nat), e = .returned (.tuple #[.int .i64 p, .float .f64 P]) ∧ (p, af P) = amxA l n ∧ P ≤ 18446744073709551615 ∧ w = w') := by
  have hmx := h.max
  have b0 : (0 : Nat) ≤ 18446744073709551615 := by omega
  have HH := Lib.hid h
  clear h
  go_enter Try.func24, Try.ntmps24
  go_wp2_with fail
  go_loopw [4, 5, 6] (fun pl top i wr => ∃ (k : Nat) (p : Int) (P : Nat), k ≤ n ∧ i = .int .i64 k ∧ pl = .int .i64 p ∧ top = .float .f64 P ∧ Hid ((p, af P) = amxA l k) ∧ (P ≤ 18446744073709551615 ∧ -1 ≤ p ∧ p ≤ 9223372036854775807) ∧ w = wr) (fun _ _ i _ => n - (intOf i).toNat)
  case atStart => exact ⟨0, -1, 0, Nat.zero_le _, rfl, rfl, rfl, Lib.hid (by rw [af_zero]; rfl), ⟨b0, by omega, by omega⟩, rfl⟩
  case round =>
    obtain ⟨k, p, P, hk, rfl, rfl, rfl, HN, ⟨bP, p0, p1⟩, rfl⟩ := hrel
    by_cases hlt : k < n
    · obtain ⟨ad, hA, hb1, hc1⟩ := HH.out.at_ hlt
      obtain ⟨x0, x1⟩ := HH.out.2.2.at_ k
      have bX : (D l k).toNat ≤ 18446744073709551615 := by omega
      have HX : Hid (af (D l k).toNat = fa (D l k)) := Lib.hid rfl
      generalize (D l k).toNat = X at *
      subst hA
      have k0 : (0 : Int) ≤ k := by omega
      have k1 : (k : Int) < n := by omega
      clear x0 x1 hb1
      go_wp2_with fail
      with_reducible refine (Abs_any bX _).mono ?_
      rintro e w1 ⟨r1, rfl, h1, b1, rfl⟩
      rw [HX.out] at h1
      have HP := Lib.hid (fun t1 t2 t3 e1 e2 e3 => amx_pick (k := k) HN.out h1 b1 bP (t1 := t1) (t2 := t2) (t3 := t3) e1 e2 e3)
      clear h1 HX HN
      cases e1 : (FloatKind.f64.format.order r1 r1 == some .eq)
      · have HK : Hid ((p, af P) = amxA l (k + 1)) := Lib.hid (by
          have := HP.out false _ _ e1 rfl rfl
          exact this.symm)
        go_wp2_with fail
        go_roundw
        case rel => exact ⟨k + 1, p, P, by omega, by go_num, rfl, rfl, HK, ⟨bP, p0, p1⟩, (by first | rfl | trivial)⟩
        case measure => simp [intOf]; omega
      · by_cases e2 : p < 0
        · have HK : Hid (((k : Int), af r1) = amxA l (k + 1)) := Lib.hid (by
            have := HP.out true true _ e1 (decide_eq_true e2) rfl
            exact this.symm)
          go_wp2_with fail
          go_roundw
          case rel => exact ⟨k + 1, k, r1, by omega, by go_num, rfl, rfl, HK, ⟨b1, by omega, by omega⟩, (by first | rfl | trivial)⟩
          case measure => simp [intOf]; omega
        · cases e3 : (FloatKind.f64.format.order r1 P == some .gt)
          · have HK : Hid ((p, af P) = amxA l (k + 1)) := Lib.hid (by
              have := HP.out true false false e1 (decide_eq_false e2) e3
              exact this.symm)
            go_wp2_with fail
            go_roundw
            case rel => exact ⟨k + 1, p, P, by omega, by go_num, rfl, rfl, HK, ⟨bP, p0, p1⟩, (by first | rfl | trivial)⟩
            case measure => simp [intOf]; omega
          · have HK : Hid (((k : Int), af r1) = amxA l (k + 1)) := Lib.hid (by
              have := HP.out true false true e1 (decide_eq_false e2) e3
              exact this.symm)
            go_wp2_with fail
            go_roundw
            case rel => exact ⟨k + 1, k, r1, by omega, by go_num, rfl, rfl, HK, ⟨b1, by omega, by omega⟩, (by first | rfl | trivial)⟩
            case measure => simp [intOf]; omega
    · obtain rfl : k = n := by omega
      go_wp2_with fail
      go_ret2
      exact ⟨p, P, rfl, HN.out, bP, rfl⟩
end
end Go.Proofs.Ytfelmkkkaphkpaa
