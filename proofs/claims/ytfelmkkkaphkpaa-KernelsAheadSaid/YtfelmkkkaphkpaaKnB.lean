/-
  Layer 8, walks: sums of what a closure answers, products of lists. (Written by wip/tools/gen_knb.py.)
-/
import Derived.Test.YtfelmkkkaphkpaaKnA
namespace Go.Proofs.Ytfelmkkkaphkpaa
open Go.RowKit Go.Bw Go.Sort Go.Shelf
set_option linter.unusedVariables false
set_option linter.unusedSimpArgs false

theorem Dr.below {w w' : World} (h : Dr w w') : Below w.heap.size w w' := by obtain ⟨n, rfl⟩ := h; exact below_drewN (Below.refl _ w) n
/-- a float that is f, up to NaNs; no more than draws -/
def FA (f : Option Nat) (w : World) (e : Ending) (w' : World) : Prop := ∃ r, e = .returned (.float .f64 r) ∧ af r = f ∧ r ≤ 18446744073709551615 ∧ Dr w w'
/-- a float that is f, up to NaNs; no more than new blocks -/
def FB (f : Option Nat) (w : World) (e : Ending) (w' : World) : Prop := ∃ r, e = .returned (.float .f64 r) ∧ af r = f ∧ r ≤ 18446744073709551615 ∧ Below w.heap.size w w'
theorem FA.fb {f : Option Nat} {w w' : World} {e : Ending} (h : FA f w e w') : FB f w e w' := by
  obtain ⟨r, h1, h2, h3, h4⟩ := h
  exact ⟨r, h1, h2, h3, h4.below⟩
/-- an operation of the machine in a drawn region -/
theorem step_arith {w : World} {ops : Array Oper} {o : Oper} {a : Act} {K : Act → World → Prop} {Q : Exit → Act → World → Prop} {E : Prop} (op : BinOp) (hop : Ari op) (hgd : o.guard = none) (x y : Operand) (t t' : TypeId) (X Y : Nat)
    (ho : o.op = .binOp op t x y t') (hx : a.eval x = .float .f64 X) (hy : a.eval y = .float .f64 Y) (bx : X ≤ 18446744073709551615) (by_ : Y ≤ 18446744073709551615)
    (h : ∀ r w', Below w.heap.size w w' → af r = aop op (af X) (af Y) → r ≤ 18446744073709551615 → Dr w w' → K (a.put o.dst (.float .f64 r)) w') :
    if Region.wanted o (yielded ops a.tmps) = true then Oper.wp Try.prog o a w K Q else E := by
  have hw : Region.wanted o (yielded ops a.tmps) = true := by simp [Region.wanted, hgd]
  rw [if_pos hw]
  obtain ⟨r, w', hrun, hd, hr, br⟩ := run_op (P := Try.prog) op t bx by_ hop w
  have hq : (Go.eqGuard op t x y (Value.float .f64 X) (Value.float .f64 Y)).run Try.prog w = Result.ok () w := by rcases hop with rfl | rfl | rfl | rfl <;> rfl
  unfold Oper.wp execOp
  simp only [ho, hx, hy, Sem.run_bind, Sem.run_pure, Result.andThen_ok, hq, hrun]
  exact h r w' hd.below hr br hd

theorem run_float64frombits (x : Int) (w : World) : (callFunc 99 #[.int .u64 x]).run Try.prog w = .ok (.value (.float .f64 x.toNat)) w := by
  rw [run_callFunc_extern (e := Extern.MathFloatBits.float64frombits) Try.func99 (by kernel_rfl) (by kernel_rfl) (by kernel_rfl) (by kernel_rfl)]; rfl
theorem Abs_any {x : Nat} (hx : x ≤ 18446744073709551615) (w : World) : Calls Try.prog 68 #[.float .f64 x] w (fun e w' => ∃ r, e = .returned (.float .f64 r) ∧ af r = absA (af x) ∧ r ≤ 18446744073709551615 ∧ w = w') := by
  have hb := run_float64bits x
  have hf := run_float64frombits (x % 9223372036854775808 : Nat)
  rw [Int.toNat_natCast] at hf
  have e1 : bits .andNot .u64 (x : Int) 9223372036854775808 = ((x % 9223372036854775808 : Nat) : Int) := by
    rw [andnot_sign _ (by omega) (by omega)]; unfold mag; omega
  have H9 := Lib.hid (abs_is x)
  have b9 : x % 9223372036854775808 ≤ 18446744073709551615 := by omega
  generalize x % 9223372036854775808 = y at *
  go_enter Try.func68, Try.ntmps68
  go_wp2_with fail
  go_ret
  exact ⟨_, rfl, H9.out, b9, rfl⟩

set_option maxRecDepth 100000 in
set_option maxHeartbeats 4000000 in
theorem sum_dot {w : World} (p q : Nat) (f : Nat → Option Nat) (n : Nat) (hn : n ≤ 9223372036854775807) (HC : Hid (∀ W, Dr w W → ∀ k, k < n → Calls Try.prog 98 #[.int .i64 k, .pointer (some ⟨p, 0, none⟩), .pointer (some ⟨q, 0, none⟩)] W (FA (f k) W))) :
    Calls Try.prog 66 #[.int .i64 n, .func (.func 98) #[] #[.pointer (some ⟨p, 0, none⟩), .pointer (some ⟨q, 0, none⟩)]] w (FA (sumA f n) w) := by
  have b0 : (0 : Nat) ≤ 18446744073709551615 := by omega
  go_enter Try.func66, Try.ntmps66
  go_wp2_with fail
  go_loopw [5, 8] (fun acc i wr => ∃ (k r : Nat), k ≤ n ∧ i = .int .i64 k ∧ acc = .float .f64 r ∧ Hid (af r = sumA f k) ∧ r ≤ 18446744073709551615 ∧ Dr w wr) (fun _ i _ => n - (intOf i).toNat)
  case atStart => exact ⟨0, 0, Nat.zero_le _, rfl, rfl, Lib.hid (by rw [af_zero]; rfl), b0, Dr.refl w⟩
  case round =>
    obtain ⟨k, r, hk, rfl, rfl, HN, br, dr⟩ := hrel
    by_cases hlt : k < n
    · have pc := HC.out wr dr k hlt
      go_wp2_with fail
      with_reducible refine pc.mono ?_
      rintro e w1 ⟨r1, rfl, h1, b1, d1⟩
      have H1 := Lib.hid h1
      clear h1 pc
      obtain ⟨r2, w2, e2, d2, h2, b2⟩ := run_add (P := Try.prog) 32 (x := r) (y := r1) br b1 w1
      have HK : Hid (af r2 = sumA f (k + 1)) := Lib.hid (by rw [h2, HN.out, H1.out]; rfl)
      clear h2 H1 HN
      go_wp2_with fail
      go_roundw
      case rel => exact ⟨k + 1, r2, by omega, by go_num, rfl, HK, b2, (dr.trans d1).trans d2⟩
      case measure => simp [intOf]; omega
    · obtain rfl : k = n := by omega
      go_wp2_with fail
      go_ret
      exact ⟨r, rfl, HN.out, br, dr⟩

set_option maxRecDepth 100000 in
set_option maxHeartbeats 4000000 in
theorem sum_asum {w : World} (p : Nat) (f : Nat → Option Nat) (n : Nat) (hn : n ≤ 9223372036854775807) (HC : Hid (∀ W, Dr w W → ∀ k, k < n → Calls Try.prog 67 #[.int .i64 k, .pointer (some ⟨p, 0, none⟩)] W (FA (f k) W))) :
    Calls Try.prog 66 #[.int .i64 n, .func (.func 67) #[] #[.pointer (some ⟨p, 0, none⟩)]] w (FA (sumA f n) w) := by
  have b0 : (0 : Nat) ≤ 18446744073709551615 := by omega
  go_enter Try.func66, Try.ntmps66
  go_wp2_with fail
  go_loopw [5, 8] (fun acc i wr => ∃ (k r : Nat), k ≤ n ∧ i = .int .i64 k ∧ acc = .float .f64 r ∧ Hid (af r = sumA f k) ∧ r ≤ 18446744073709551615 ∧ Dr w wr) (fun _ i _ => n - (intOf i).toNat)
  case atStart => exact ⟨0, 0, Nat.zero_le _, rfl, rfl, Lib.hid (by rw [af_zero]; rfl), b0, Dr.refl w⟩
  case round =>
    obtain ⟨k, r, hk, rfl, rfl, HN, br, dr⟩ := hrel
    by_cases hlt : k < n
    · have pc := HC.out wr dr k hlt
      go_wp2_with fail
      with_reducible refine pc.mono ?_
      rintro e w1 ⟨r1, rfl, h1, b1, d1⟩
      have H1 := Lib.hid h1
      clear h1 pc
      obtain ⟨r2, w2, e2, d2, h2, b2⟩ := run_add (P := Try.prog) 32 (x := r) (y := r1) br b1 w1
      have HK : Hid (af r2 = sumA f (k + 1)) := Lib.hid (by rw [h2, HN.out, H1.out]; rfl)
      clear h2 H1 HN
      go_wp2_with fail
      go_roundw
      case rel => exact ⟨k + 1, r2, by omega, by go_num, rfl, HK, b2, (dr.trans d1).trans d2⟩
      case measure => simp [intOf]; omega
    · obtain rfl : k = n := by omega
      go_wp2_with fail
      go_ret
      exact ⟨r, rfl, HN.out, br, dr⟩

set_option maxRecDepth 100000 in
set_option maxHeartbeats 4000000 in
theorem dot1_any {w : World} {p q k n n2 c c2 : Nat} {A A2 : Option Addr} {x y : List Int} (h : FL w A n c x) (h2 : FL w A2 n2 c2 y) (hp : Blk w p [.slice A n c]) (hq : Blk w q [.slice A2 n2 c2]) (hk : k < n) (hk2 : k < n2) :
    Calls Try.prog 98 #[.int .i64 k, .pointer (some ⟨p, 0, none⟩), .pointer (some ⟨q, 0, none⟩)] w (FA (aop .mul (fa (D x k)) (fa (D y k))) w) := by
  have hmx := h.max
  have hmx2 := h2.max
  obtain ⟨ad, rfl, hb1, hc1⟩ := h.at_ hk
  obtain ⟨ad2, rfl, hb2, hc2⟩ := h2.at_ hk2
  obtain ⟨x0, x1⟩ := h.2.2.at_ k
  obtain ⟨y0, y1⟩ := h2.2.2.at_ k
  unfold fa
  have bX : (D x k).toNat ≤ 18446744073709551615 := by omega
  have bY : (D y k).toNat ≤ 18446744073709551615 := by omega
  generalize (D x k).toNat = X at *
  generalize (D y k).toNat = Y at *
  have d0 : Dr w w.drew := ⟨1, rfl⟩
  replace hp := hp.drew
  replace hq := hq.drew
  replace hc1 : w.drew.cell? (ad.add k) = some (.float .f64 X) := hc1
  replace hc2 : w.drew.cell? (ad2.add k) = some (.float .f64 Y) := hc2
  have k0 : (0 : Int) ≤ k := by omega
  have k1 : (k : Int) < n := by omega
  have k2 : (k : Int) < n2 := by omega
  clear h h2 x0 x1 y0 y1
  go_enter Try.func98, Try.ntmps98
  go_wp2_with fail
  refine wp_region_held_drew (S := fun w9 : World => w9.cell? ⟨p, 0, none⟩ = some (.slice (some ad) n c) ∧ w9.cell? ⟨q, 0, none⟩ = some (.slice (some ad2) n2 c2) ∧ w9.cell? (ad.add k) = some (.float .f64 X) ∧ w9.cell? (ad2.add k) = some (.float .f64 Y)) (by kernel_rfl) ⟨Blk.cell hp 0 rfl, Blk.cell hq 0 rfl, hc1, hc2⟩ (fun hS => ?_)
  refine wpAnyH_take (i := 0) (v := ?v0_1) rfl (by kernel_rfl) (by kernel_rfl) (by kernel_rfl) (fun _ _ _ h => h) (Or.inl ⟨by rfl, ?hy0_1⟩) (by assumption) ?rest0_1
  case hy0_1 => (intro w9 hSw; obtain ⟨m0, m1, m2, m3⟩ := hSw; go_simp; try with_reducible rfl)
  try simp only [Act.put, List.setIfInBounds_toArray, List.set_cons_zero, List.set_cons_succ, List.getElem_toArray, List.getElem_cons_zero, List.getElem_cons_succ]
  refine wpAnyH_take (i := 1) (v := ?v1_2) rfl (by kernel_rfl) (by kernel_rfl) (by kernel_rfl) (fun _ _ _ h => h) (Or.inl ⟨by rfl, ?hy1_2⟩) (by assumption) ?rest1_2
  case hy1_2 => (intro w9 hSw; clear hSw; go_simp; try with_reducible rfl)
  try simp only [Act.put, List.setIfInBounds_toArray, List.set_cons_zero, List.set_cons_succ, List.getElem_toArray, List.getElem_cons_zero, List.getElem_cons_succ]
  refine wpAnyH_take (i := 2) (v := ?v2_3) rfl (by kernel_rfl) (by kernel_rfl) (by kernel_rfl) (fun _ _ _ h => h) (Or.inl ⟨by rfl, ?hy2_3⟩) (by assumption) ?rest2_3
  case hy2_3 => (intro w9 hSw; clear hSw; go_simp; try with_reducible rfl)
  try simp only [Act.put, List.setIfInBounds_toArray, List.set_cons_zero, List.set_cons_succ, List.getElem_toArray, List.getElem_cons_zero, List.getElem_cons_succ]
  refine wpAnyH_take (i := 3) (v := ?v3_4) rfl (by kernel_rfl) (by kernel_rfl) (by kernel_rfl) (fun _ _ _ h => h) (Or.inl ⟨by rfl, ?hy3_4⟩) (by assumption) ?rest3_4
  case hy3_4 => (intro w9 hSw; obtain ⟨m0, m1, m2, m3⟩ := hSw; go_simp; try with_reducible rfl)
  try simp only [Act.put, List.setIfInBounds_toArray, List.set_cons_zero, List.set_cons_succ, List.getElem_toArray, List.getElem_cons_zero, List.getElem_cons_succ]
  refine wpAnyH_take (i := 4) (v := ?v4_5) rfl (by kernel_rfl) (by kernel_rfl) (by kernel_rfl) (fun _ _ _ h => h) (Or.inl ⟨by rfl, ?hy4_5⟩) (by assumption) ?rest4_5
  case hy4_5 => (intro w9 hSw; obtain ⟨m0, m1, m2, m3⟩ := hSw; go_simp; try with_reducible rfl)
  try simp only [Act.put, List.setIfInBounds_toArray, List.set_cons_zero, List.set_cons_succ, List.getElem_toArray, List.getElem_cons_zero, List.getElem_cons_succ]
  refine wpAnyH_take (i := 5) (v := ?v5_6) rfl (by kernel_rfl) (by kernel_rfl) (by kernel_rfl) (fun _ _ _ h => h) (Or.inl ⟨by rfl, ?hy5_6⟩) (by assumption) ?rest5_6
  case hy5_6 => (intro w9 hSw; clear hSw; go_simp; try with_reducible rfl)
  try simp only [Act.put, List.setIfInBounds_toArray, List.set_cons_zero, List.set_cons_succ, List.getElem_toArray, List.getElem_cons_zero, List.getElem_cons_succ]
  refine wpAnyH_take (i := 6) (v := ?v6_7) rfl (by kernel_rfl) (by kernel_rfl) (by kernel_rfl) (fun _ _ _ h => h) (Or.inl ⟨by rfl, ?hy6_7⟩) (by assumption) ?rest6_7
  case hy6_7 => (intro w9 hSw; clear hSw; go_simp; try with_reducible rfl)
  try simp only [Act.put, List.setIfInBounds_toArray, List.set_cons_zero, List.set_cons_succ, List.getElem_toArray, List.getElem_cons_zero, List.getElem_cons_succ]
  refine wpAnyH_take (i := 7) (v := ?v7_8) rfl (by kernel_rfl) (by kernel_rfl) (by kernel_rfl) (fun _ _ _ h => h) (Or.inl ⟨by rfl, ?hy7_8⟩) (by assumption) ?rest7_8
  case hy7_8 => (intro w9 hSw; obtain ⟨m0, m1, m2, m3⟩ := hSw; go_simp; try with_reducible rfl)
  try simp only [Act.put, List.setIfInBounds_toArray, List.set_cons_zero, List.set_cons_succ, List.getElem_toArray, List.getElem_cons_zero, List.getElem_cons_succ]
  refine wpAnyH_ready (rs := [8]) (by kernel_rfl) (by simp) ?_
  refine AllReadyH.cons rfl (fun K hK => ?_) AllReadyH.nil
  refine step_arith .mul (.inr (.inr (.inl rfl))) rfl _ _ _ _ X Y rfl rfl rfl bX bY ?_
  intro r w1 hb1 hr br dr
  refine hK.out _ _ (by obtain ⟨t, rfl⟩ := dr; exact hS) (fun hH => ?_)
  clear hK K hS
  have hS := hH
  clear hH
  try simp only [Act.put, List.setIfInBounds_toArray, List.set_cons_zero, List.set_cons_succ, List.getElem_toArray, List.getElem_cons_zero, List.getElem_cons_succ]
  refine wpAnyH_take (i := 9) (v := ?v9_9) rfl (by kernel_rfl) (by kernel_rfl) (by kernel_rfl) (fun _ _ _ h => h) (Or.inl ⟨by rfl, ?hy9_9⟩) (by assumption) ?rest9_9
  case hy9_9 => (intro w9 hSw; clear hSw; go_simp; try with_reducible rfl)
  try simp only [Act.put, List.setIfInBounds_toArray, List.set_cons_zero, List.set_cons_succ, List.getElem_toArray, List.getElem_cons_zero, List.getElem_cons_succ]
  refine wpAnyH_done (by kernel_rfl) ?_ _
  go_wp2_with fail
  go_ret
  exact ⟨r, rfl, hr, br, d0.trans dr⟩

set_option maxRecDepth 100000 in
set_option maxHeartbeats 4000000 in
theorem asum1_any {w : World} {p k n c : Nat} {A : Option Addr} {x : List Int} (h : FL w A n c x) (hp : Blk w p [.slice A n c]) (hk : k < n) :
    Calls Try.prog 67 #[.int .i64 k, .pointer (some ⟨p, 0, none⟩)] w (FA (absA (fa (D x k))) w) := by
  have hmx := h.max
  obtain ⟨ad, rfl, hb1, hc1⟩ := h.at_ hk
  obtain ⟨x0, x1⟩ := h.2.2.at_ k
  unfold fa
  have bX : (D x k).toNat ≤ 18446744073709551615 := by omega
  generalize (D x k).toNat = X at *
  have m0 := Blk.cell hp 0 rfl
  have k0 : (0 : Int) ≤ k := by omega
  have k1 : (k : Int) < n := by omega
  clear h x0 x1
  go_enter Try.func67, Try.ntmps67
  go_wp2_with fail
  with_reducible refine (Abs_any bX _).mono ?_
  rintro e w1 ⟨r, rfl, hr, br, rfl⟩
  go_wp2_with fail
  go_ret
  exact ⟨r, rfl, hr, br, Dr.refl _⟩

set_option maxRecDepth 100000 in
set_option maxHeartbeats 4000000 in
/-- the sum of the products of two lists, of which the second is not the shorter one -/
theorem dot_any {w : World} {n n2 c c2 : Nat} {A A2 : Option Addr} {x y : List Int} (h : FL w A n c x) (h2 : FL w A2 n2 c2 y) (hn : n ≤ n2) :
    Calls Try.prog 63 #[.slice A n c, .slice A2 n2 c2] w (FB (dotA x y n) w) := by
  have hmx := h.max
  have DP := (Blk.new w [.slice A n c] 22).alloc (.cells #[.slice A2 n2 c2] 22)
  have DQ := Blk.new (w.alloc (.cells #[.slice A n c] 22)) [.slice A2 n2 c2] 22
  rw [World.size_alloc] at DQ
  have bz := ((Below.refl _ w).alloc (Nat.le_refl _) (.cells #[.slice A n c] 22)).alloc (by simp) (.cells #[.slice A2 n2 c2] 22)
  replace h := h.on bz
  replace h2 := h2.on bz
  have HC : Hid (∀ W, Dr ((w.alloc (.cells #[.slice A n c] 22)).alloc (.cells #[.slice A2 n2 c2] 22)) W → ∀ k, k < n → Calls Try.prog 98 #[.int .i64 k, .pointer (some ⟨w.heap.size, 0, none⟩), .pointer (some ⟨w.heap.size + 1, 0, none⟩)] W (FA (aop .mul (fa (D x k)) (fa (D y k))) W)) := Lib.hid (fun W hd k hk => dot1_any (h.on hd.below) (h2.on hd.below) (DP.on hd.below) (DQ.on hd.below) hk (by omega))
  have ps := sum_dot w.heap.size (w.heap.size + 1) _ n hmx HC
  have c0 := Blk.cell DP 0 rfl
  clear h h2 DP DQ HC
  go_enter Try.func63, Try.ntmps63
  go_wp2_with fail
  with_reducible refine ps.mono ?_
  rintro e w1 ⟨r, rfl, hr, br, dr⟩
  go_wp2_with fail
  go_ret
  exact ⟨r, rfl, hr, br, bz.trans (dr.below.mono bz.size)⟩
end Go.Proofs.Ytfelmkkkaphkpaa
