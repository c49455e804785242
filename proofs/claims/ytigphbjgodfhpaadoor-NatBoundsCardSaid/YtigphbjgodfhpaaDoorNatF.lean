/-
  Layer 2, walks, part five: products, digit by digit.
-/
import Derived.Test.YtigphbjgodfhpaaDoorNatE
namespace Go.Proofs.YtigphbjgodfhpaaDoor
open Go.RowKit
set_option linter.unusedVariables false

theorem mul_ex (x y : Int) (hx : 0 ≤ x) (hx1 : x < 18446744073709551616) (hy : 0 ≤ y) (hy1 : y < 18446744073709551616) :
    ∃ hi lo : Int, 0 ≤ hi ∧ hi ≤ 18446744073709551614 ∧ 0 ≤ lo ∧ lo < 18446744073709551616 ∧ x * y = hi * 18446744073709551616 + lo ∧
      ∀ w, Calls Tryd.prog 90 #[.int .u64 x, .int .u64 y] w fun e w' => e = .returned (.tuple #[.int .u64 hi, .int .u64 lo]) ∧ w = w' := by
  obtain ⟨x, rfl⟩ := Int.eq_ofNat_of_zero_le hx
  obtain ⟨y, rfl⟩ := Int.eq_ofNat_of_zero_le hy
  have hb : (x : Int) * y ≤ 18446744073709551615 * 18446744073709551615 := Int.mul_le_mul (by omega) (by omega) (by omega) (by omega)
  have hb0 : (0 : Int) ≤ (x : Int) * y := Int.mul_nonneg (by omega) (by omega)
  have e : ((x * y : Nat) : Int) = (x : Int) * y := by push_cast; rfl
  refine ⟨((x * y / 18446744073709551616 : Nat) : Int), ((x * y % 18446744073709551616 : Nat) : Int), by omega, by omega, by omega, by omega, by omega, fun w => ?_⟩
  exact (Tryd.bits_Mul64 x y (by omega) (by omega) w).mono fun _ _ ⟨a, b⟩ => ⟨a, b.symm⟩

/-- a step of a product that is added: the digit, and the carry into its cell -/
def TimesStep (x y f c : Int) (b : Nat) (w : World) (e : Ending) (w' : World) : Prop :=
  ∃ z d : Int, e = .returned (.int .u64 z) ∧ 0 ≤ z ∧ z < 18446744073709551616 ∧ 0 ≤ d ∧ d < 18446744073709551616 ∧ Hid (x + y * f + c = z + d * 18446744073709551616) ∧ w.setCell ⟨b, 0, none⟩ (.int .u64 d) = w'

set_option maxHeartbeats 1000000 in
theorem timesstep_any (x y f c : Int) (a b : Nat) (w : World) (ha : Row w a [f]) (h : Row w b [c]) (hx : 0 ≤ x) (hx1 : x < 18446744073709551616) (hy : 0 ≤ y) (hy1 : y < 18446744073709551616)
    (hf : 0 ≤ f) (hf1 : f < 18446744073709551616) (hc : 0 ≤ c) (hc1 : c < 18446744073709551616) :
    Calls Tryd.prog 93 #[.int .u64 x, .int .u64 y, .pointer (some ⟨a, 0, none⟩), .pointer (some ⟨b, 0, none⟩)] w (TimesStep x y f c b w) := by
  have h0 := h.cell (k := 0) (by simp)
  have a0 := ha.cell (k := 0) (by simp)
  have hfz := h.frozen 0
  simp only [D_cons_zero] at h0 a0
  obtain ⟨hi, lo, m0, m1, m2, m3, me, HM⟩ := mul_ex y f hy hy1 hf hf1
  obtain ⟨z1, o1, z10, z11, o10, o11, e1, r1⟩ := run_add lo x 0 w m2 m3 hx hx1 (by omega) (by omega)
  obtain ⟨z2, o2, z20, z21, o20, o21, e2, r2⟩ := run_add z1 c 0 w z10 z11 hc hc1 (by omega) (by omega)
  have hb : y * f ≤ 18446744073709551615 * 18446744073709551615 := Int.mul_le_mul (by omega) (by omega) (by omega) (by omega)
  have hbd : hi + o1 + o2 ≤ 18446744073709551615 := by omega
  have HE : Hid (x + y * f + c = z2 + (hi + o1 + o2) * 18446744073709551616) := by show _ = _; omega
  clear me e1 e2 hb
  go_enter Tryd.func93, Tryd.ntmps93
  go_wp2_with (go_at_call 90; ((with_reducible refine (HM _).mono ?_); rintro e w' ⟨rfl, rfl⟩))
  go_ret
  exact ⟨z2, hi + o1 + o2, rfl, z20, z21, by omega, by omega, HE, rfl⟩
/-- the round of a product that is added: the whole block's list, the carry -/
def TimesInv (C0 m : List Int) (f : Int) (o : Nat) (g a b : Nat) (w0 : World) (k : Nat) (w : World) : Prop :=
  ∃ (C : List Int) (d : Int), C.length = C0.length ∧ Lim 18446744073709551616 C ∧ 0 ≤ d ∧ d < 18446744073709551616 ∧ Row w g C ∧ Row w a [f] ∧ Row w b [d] ∧ w0.grownBy w (some g) ∧
    (∀ i, (i < o ∨ o + k ≤ i) → D C i = D C0 i) ∧
    S 18446744073709551616 (fun i => D C (o + i)) k + d * 18446744073709551616 ^ k = S 18446744073709551616 (fun i => D C0 (o + i)) k + S 18446744073709551616 (D m) k * f

theorem only_alloc {a w : World} {row : Option Nat} (h : a.grownBy w row) (o : Obj) : a.grownBy (w.alloc o) row :=
  ⟨h.os, h.tape, h.output, Nat.le_trans h.size (by simp), fun i hi hne => (Below.heap_alloc w o i (Nat.lt_of_lt_of_le hi h.size)).trans (h.block i hi hne)⟩
theorem only_setCell {a w : World} {g : Nat} (h : a.grownBy w (some g)) {p : Addr} (hp : p.block = g ∨ a.heap.size ≤ p.block) (u : Value) : a.grownBy (w.setCell p u) (some g) :=
  ⟨h.os, h.tape, h.output, by simpa [World.setCell] using h.size, fun i hi hne => (Below.heap_setCell w p u i (by
    rintro rfl
    rcases hp with hp | hp
    · exact hne (by rw [hp])
    · omega)).trans (h.block i hi hne)⟩
theorem only_drew {a w : World} {row : Option Nat} (h : a.grownBy w row) : a.grownBy w.drew row := ⟨h.os, h.tape, h.output, h.size, h.block⟩

/-- what is behind a product that was added -/
def TimesPost (C0 m : List Int) (f : Int) (o : Nat) (g : Nat) (w0 : World) (e : Ending) (w : World) : Prop :=
  ∃ (C : List Int) (d : Int), e = .returned (.int .u64 d) ∧ C.length = C0.length ∧ Lim 18446744073709551616 C ∧ 0 ≤ d ∧ d < 18446744073709551616 ∧ Row w g C ∧ w0.grownBy w (some g) ∧
    Hid (∀ i, (i < o ∨ o + m.length ≤ i) → D C i = D C0 i) ∧
    Hid (S 18446744073709551616 (fun i => D C (o + i)) m.length + d * 18446744073709551616 ^ m.length = S 18446744073709551616 (fun i => D C0 (o + i)) m.length + val 18446744073709551616 m * f)

theorem timesinv_step {C0 m C : List Int} {f d z d' : Int} {o g k : Nat} {w0 w : World} (hC : C.length = C0.length) (hCl : Lim 18446744073709551616 C) (hr : Row w g C) (ha : Row w w0.heap.size [f]) (hc : Row w (w0.heap.size + 1) [d]) (hg : w0.grownBy w (some g))
    (ho : ∀ i, (i < o ∨ o + k ≤ i) → D C i = D C0 i)
    (he : S 18446744073709551616 (fun i => D C (o + i)) k + d * 18446744073709551616 ^ k = S 18446744073709551616 (fun i => D C0 (o + i)) k + S 18446744073709551616 (D m) k * f) (hk : o + k < C0.length) (hg0 : g < w0.heap.size)
    (hz0 : 0 ≤ z) (hz1 : z < 18446744073709551616) (hd0 : 0 ≤ d') (hd1 : d' < 18446744073709551616) (he' : D C (o + k) + D m k * f + d = z + d' * 18446744073709551616) :
    TimesInv C0 m f o g w0.heap.size (w0.heap.size + 1) w0 (k + 1) ((w.setCell ⟨w0.heap.size + 1, 0, none⟩ (.int .u64 d')).setCell ⟨g, o + k, none⟩ (.int .u64 z)) := by
  refine ⟨C.set (o + k) z, d', by simp [hC], hCl.set _ hz0 hz1, hd0, hd1, (hr.far (by simp; omega) _).set_ _ z, (ha.far (by simp) _).far (by simp; omega) _, (hc.set_ 0 d').far (by simp; omega) _, only_setCell (p := ⟨g, o + k, none⟩) (only_setCell (p := ⟨w0.heap.size + 1, 0, none⟩) hg (.inr (by simp)) _) (.inl rfl) _, fun i hi => ?_, ?_⟩
  · rw [D_set z i (by omega), if_neg (by omega)]; exact ho i (by omega)
  · rw [S_succ, S_succ, S_succ, S_congr (g := fun i => D C (o + i)) (fun i hi => by rw [D_set z (o + i) (by omega), if_neg (by omega)]), D_set z (o + k) (by omega), if_pos rfl, Int.pow_succ]
    have := ho (o + k) (by omega)
    rw [this] at he'
    grind
theorem TimesInv.drew {C0 m : List Int} {f : Int} {o g a b k : Nat} {w0 w : World} (h : TimesInv C0 m f o g a b w0 k w) : TimesInv C0 m f o g a b w0 k w.drew := by
  obtain ⟨C, d, h1, h2, h3, h4, h5, h6, h7, h8, h9⟩ := h
  exact ⟨C, d, h1, h2, h3, h4, h5.drew, h6.drew, h7.drew, only_drew h8, h9⟩

set_option maxHeartbeats 4000000 in
theorem addtimes_any (C0 : List Int) (g o cc : Nat) (A2 : Option Addr) (c2 : Nat) (m : List Int) (f : Int) (w : World) (hr0 : Row w g C0) (hC0 : Lim 18446744073709551616 C0) (ho : o + m.length ≤ C0.length) (hcc : m.length ≤ cc) (hco : C0.length ≤ 4000000)
    (h2 : Nums w g A2 c2 m) (hl2 : Lim 18446744073709551616 m) (hf : 0 ≤ f) (hf1 : f < 18446744073709551616) :
    Calls Tryd.prog 79 #[.slice (some ⟨g, o, none⟩) m.length cc, .slice A2 m.length c2, .int .u64 f] w (TimesPost C0 m f o g w) := by
  have hg0 := hr0.lt
  have hml : m.length ≤ 4000000 := by omega
  go_enter Tryd.func79, Tryd.ntmps79
  go_wp2_with fail
  go_loopw [13] (fun i wr => ∃ k : Nat, k ≤ m.length ∧ i = .int .i64 k ∧ TimesInv C0 m f o g w.heap.size (w.heap.size + 1) w k wr) (fun i _ => m.length - (intOf i).toNat)
  case atStart =>
    refine ⟨0, by omega, rfl, C0, 0, rfl, hC0, by omega, by omega, (hr0.alloc _).alloc _, (Row.one w f).alloc _, ?_, only_alloc (only_alloc (World.grownBy.refl w _) _) _, fun _ _ => rfl, by simp [S]⟩
    have := Row.one (w.alloc (.cells #[Value.int .u64 f] 39)) 0
    simpa using this
  case round =>
    obtain ⟨k, hk, rfl, C, d, hC, hCl, hd0, hd1, hr, ha, hc, hg, hout, he⟩ := hrel
    have HC := Lib.hid hC
    have HE := Lib.hid he
    have HO := Lib.hid hout
    clear hC he hout
    by_cases hkn : k < m.length
    · have hx := D_lim (b := 18446744073709551616) (by omega) hCl (o + k)
      have hy := D_lim (b := 18446744073709551616) (by omega) hl2 k
      have c0 := hr.cell (k := o + k) (by rw [HC.out]; omega)
      have f0 := hr.frozen (o + k)
      have hnums : Nums wr g A2 c2 m := h2.grown hg (by omega) (fun j e => by injection e; omega)
      obtain ⟨ad, rfl, hadb, c1⟩ := hnums.at_ hkn
      have i0 : (0 : Int) ≤ (k : Int) := by omega
      have i1 : (k : Int) < m.length := by omega
      go_wp2_with fail
      go_region_with (go_at_call 93; ((with_reducible refine (timesstep_any (D C (o + k)) (D m k) f d _ _ _ ha.drew hc.drew hx.1 hx.2 hy.1 hy.2 hf hf1 hd0 hd1).mono ?_); rintro e w' ⟨z, d', rfl, hz0, hz1, hd0', hd1', he', rfl⟩))
      all_goals
        go_wp2_with fail
        go_roundw
        case rel => exact ⟨k + 1, by omega, by go_num, (timesinv_step HC.out hCl hr ha hc hg HO.out HE.out (by omega) hg0 hz0 hz1 hd0' hd1' he'.out).drew⟩
        case measure => simp [intOf]; omega
    · obtain rfl : k = m.length := by omega
      have h0 := hc.cell (k := 0) (by simp)
      simp only [D_cons_zero] at h0
      go_wp2_with fail
      go_ret
      exact ⟨C, d, rfl, HC.out, hCl, hd0, hd1, hr, hg, HO, HE⟩
end Go.Proofs.YtigphbjgodfhpaaDoor
