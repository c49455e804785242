/-
  Layer 2, walks, part six: products.
-/
import Derived.Test.YtigphbjgodfhpaaDoorNatF
namespace Go.Proofs.YtigphbjgodfhpaaDoor
open Go.RowKit
set_option linter.unusedVariables false

/-- 'c[lo : lo + m]' -/
theorem run_cut (g o n cap lo m : Nat) (hi : Int) (hhi : hi = (lo : Int) + m) (hc : lo + m ≤ cap) (hlt : lo < cap) (W : World) :
    (Instr.slice 22 (.slice (some ⟨g, o, none⟩) n cap) (some (.int .i64 (lo : Int))) (some (.int .i64 hi)) none).run Tryd.prog W = .ok (.slice (some ⟨g, o + lo, none⟩) m (cap - lo)) W := by
  obtain ⟨i, hi', hz0, hz1, hz2⟩ := info_parts info39
  have he : Tryd.prog.elem 22 = 39 := by kernel_rfl
  have hs : (sizeOf 39).run Tryd.prog W = .ok 1 W := by simp [sizeOf, typeInfo, hi', hz1]
  rw [Go.run_slice_lh W 22 _ _ _ (by rw [he]; exact Tryd.underlying22) .i64 .i64 _ _ (by omega) (by omega) (by omega)]
  rw [he, hs]
  have e1 : hi.toNat - lo = m := by omega
  simp only [Result.andThen, sliced, Int.toNat_natCast, Nat.mul_one, e1]
  rw [if_neg (by omega)]
  simp only [Option.map_some, add_at]

theorem only_undrew {a w : World} {row : Option Nat} (h : a.drew.grownBy w row) : a.grownBy w row := ⟨h.os, h.tape, h.output, h.size, h.block⟩

/-- the product's round -/
def ProdInv (l m : List Int) (g : Nat) (w0 : World) (k : Nat) (w : World) : Prop :=
  ∃ C : List Int, C.length = l.length + m.length ∧ Lim 18446744073709551616 C ∧ Row w g C ∧ Below w0.heap.size w0 w ∧ (∀ i, k + m.length ≤ i → D C i = 0) ∧
    S 18446744073709551616 (D C) (k + m.length) = S 18446744073709551616 (D l) k * val 18446744073709551616 m

theorem below_of_only {a w w' : World} {g B : Nat} (h : Below B a w) (hg : w.grownBy w' (some g)) (hB : B ≤ w.heap.size) (hgB : B ≤ g) : Below B a w' :=
  h.grown hg hB fun k hk => by injection hk; omega

theorem prodinv_step {l m C C' : List Int} {d : Int} {g k : Nat} {w0 w w' : World} (hC : C.length = l.length + m.length) (hb : Below w0.heap.size w0 w) (hz : ∀ i, k + m.length ≤ i → D C i = 0)
    (he : S 18446744073709551616 (D C) (k + m.length) = S 18446744073709551616 (D l) k * val 18446744073709551616 m) (hk : k < l.length)
    (hC' : C'.length = C.length) (hCl : Lim 18446744073709551616 C') (hd0 : 0 ≤ d) (hd1 : d < 18446744073709551616) (hr : Row w' g C') (hg : w.grownBy w' (some g)) (hgw : w0.heap.size ≤ g)
    (ho : ∀ i, (i < k ∨ k + m.length ≤ i) → D C' i = D C i)
    (he' : S 18446744073709551616 (fun i => D C' (k + i)) m.length + d * 18446744073709551616 ^ m.length = S 18446744073709551616 (fun i => D C (k + i)) m.length + val 18446744073709551616 m * D l k) :
    ProdInv l m g w0 (k + 1) ((w'.setCell ⟨g, k + m.length, none⟩ (.int .u64 d))) := by
  refine ⟨C'.set (k + m.length) d, by simp [hC', hC], hCl.set _ hd0 hd1, hr.set_ _ d, (below_of_only hb hg hb.size hgw).setCell (p := ⟨g, k + m.length, none⟩) hgw _, fun i hi => ?_, ?_⟩
  · rw [D_set d i (by omega), if_neg (by omega), ho i (by omega)]; exact hz i (by omega)
  · rw [show k + 1 + m.length = k + m.length + 1 from by omega, S_succ, S_succ, D_set d _ (by omega), if_pos rfl]
    rw [S_congr (g := D C') (fun i hi => by rw [D_set d i (by omega), if_neg (by omega)]), S_split, S_congr (g := D C) (k := k) (fun i hi => ho i (by omega))]
    rw [S_split] at he
    rw [Int.pow_add]
    grind

set_option maxHeartbeats 4000000 in
theorem product_any (A : Option Addr) (c : Nat) (l : List Int) (A2 : Option Addr) (c2 : Nat) (m : List Int) (w : World) (h : Nums w w.heap.size A c l) (hl : Lim 18446744073709551616 l)
    (h2 : Nums w w.heap.size A2 c2 m) (hl2 : Lim 18446744073709551616 m) (hb1 : l.length ≤ 1000000) (hb2 : m.length ≤ 1000000) :
    Calls Tryd.prog 59 #[.slice A l.length c, .slice A2 m.length c2] w (Made (val 18446744073709551616 l * val 18446744073709551616 m) w) := by
  have hmk := fun W => run_make (l.length + m.length) (by omega) W
  simp only [Int.natCast_add] at hmk
  go_enter Tryd.func59, Tryd.ntmps59
  go_wp2_with fail
  go_loopw [15] (fun i wr => ∃ k : Nat, k ≤ l.length ∧ i = .int .i64 k ∧ ProdInv l m w.heap.size w k wr) (fun i _ => l.length - (intOf i).toNat)
  case atStart =>
    refine ⟨0, by omega, rfl, List.replicate (l.length + m.length) 0, by simp, Lim.zeros (by omega) _, Row.new _ _, (Below.refl _ w).alloc (Nat.le_refl _) _, fun i _ => D_replicate _ i, ?_⟩
    rw [S_nil (fun i _ => D_replicate _ i)]; simp [S]
  case round =>
    obtain ⟨k, hk, rfl, C, hC, hCl, hr, hb, hz, he⟩ := hrel
    have HC := Lib.hid hC
    have HE := Lib.hid he
    have HZ := Lib.hid hz
    have hsz := hb.size
    have hgl := hr.lt
    clear hC he hz
    by_cases hkn : k < l.length
    · have hx := D_lim (b := 18446744073709551616) (by omega) hl k
      have hn2 : Nums wr w.heap.size A2 c2 m := h2.below hb
      obtain ⟨ad, rfl, hadb, c1⟩ := (h.below hb).at_ hkn
      have i0 : (0 : Int) ≤ (k : Int) := by omega
      have i1 : (k : Int) < l.length := by omega
      have hsl := fun W => run_cut w.heap.size 0 (l.length + m.length) (l.length + m.length) k m.length ((k : Int) + m.length) rfl (by omega) (by omega) W
      simp only [Nat.zero_add] at hsl
      have i2 : (k : Int) + m.length < l.length + m.length := by omega
      have i3 : (0 : Int) ≤ (k : Int) + m.length := by omega
      have hw : IntKind.i64.wrap ((k : Int) + m.length) = (k : Int) + m.length := IntWalk.i64_in _ (by omega)
      have htn : ((k : Int) + m.length).toNat = k + m.length := by omega
      go_wp2_with fail
      go_region_with ((go_at_call 79; ((with_reducible refine (addtimes_any C w.heap.size k (l.length + m.length - k) A2 c2 m (D l k) _ hr.drew hCl (by have := HC.out; omega) (by omega) (by have := HC.out; omega) hn2.drew hl2 hx.1 hx.2).mono ?_); rintro e w1 ⟨C', d, rfl, hC', hCl', hd0, hd1, hr', hg', ho', he'⟩; have HC' := Lib.hid hC'; clear hC'; have c9 := hr'.cell (k := k + m.length) (by rw [HC'.out, HC.out]; omega); have f9 := hr'.frozen (k + m.length))))
      all_goals
        go_wp2_with fail
        go_roundw
        case rel => exact ⟨k + 1, by omega, by go_num, (prodinv_step HC.out hb HZ.out HE.out hkn HC'.out hCl' hd0 hd1 hr' (only_undrew hg') (Nat.le_refl _) ho'.out he'.out)⟩
        case measure => simp [intOf]; omega
    · obtain rfl : k = l.length := by omega
      go_wp2_with (go_at_call 72; ((with_reducible refine (trim_row HC.out hr hCl (by omega) (Nat.le_refl _) hb).mono ?_); rintro e w' ⟨s, A', c', rfl, hs1, hs2, hs3, hs4, hs5⟩; have HS3 := Lib.hid hs3; clear hs3))
      go_ret
      have hlast : val 18446744073709551616 C = val 18446744073709551616 l * val 18446744073709551616 m := by
        have := HE.out
        rw [S_val (by have := HC.out; omega), S_val (Nat.le_refl _)] at this
        exact this
      exact ⟨s, A', c', rfl, hs1, hs2, by rw [HS3.out, hlast], hs4, hs5⟩
end Go.Proofs.YtigphbjgodfhpaaDoor
