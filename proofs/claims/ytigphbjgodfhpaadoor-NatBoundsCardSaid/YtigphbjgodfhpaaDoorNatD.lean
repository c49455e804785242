/-
  Layer 2, walks, part three: sums and differences.
-/
import Derived.Test.YtigphbjgodfhpaaDoorNatC
import Derived.Deep.RegionHeld3
import Derived.Deep.RegionWith
namespace Go.Proofs.YtigphbjgodfhpaaDoor
open Go.RowKit
set_option linter.unusedVariables false

/-- a new number of this value -/
def Made (v : Int) (w : World) (e : Ending) (w' : World) : Prop :=
  ∃ s A c, e = .returned (.slice A s.length c) ∧ Lim 18446744073709551616 s ∧ Normal s ∧ val 18446744073709551616 s = v ∧ Own w' w.heap.size A c s ∧ Below w.heap.size w w'

theorem Made.of (v v' : Int) {w w' : World} {e : Ending} (h : Made v w e w') (hv : v = v') : Made v' w e w' := hv ▸ h

/-- a block that was filled, without the noughts at its end -/
theorem trim_row {C : List Int} {g n : Nat} {w0 w : World} (hC : C.length = n) (hr : Row w g C) (hCl : Lim 18446744073709551616 C) (hn : n ≤ 4000000) (hg : w0.heap.size ≤ g) (hb : Below w0.heap.size w0 w) :
    Calls Tryd.prog 72 #[.slice (some ⟨g, 0, none⟩) n n] w (Made (val 18446744073709551616 C) w0) := by
  subst hC
  have hnum := hr.nums (B := w.heap.size) (c := C.length) 0 C.length (by omega) (by omega) (by unfold maxLen; omega) hr.lt
  have e1 : (C.drop 0).take C.length = C := by simp
  rw [e1] at hnum
  refine (trim_any (some ⟨g, 0, none⟩) C.length C w w.heap.size hnum hCl).mono ?_
  rintro e w' ⟨A', c', rfl, ht, rfl⟩
  exact ⟨norm C, A', c', rfl, norm_lim hCl, norm_normal C, norm_val _ C, ht.row hr (by unfold maxLen; omega) hg, hb⟩

/-- the sum's round: a block that is filled, the carry's cell -/
def SumInv (l m : List Int) (n b g : Nat) (w0 : World) (k : Nat) (w : World) : Prop :=
  ∃ (C : List Int) (d : Int), C.length = n ∧ Lim 18446744073709551616 C ∧ 0 ≤ d ∧ d ≤ 1 ∧ Row w g C ∧ Row w b [d] ∧ Below w0.heap.size w0 w ∧
    S 18446744073709551616 (D C) k + d * 18446744073709551616 ^ k = S 18446744073709551616 (D l) k + S 18446744073709551616 (D m) k

theorem suminv_step {l m C : List Int} {n b k : Nat} {d z d' : Int} {w0 w : World} (hC : C.length = n) (hCl : Lim 18446744073709551616 C) (hr : Row w (b + 1) C) (hc : Row w b [d]) (hb : Below b w0 w)
    (he : S 18446744073709551616 (D C) k + d * 18446744073709551616 ^ k = S 18446744073709551616 (D l) k + S 18446744073709551616 (D m) k) (hk : k < n)
    (hz0 : 0 ≤ z) (hz1 : z < 18446744073709551616) (hd0 : 0 ≤ d') (hd1 : d' ≤ 1) (he' : D l k + D m k + d = z + d' * 18446744073709551616) (hw0 : b = w0.heap.size := by rfl) :
    SumInv l m n b (b + 1) w0 (k + 1) ((w.setCell ⟨b, 0, none⟩ (.int .u64 d')).setCell ⟨b + 1, k, none⟩ (.int .u64 z)) := by
  subst hw0
  refine ⟨C.set k z, d', by simp [hC], hCl.set k hz0 hz1, hd0, hd1, (hr.far (by simp) _).set_ k z, (hc.set_ 0 d').far (by simp) _, (hb.setCell (p := ⟨w0.heap.size, 0, none⟩) (Nat.le_refl _) _).setCell (p := ⟨w0.heap.size + 1, k, none⟩) (by simp) _, ?_⟩
  rw [S_succ, S_succ, S_succ, S_congr (g := D C) (fun i hi => by rw [D_set z i (by omega), if_neg (by omega)]), D_set z k (by omega), if_pos rfl, Int.pow_succ]
  grind

set_option maxHeartbeats 2000000 in
theorem sum_any (A : Option Addr) (c : Nat) (l : List Int) (A2 : Option Addr) (c2 : Nat) (m : List Int) (w : World) (h : Nums w w.heap.size A c l) (hl : Lim 18446744073709551616 l)
    (h2 : Nums w w.heap.size A2 c2 m) (hl2 : Lim 18446744073709551616 m) (hb1 : l.length ≤ 1000000) (hb2 : m.length ≤ 1000000) :
    Calls Tryd.prog 54 #[.slice A l.length c, .slice A2 m.length c2] w (Made (val 18446744073709551616 l + val 18446744073709551616 m) w) := by
  obtain ⟨n, hn⟩ : ∃ n : Nat, n = max l.length m.length + 1 := ⟨_, rfl⟩
  have hn' : max (l.length : Int) (m.length : Int) + 1 = (n : Int) := by omega
  have hnl : l.length < n := by omega
  have hnm : m.length < n := by omega
  have hn2 : n ≤ 1000001 := by omega
  have hmk := fun W => run_make n (by omega) W
  have HN := Lib.hid hn
  clear hn
  go_enter Tryd.func54, Tryd.ntmps54
  go_wp2_with fail
  go_loopw [19] (fun i wr => ∃ k : Nat, k ≤ n ∧ i = .int .i64 k ∧ SumInv l m n w.heap.size (w.heap.size + 1) w k wr) (fun i _ => n - (intOf i).toNat)
  case atStart =>
    refine ⟨0, by omega, rfl, List.replicate n 0, 0, by simp, Lim.zeros (by omega) n, by omega, by omega, ?_, ?_, ?_, by simp [S]⟩
    · have := Row.new (w.alloc (.cells #[Value.int .u64 0] 39)) (List.replicate n 0)
      simpa using this
    · exact (Row.one w 0).alloc _
    · exact ((Below.refl _ w).alloc (Nat.le_refl _) _).alloc (by simp) _
  case round =>
    obtain ⟨k, hk, rfl, C, d, hC, hCl, hd0, hd1, hr, hc, hb, he⟩ := hrel
    have hz := hb.size
    have hgl := hr.lt
    have HC := Lib.hid hC
    have HE := Lib.hid he
    clear hC he
    by_cases hkn : k < n
    · have hx := D_lim (b := 18446744073709551616) (by omega) hl k
      have hy := D_lim (b := 18446744073709551616) (by omega) hl2 k
      have c0 := hr.cell (k := k) (by rw [HC.out]; exact hkn)
      have f0 := hr.frozen k
      go_wp2_with (first
        | (go_at_call 66; ((with_reducible refine (limb_any A c l k _ _ (h.below hb)).mono ?_); rintro e w' ⟨rfl, rfl⟩))
        | (go_at_call 66; ((with_reducible refine (limb_any A2 c2 m k _ _ (h2.below hb)).mono ?_); rintro e w' ⟨rfl, rfl⟩))
        | (go_at_call 75; ((with_reducible refine (sumstep_any (D l k) (D m k) d _ _ hc hx.1 hx.2 hy.1 hy.2 hd0 hd1).mono ?_); rintro e w' ⟨z, d', rfl, hz0, hz1, hd0', hd1', he', rfl⟩)))
      go_roundw
      case rel => exact ⟨k + 1, by omega, by go_num, suminv_step HC.out hCl hr hc hb HE.out hkn hz0 hz1 hd0' hd1' he'.out⟩
      case measure => simp [intOf]; omega
    · obtain rfl : k = n := by omega
      go_wp2_with (go_at_call 72; ((with_reducible refine (trim_row HC.out hr hCl (by omega) (Nat.le_succ _) hb).mono ?_); rintro e w' ⟨s, A', c', rfl, hs1, hs2, hs3, hs4, hs5⟩; have HS3 := Lib.hid hs3; clear hs3))
      go_ret
      have hv := HE.out
      have hlast : val 18446744073709551616 C = val 18446744073709551616 l + val 18446744073709551616 m := by
        have b1 := val_bound (b := 18446744073709551616) (by omega) hl
        have b2 := val_bound (b := 18446744073709551616) (by omega) hl2
        have p1 := pow_le' (b := 18446744073709551616) (by omega) (show l.length ≤ k - 1 by omega)
        have p2 := pow_le' (b := 18446744073709551616) (by omega) (show m.length ≤ k - 1 by omega)
        have p3 : (18446744073709551616 : Int) ^ k = 18446744073709551616 ^ (k - 1) * 18446744073709551616 := by rw [← Int.pow_succ]; congr 1; omega
        rw [S_val (by rw [HC.out]; omega), S_val (by omega), S_val (by omega), p3] at hv
        have hb0 := (val_bound (b := 18446744073709551616) (by omega) hCl).1
        generalize (18446744073709551616 : Int) ^ (k - 1) = P at *
        rcases (show d = 0 ∨ d = 1 by omega) with rfl | rfl <;> omega
      exact ⟨s, A', c', rfl, hs1, hs2, by rw [HS3.out, hlast], hs4, hs5⟩

/-- the difference's round -/
def DiffInv (l m : List Int) (n b g : Nat) (w0 : World) (k : Nat) (w : World) : Prop :=
  ∃ (C : List Int) (d : Int), C.length = n ∧ Lim 18446744073709551616 C ∧ 0 ≤ d ∧ d ≤ 1 ∧ Row w g C ∧ Row w b [d] ∧ Below w0.heap.size w0 w ∧
    S 18446744073709551616 (D C) k - d * 18446744073709551616 ^ k = S 18446744073709551616 (D l) k - S 18446744073709551616 (D m) k

theorem diffinv_step {l m C : List Int} {n b k : Nat} {d z d' : Int} {w0 w : World} (hC : C.length = n) (hCl : Lim 18446744073709551616 C) (hr : Row w (b + 1) C) (hc : Row w b [d]) (hb : Below b w0 w)
    (he : S 18446744073709551616 (D C) k - d * 18446744073709551616 ^ k = S 18446744073709551616 (D l) k - S 18446744073709551616 (D m) k) (hk : k < n)
    (hz0 : 0 ≤ z) (hz1 : z < 18446744073709551616) (hd0 : 0 ≤ d') (hd1 : d' ≤ 1) (he' : D l k - D m k - d = z - d' * 18446744073709551616) (hw0 : b = w0.heap.size := by rfl) :
    DiffInv l m n b (b + 1) w0 (k + 1) ((w.setCell ⟨b, 0, none⟩ (.int .u64 d')).setCell ⟨b + 1, k, none⟩ (.int .u64 z)) := by
  subst hw0
  refine ⟨C.set k z, d', by simp [hC], hCl.set k hz0 hz1, hd0, hd1, (hr.far (by simp) _).set_ k z, (hc.set_ 0 d').far (by simp) _, (hb.setCell (p := ⟨w0.heap.size, 0, none⟩) (Nat.le_refl _) _).setCell (p := ⟨w0.heap.size + 1, k, none⟩) (by simp) _, ?_⟩
  rw [S_succ, S_succ, S_succ, S_congr (g := D C) (fun i hi => by rw [D_set z i (by omega), if_neg (by omega)]), D_set z k (by omega), if_pos rfl, Int.pow_succ]
  grind

theorem DiffInv.drew {l m : List Int} {n b g k : Nat} {w0 w : World} (h : DiffInv l m n b g w0 k w) : DiffInv l m n b g w0 k w.drew := by
  obtain ⟨C, d, h1, h2, h3, h4, h5, h6, h7, h8⟩ := h
  exact ⟨C, d, h1, h2, h3, h4, h5.drew, h6.drew, h7.drew, h8⟩

set_option maxHeartbeats 2000000 in
theorem difference_any (A : Option Addr) (c : Nat) (l : List Int) (A2 : Option Addr) (c2 : Nat) (m : List Int) (w : World) (h : Nums w w.heap.size A c l) (hl : Lim 18446744073709551616 l)
    (h2 : Nums w w.heap.size A2 c2 m) (hl2 : Lim 18446744073709551616 m) (hb1 : l.length ≤ 1000000) (hle : val 18446744073709551616 m ≤ val 18446744073709551616 l) (nm : Normal m) :
    Calls Tryd.prog 58 #[.slice A l.length c, .slice A2 m.length c2] w (Made (val 18446744073709551616 l - val 18446744073709551616 m) w) := by
  have hml : m.length ≤ l.length := length_le_of_lt (b := 18446744073709551616) (by omega) hl2 nm (by have := (val_bound (b := 18446744073709551616) (by omega) hl).2; omega)
  have hmk := fun W => run_make l.length (by omega) W
  go_enter Tryd.func58, Tryd.ntmps58
  go_wp2_with fail
  go_loopw [15] (fun i wr => ∃ k : Nat, k ≤ l.length ∧ i = .int .i64 k ∧ DiffInv l m l.length w.heap.size (w.heap.size + 1) w k wr) (fun i _ => l.length - (intOf i).toNat)
  case atStart =>
    refine ⟨0, by omega, rfl, List.replicate l.length 0, 0, by simp, Lim.zeros (by omega) _, by omega, by omega, ?_, ?_, ?_, by simp [S]⟩
    · have := Row.new (w.alloc (.cells #[Value.int .u64 0] 39)) (List.replicate l.length 0)
      simpa using this
    · exact (Row.one w 0).alloc _
    · exact ((Below.refl _ w).alloc (Nat.le_refl _) _).alloc (by simp) _
  case round =>
    obtain ⟨k, hk, rfl, C, d, hC, hCl, hd0, hd1, hr, hc, hb, he⟩ := hrel
    have hz := hb.size
    have hgl := hr.lt
    have HC := Lib.hid hC
    have HE := Lib.hid he
    clear hC he
    by_cases hkn : k < l.length
    · have hx := D_lim (b := 18446744073709551616) (by omega) hl k
      have hy := D_lim (b := 18446744073709551616) (by omega) hl2 k
      have c0 := hr.cell (k := k) (by rw [HC.out]; exact hkn)
      have f0 := hr.frozen k
      obtain ⟨ad, rfl, hadb, c1⟩ := (h.below hb).at_ hkn
      have i0 : (0 : Int) ≤ (k : Int) := by omega
      have i1 : (k : Int) < l.length := by omega
      have ck := fun u => ((h.below hb).setCell (p := ⟨w.heap.size, 0, none⟩) (Nat.le_refl _) u).at_some hkn
      have ck2 := fun u v => (((h.below hb).setCell (p := ⟨w.heap.size, 0, none⟩) (Nat.le_refl _) u).setCell (p := ⟨w.heap.size + 1, k, none⟩) (Nat.le_succ _) v).at_some hkn
      go_wp2_with fail
      go_region_held3 (fun w' => w'.cell? (ad.add k) = some (.int .u64 (D l k))) (go_keep)
        (first
        | (go_at_call 66; ((with_reducible refine (limb_any A2 c2 m k _ _ (h2.below hb).drew).mono ?_); rintro e w' ⟨rfl, rfl⟩))
        | (go_at_call 77; ((with_reducible refine (diffstep_any (D l k) (D m k) d _ _ hc.drew hx.1 hx.2 hy.1 hy.2 hd0 hd1).mono ?_); rintro e w' ⟨z, d', rfl, hz0, hz1, hd0', hd1', he', rfl⟩)))
      go_wp2_with fail
      go_roundw
      case rel => exact ⟨k + 1, by omega, by go_num, (diffinv_step HC.out hCl hr hc hb HE.out hkn hz0 hz1 hd0' hd1' he'.out).drew⟩
      case measure => simp [intOf]; omega
    · obtain rfl : k = l.length := by omega
      go_wp2_with (go_at_call 72; ((with_reducible refine (trim_row HC.out hr hCl (by omega) (Nat.le_succ _) hb).mono ?_); rintro e w' ⟨s, A', c', rfl, hs1, hs2, hs3, hs4, hs5⟩; have HS3 := Lib.hid hs3; clear hs3))
      go_ret
      have hv := HE.out
      have hlast : val 18446744073709551616 C = val 18446744073709551616 l - val 18446744073709551616 m := by
        rw [S_val (by rw [HC.out]; omega), S_val (by omega), S_val (by omega)] at hv
        have hb0 := val_bound (b := 18446744073709551616) (by omega) hCl
        rw [HC.out] at hb0
        generalize (18446744073709551616 : Int) ^ l.length = P at *
        rcases (show d = 0 ∨ d = 1 by omega) with rfl | rfl <;> omega
      exact ⟨s, A', c', rfl, hs1, hs2, by rw [HS3.out, hlast], hs4, hs5⟩
end Go.Proofs.YtigphbjgodfhpaaDoor
