/-
  Layer 2, walks, part eight: a number divided by a power of two.
-/
import Derived.Test.YtigphbjgodfhpaaDoorNatH
namespace Go.Proofs.YtigphbjgodfhpaaDoor
open Go.RowKit
set_option linter.unusedVariables false

theorem limb_at (A : Option Addr) (c : Nat) (l : List Int) (k : Nat) (i : Int) (hi : i = (k : Int)) (w : World) (B : Nat) (h : Nums w B A c l) :
    Calls Tryd.prog 66 #[.slice A l.length c, .int .i64 i] w fun e w' => e = .returned (.int .u64 (D l k)) ∧ w = w' := by
  subst hi; exact limb_any A c l k w B h

theorem shiftedUp_nil (A : Option Addr) (c : Nat) (j : Int) (w : World) :
    Calls Tryd.prog 63 #[.slice A 0 c, .int .i64 j] w (Made 0 w) := by
  go_enter Tryd.func63, Tryd.ntmps63
  go_wp2_with fail
  go_ret
  exact ⟨[], none, 0, rfl, Lim.nil _, Normal.nil, rfl, Own.nil _ _, Below.refl _ _⟩

theorem shiftedUp_all (A : Option Addr) (c : Nat) (l : List Int) (j : Nat) (w : World) (h : Nums w w.heap.size A c l) (hl : Lim 18446744073709551616 l) (hb1 : l.length ≤ 1000000) (hj : j ≤ 64000000) :
    Calls Tryd.prog 63 #[.slice A l.length c, .int .i64 j] w (Made (val 18446744073709551616 l * 2 ^ j) w) := by
  rcases Nat.eq_zero_or_pos l.length with h0 | h0
  · have hn : l = [] := List.eq_nil_of_length_eq_zero h0
    subst hn
    refine (shiftedUp_nil A c j w).mono ?_
    intro e w' hm
    exact hm.of _ _ (by simp [val_nil])
  · exact shiftedUp_any A c l j w h hl hb1 hj h0

/-- the shift's round -/
def ShrInv (l : List Int) (n q s g : Nat) (w0 : World) (k : Nat) (w : World) : Prop :=
  ∃ C : List Int, C.length = n ∧ Lim 18446744073709551616 C ∧ Row w g C ∧ Below w0.heap.size w0 w ∧
    S 18446744073709551616 (D C) k * 2 ^ s + D l q % 2 ^ s = S 18446744073709551616 (fun i => D l (q + i)) k + D l (q + k) % 2 ^ s * 18446744073709551616 ^ k

theorem shrinv_step {l C : List Int} {n q s k g : Nat} {z : Int} {w0 w : World} (hC : C.length = n) (hCl : Lim 18446744073709551616 C) (hr : Row w g C) (hb : Below w0.heap.size w0 w) (hg : w0.heap.size ≤ g)
    (he : S 18446744073709551616 (D C) k * 2 ^ s + D l q % 2 ^ s = S 18446744073709551616 (fun i => D l (q + i)) k + D l (q + k) % 2 ^ s * 18446744073709551616 ^ k) (hk : k < n)
    (hz0 : 0 ≤ z) (hz1 : z < 18446744073709551616) (he' : z * 2 ^ s + D l (q + k) % 2 ^ s = D l (q + k) + D l (q + k + 1) % 2 ^ s * 18446744073709551616) :
    ShrInv l n q s g w0 (k + 1) (w.setCell ⟨g, k, none⟩ (.int .u64 z)) := by
  refine ⟨C.set k z, by simp [hC], hCl.set _ hz0 hz1, hr.set_ _ z, hb.setCell (p := ⟨g, k, none⟩) hg _, ?_⟩
  rw [S_succ, S_succ, S_congr (g := D C) (fun i hi => by rw [D_set z i (by omega), if_neg (by omega)]), D_set z k (by omega), if_pos rfl, Int.pow_succ]
  rw [show q + (k + 1) = q + k + 1 from by omega]
  generalize D l q % 2 ^ s = r0 at *
  generalize D l (q + k) % 2 ^ s = r1 at *
  generalize D l (q + k + 1) % 2 ^ s = r2 at *
  generalize (2 : Int) ^ s = P at *
  generalize (18446744073709551616 : Int) ^ k = Q at *
  grind
theorem ShrInv.drew {l : List Int} {n q s g k : Nat} {w0 w : World} (h : ShrInv l n q s g w0 k w) : ShrInv l n q s g w0 k w.drew := by
  obtain ⟨C, h1, h2, h3, h4, h5⟩ := h
  exact ⟨C, h1, h2, h3.drew, h4.drew, h5⟩

/-- what a shift down comes to -/
theorem shr_val {l C : List Int} {q s n : Nat} (hl : Lim 18446744073709551616 l) (hC : C.length = n) (hn : q + n = l.length) (hs : s < 64)
    (he : S 18446744073709551616 (D C) n * 2 ^ s + D l q % 2 ^ s = S 18446744073709551616 (fun i => D l (q + i)) n + D l (q + n) % 2 ^ s * 18446744073709551616 ^ n) :
    val 18446744073709551616 C = val 18446744073709551616 l / 2 ^ (64 * q + s) := by
  have e1 : val 18446744073709551616 l = S 18446744073709551616 (D l) q + 18446744073709551616 ^ q * S 18446744073709551616 (fun i => D l (q + i)) n := by
    unfold val; rw [← hn, S_split]
  have b0 := S_of_bound (b := 18446744073709551616) (by omega) hl q
  have hp := two_pos s
  have hq := pow_pos' (b := 18446744073709551616) (by omega) q
  have hlast : D l (q + n) = 0 := D_out (by omega)
  rw [hlast, S_val (by omega)] at he
  have r0 := Int.emod_nonneg (D l q) (Int.ne_of_gt hp)
  have r1 := Int.emod_lt_of_pos (D l q) hp
  rw [pow_limbs, Int.zero_emod, Int.zero_mul, Int.add_zero] at *
  generalize D l q % 2 ^ s = r at *
  generalize S 18446744073709551616 (fun i => D l (q + i)) n = T at *
  generalize S 18446744073709551616 (D l) q = U at *
  generalize (2 : Int) ^ s = P at *
  generalize (18446744073709551616 : Int) ^ q = Q at *
  generalize val 18446744073709551616 C = V at *
  have e2 : Q * T = V * (Q * P) + Q * r := by rw [← he]; grind
  have hle : V * (Q * P) ≤ val 18446744073709551616 l := by
    have : 0 ≤ Q * r := Int.mul_nonneg (by omega) r0
    omega
  have hlt : val 18446744073709551616 l < (V + 1) * (Q * P) := by
    have h1 : 0 ≤ Q * (P - 1 - r) := Int.mul_nonneg (by omega) (by omega)
    have h2 : Q * (P - 1 - r) = Q * P - Q - Q * r := by grind
    have h3 : (V + 1) * (Q * P) = V * (Q * P) + Q * P := by grind
    omega
  have hQP : 0 < Q * P := Int.mul_pos hq hp
  have h1 : V ≤ val 18446744073709551616 l / (Q * P) := (Int.le_ediv_iff_mul_le hQP).2 hle
  have h2 : val 18446744073709551616 l / (Q * P) < V + 1 := (Int.ediv_lt_iff_lt_mul hQP).2 hlt
  omega

set_option maxHeartbeats 4000000 in
theorem shiftedDown_in (A : Option Addr) (c : Nat) (l : List Int) (j : Nat) (w : World) (h : Nums w w.heap.size A c l) (hl : Lim 18446744073709551616 l) (hb1 : l.length ≤ 1000000) (hj : j / 64 < l.length) :
    Calls Tryd.prog 64 #[.slice A l.length c, .int .i64 j] w (Made (val 18446744073709551616 l / 2 ^ j) w) := by
  obtain ⟨q, hq⟩ : ∃ q : Nat, q = j / 64 := ⟨_, rfl⟩
  obtain ⟨s, hs⟩ : ∃ s : Nat, s = j % 64 := ⟨_, rfl⟩
  have hqi : (j : Int) / 64 = (q : Int) := by omega
  have hsi : (j : Int) % 64 = (s : Int) := by omega
  have hs64 : s < 64 := by omega
  have hq2 : q < l.length := by omega
  have hj2 : j = 64 * q + s := by omega
  obtain ⟨n, hn⟩ : ∃ n : Nat, q + n = l.length := ⟨l.length - q, by omega⟩
  have hni : (l.length : Int) - q = (n : Int) := by omega
  have hn1 : n ≤ l.length := by omega
  have hlq : decide (l.length ≤ q) = false := decide_eq_false (by omega)
  have HN := Lib.hid hn
  have HJ := Lib.hid hj2
  clear hj2 hq hs hn hj
  have hmk := fun W => run_make n (by omega) W
  go_enter Tryd.func64, Tryd.ntmps64
  go_wp2_with fail
  rw [hsi]
  go_loopw [24] (fun i wr => ∃ k : Nat, k ≤ n ∧ i = .int .i64 k ∧ ShrInv l n q s w.heap.size w k wr) (fun i _ => n - (intOf i).toNat)
  case atStart =>
    exact ⟨0, by omega, rfl, List.replicate n 0, by simp, Lim.zeros (by omega) _, Row.new _ _, (Below.refl _ w).alloc (Nat.le_refl _) _, by simp [S]⟩
  case round =>
    obtain ⟨k, hk, rfl, C, hC, hCl, hr, hb, he⟩ := hrel
    have HC := Lib.hid hC
    have HE := Lib.hid he
    have hsz := hb.size
    have hgl := hr.lt
    clear hC he
    by_cases hkn : k < n
    · have hx := D_lim (b := 18446744073709551616) (by omega) hl (q + k)
      have hy := D_lim (b := 18446744073709551616) (by omega) hl (q + k + 1)
      have hqk : q + k < l.length := by have := HN.out; omega
      obtain ⟨ad, rfl, hadb, c1⟩ := (h.below hb).at_ hqk
      have c0 := hr.cell (k := k) (by rw [HC.out]; exact hkn)
      have f0 := hr.frozen k
      obtain ⟨z, ez, z0, z1, hez⟩ := shr_ex (D l (q + k)) (D l (q + k + 1)) s hx.1 hx.2 hs64 hy.1 hy.2
      have HZ := Lib.hid hez
      have i0 : (0 : Int) ≤ (k : Int) := by omega
      have i1 : (k : Int) < n := by omega
      have i2 : (0 : Int) ≤ (q : Int) + k := by omega
      have i3 : (q : Int) + k < l.length := by omega
      have hw1 : IntKind.i64.wrap ((q : Int) + k) = (q : Int) + k := IntWalk.i64_in _ (by omega)
      have hw2 : IntKind.i64.wrap ((q : Int) + k + 1) = (q : Int) + k + 1 := IntWalk.i64_in _ (by omega)
      have hw3 : IntKind.i64.wrap (64 - (s : Int)) = 64 - (s : Int) := IntWalk.i64_in _ (by omega)
      have ht1 : ((q : Int) + k).toNat = q + k := by omega
      have ht3 : (64 - (s : Int)).toNat = 64 - s := by omega
      have i4 : (0 : Int) ≤ 64 - s := by omega
      have hlimb := fun W (hW : Nums W w.heap.size (some ad) c l) => limb_at (some ad) c l (q + k + 1) ((q : Int) + k + 1) (by omega) W w.heap.size hW
      have HL := Lib.hid hlimb
      clear hlimb hez
      go_wp2_with fail
      go_region_with ((go_at_call 66; ((with_reducible refine (HL.out _ (h.below hb).drew).mono ?_); rintro e w' ⟨rfl, rfl⟩)))
      all_goals
        go_wp2_with fail
        go_roundw
        case rel => exact ⟨k + 1, by omega, by go_num, (shrinv_step HC.out hCl hr hb (Nat.le_refl _) HE.out hkn z0 z1 HZ.out).drew⟩
        case measure => simp [intOf]; omega
    · obtain rfl : k = n := by omega
      go_wp2_with (go_at_call 72; ((with_reducible refine (trim_row HC.out hr hCl (by omega) (Nat.le_refl _) hb).mono ?_); rintro e w' ⟨v, A', c', rfl, hs1, hs2, hs3, hs4, hs5⟩; have HS3 := Lib.hid hs3; clear hs3))
      go_ret
      exact ⟨v, A', c', rfl, hs1, hs2, by rw [HS3.out, HJ.out]; exact shr_val hl HC.out HN.out hs64 HE.out, hs4, hs5⟩

theorem shiftedDown_out (A : Option Addr) (c : Nat) (l : List Int) (j : Nat) (w : World) (h : Nums w w.heap.size A c l) (hl : Lim 18446744073709551616 l) (hb1 : l.length ≤ 1000000) (hj2 : j ≤ 9223372036854775807) (hj : l.length ≤ j / 64) :
    Calls Tryd.prog 64 #[.slice A l.length c, .int .i64 j] w fun e w' => e = .returned (.slice none 0 0) ∧ w = w' := by
  have h1 : (l.length : Int) ≤ (j : Int) / 64 := by omega
  go_enter Tryd.func64, Tryd.ntmps64
  go_wp2_with fail
  go_ret
  exact ⟨rfl, rfl⟩

theorem shr_zero {l : List Int} {j : Nat} (hl : Lim 18446744073709551616 l) (hj : l.length ≤ j / 64) : val 18446744073709551616 l / 2 ^ j = 0 := by
  have b1 := val_bound (b := 18446744073709551616) (by omega) hl
  have e : (18446744073709551616 : Int) ^ l.length = 2 ^ (64 * l.length) := by have := pow_limbs l.length 0; simp at this; exact this.symm
  have := pow_le' (b := 2) (by omega) (show 64 * l.length ≤ j by omega)
  exact Int.ediv_eq_zero_of_lt b1.1 (by omega)

theorem shiftedDown_any (A : Option Addr) (c : Nat) (l : List Int) (j : Nat) (w : World) (h : Nums w w.heap.size A c l) (hl : Lim 18446744073709551616 l) (hb1 : l.length ≤ 1000000) (hj2 : j ≤ 9223372036854775807) :
    Calls Tryd.prog 64 #[.slice A l.length c, .int .i64 j] w (Made (val 18446744073709551616 l / 2 ^ j) w) := by
  rcases Nat.lt_or_ge (j / 64) l.length with h0 | h0
  · exact shiftedDown_in A c l j w h hl hb1 h0
  · refine (shiftedDown_out A c l j w h hl hb1 hj2 h0).mono ?_
    rintro e w' ⟨rfl, rfl⟩
    exact ⟨[], none, 0, rfl, Lim.nil _, Normal.nil, by rw [shr_zero hl h0]; rfl, Own.nil _ _, Below.refl _ _⟩
end Go.Proofs.YtigphbjgodfhpaaDoor
