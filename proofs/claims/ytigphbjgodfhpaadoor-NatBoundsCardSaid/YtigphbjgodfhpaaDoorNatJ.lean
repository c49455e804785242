/-
  Layer 2, walks, part nine: the lowest bits; how many bits; powers of two.
-/
import Derived.Test.YtigphbjgodfhpaaDoorNatI
import Derived.RegionTactic
namespace Go.Proofs.YtigphbjgodfhpaaDoor
open Go.RowKit
set_option linter.unusedVariables false

theorem Own.take {w : World} {B c : Nat} {A : Option Addr} {l : List Int} (h : Own w B A c l) (k : Nat) (hk : k ≤ l.length) (h0 : 0 < k) : Own w B A c (l.take k) := by
  have e : (l.take k).length = k := by rw [List.length_take]; omega
  unfold Own
  rw [e]
  refine ⟨by rw [L_length, e]; omega, .inr ?_⟩
  rcases h.2 with ⟨h1, h2⟩ | ⟨g, cap, cur, hv, hg, hh, h3, h4, h5, h6⟩
  · omega
  · injection hv with hA hn hc
    subst hA; subst hc
    refine ⟨g, c, cur, rfl, hg, hh, by omega, h4, h5, ?_⟩
    have h7 := congrArg (List.take (k * 1)) h6
    rw [List.take_take] at h7
    rw [show min (k * 1) (l.length * 1) = k * 1 from by omega] at h7
    rw [h7]
    simp [L, List.map_take]
theorem Trims.own {w : World} {B c : Nat} {A A' : Option Addr} {c' : Nat} {l : List Int} (t : Trims A c A' c' (norm l)) (h : Own w B A c l) : Own w B A' c' (norm l) := by
  rcases t with ⟨rfl, rfl, e⟩ | ⟨rfl, rfl, hne⟩
  · rw [e]; exact Own.nil _ _
  · have : 0 < (norm l).length := List.length_pos_iff.2 hne
    rw [norm_take l]
    exact h.take _ (norm_length l) this

/-- a slice of the call's own, without the noughts at its end -/
theorem trim_own {A : Option Addr} {c : Nat} {l : List Int} {w0 w : World} (h : Own w w0.heap.size A c l) (hl : Lim 18446744073709551616 l) (hb : Below w0.heap.size w0 w) :
    Calls Tryd.prog 72 #[.slice A l.length c] w (Made (val 18446744073709551616 l) w0) := by
  refine (trim_any A c l w w.heap.size h.nums hl).mono ?_
  rintro e w' ⟨A', c', rfl, ht, rfl⟩
  exact ⟨norm l, A', c', rfl, norm_lim hl, norm_normal l, norm_val _ l, ht.own h, hb⟩

theorem Own.cellAt {w : World} {B c g : Nat} {l : List Int} (h : Own w B (some ⟨g, 0, none⟩) c l) {k : Nat} (hk : k < l.length) : w.cell? ⟨g, k, none⟩ = some (.int .u64 (D l k)) := by
  rw [World.ownsRow.cellAt h k (by omega), L_get hk]
theorem Own.frozenAt {w : World} {B c g : Nat} {l : List Int} (h : Own w B (some ⟨g, 0, none⟩) c l) (k : Nat) : w.frozen? ⟨g, k, none⟩ = false := World.ownsRow.frozenAt h k
theorem Own.set_ {w : World} {B c g : Nat} {l : List Int} (h : Own w B (some ⟨g, 0, none⟩) c l) (k : Nat) (v : Int) : Own (w.setCell ⟨g, k, none⟩ (.int .u64 v)) B (some ⟨g, 0, none⟩) c (l.set k v) := by
  unfold Own
  rw [List.length_set]
  have := (World.ownsRow.stored h k (.int .u64 v)).1
  simpa [L, List.map_set] using this
theorem Own.drew {w : World} {B c : Nat} {A : Option Addr} {l : List Int} (h : Own w B A c l) : Own w.drew B A c l := h

theorem and_low (s : Nat) (hs : s ≤ 64) (x : Int) (h0 : 0 ≤ x) (h1 : x < 18446744073709551616) : bits .and .u64 x (2 ^ s - 1) = x % 2 ^ s :=
  bits_mask .u64 64 (by decide) (fun n a b => by rw [IntKind.wrap_u64]; omega) s hs x h0 (by omega)

/-- the lowest bits of a number -/
theorem low_val {l : List Int} {q s : Nat} (hl : Lim 18446744073709551616 l) (hq : q < l.length) (hs : s < 64) :
    val 18446744073709551616 ((l.take (q + 1)).set q (D l q % 2 ^ s)) = val 18446744073709551616 l % 2 ^ (64 * q + s) := by
  have e0 : ((l.take (q + 1)).set q (D l q % 2 ^ s)).length = q + 1 := by rw [List.length_set, List.length_take]; omega
  have e1 : val 18446744073709551616 ((l.take (q + 1)).set q (D l q % 2 ^ s)) = S 18446744073709551616 (D l) q + D l q % 2 ^ s * 18446744073709551616 ^ q := by
    unfold val
    rw [e0, S_succ, D_set _ _ (by rw [List.length_take]; omega), if_pos rfl]
    rw [S_congr (g := D l) (fun i hi => by rw [D_set _ _ (by rw [List.length_take]; omega), if_neg (by omega), D_take, if_pos (by omega)])]
  have e2 := val_take_drop 18446744073709551616 l (q + 1) (by omega)
  rw [S_succ, Int.pow_succ] at e2
  have b0 := S_of_bound (b := 18446744073709551616) (by omega) hl q
  have hp := two_pos s
  have hP := pow_split (s := s) (by omega)
  have hd := Int.mul_ediv_add_emod (D l q) (2 ^ s)
  have r0 := Int.emod_nonneg (D l q) (Int.ne_of_gt hp)
  have r1 := Int.emod_lt_of_pos (D l q) hp
  rw [e1, e2, pow_limbs]
  generalize D l q % 2 ^ s = r at *
  generalize D l q / 2 ^ s = y at *
  generalize val 18446744073709551616 (l.drop (q + 1)) = T at *
  generalize S 18446744073709551616 (D l) q = U at *
  generalize (2 : Int) ^ (64 - s) = Z at *
  generalize (2 : Int) ^ s = P at *
  have hQ := pow_pos' (b := 18446744073709551616) (by omega) q
  generalize (18446744073709551616 : Int) ^ q = Q at *
  have e3 : U + D l q * Q + Q * 18446744073709551616 * T = (U + r * Q) + (Q * P) * (y + Z * T) := by
    rw [← hP, ← hd]; grind
  rw [e3, Int.add_mul_emod_self_left]
  have h0 : 0 ≤ r * Q := Int.mul_nonneg r0 (by omega)
  have h1 : 0 ≤ (P - 1 - r) * Q := Int.mul_nonneg (by omega) (by omega)
  have h2 : (P - 1 - r) * Q = Q * P - Q - r * Q := by grind
  exact (Int.emod_eq_of_lt (by omega) (by omega)).symm

set_option maxHeartbeats 4000000 in
theorem lowest_in (A : Option Addr) (c : Nat) (l : List Int) (j : Nat) (w : World) (h : Nums w w.heap.size A c l) (hl : Lim 18446744073709551616 l) (hb1 : l.length ≤ 1000000) (hj : j / 64 < l.length) :
    Calls Tryd.prog 84 #[.slice A l.length c, .int .i64 j] w (Made (val 18446744073709551616 l % 2 ^ j) w) := by
  obtain ⟨q, hq⟩ : ∃ q : Nat, q = j / 64 := ⟨_, rfl⟩
  obtain ⟨s, hs⟩ : ∃ s : Nat, s = j % 64 := ⟨_, rfl⟩
  have hqi : (j : Int) / 64 = (q : Int) := by omega
  have hsi : (j : Int) % 64 = (s : Int) := by omega
  have hs64 : s < 64 := by omega
  have hq2 : q < l.length := by omega
  have hj2 : j = 64 * q + s := by omega
  have hlq : decide (l.length ≤ q) = false := decide_eq_false (by omega)
  have HJ := Lib.hid hj2
  have hle := h.le
  clear hj2 hq hs hj
  have hx := D_lim (b := 18446744073709551616) (by omega) hl q
  have hx2 := and_low s (by omega) (D l q) hx.1 hx.2
  have hval := low_val hl hq2 hs64
  have hdt : D (l.take (q + 1)) q = D l q := by rw [D_take, if_pos (by omega)]
  have hlm : Lim 18446744073709551616 (l.take (q + 1)) := hl.take _
  have hln : (l.take (q + 1)).length = q + 1 := by rw [List.length_take]; omega
  have htake := h.take (q + 1)
  obtain ⟨m, hm⟩ : ∃ m, m = l.take (q + 1) := ⟨_, rfl⟩
  rw [← hm] at hval hdt hlm hln htake
  have hclone := fun W hW => clone_any A c m W hW (by omega)
  rw [hln] at hclone
  have HC := Lib.hid hclone
  have HL := Lib.hid hln
  have HV := Lib.hid hval
  have HD := Lib.hid hdt
  have hqp : (0 : Int) < (q : Int) + 1 := by omega
  have p0 := two_pos s
  have r0 := Int.emod_nonneg (D l q) (Int.ne_of_gt p0)
  have r1 : D l q % 2 ^ s < 18446744073709551616 := by
    have h1 := Int.emod_lt_of_pos (D l q) p0
    have h2 := pow_le' (b := 2) (by omega) (show s ≤ 64 by omega)
    have h3 : (2 : Int) ^ 64 = 18446744073709551616 := by decide
    omega
  have p1 : (2 : Int) ^ s ≤ 9223372036854775808 := by
    have h2 := pow_le' (b := 2) (by omega) (show s ≤ 63 by omega)
    have h3 : (2 : Int) ^ 63 = 9223372036854775808 := by decide
    omega
  have hw1 : IntKind.u64.wrap ((2 : Int) ^ s) = 2 ^ s := by rw [IntKind.wrap_u64]; omega
  have hw2 : IntKind.u64.wrap ((2 : Int) ^ s - 1) = 2 ^ s - 1 := by rw [IntKind.wrap_u64]; omega
  clear hclone hln hm hval hdt
  go_enter Tryd.func84, Tryd.ntmps84
  go_wp2_with (go_at_call 52; ((with_reducible refine (HC.out _ htake).mono ?_); rintro e w1 ⟨A1, c1, he, hown, hb⟩; rw [HL.out] at he; subst he))
  obtain ⟨g, rfl, hg1, hg2⟩ := hown.form (by rw [HL.out]; omega)
  have c0 := hown.cellAt (k := q) (by rw [HL.out]; omega)
  rw [HD.out] at c0
  have f0 := hown.frozenAt q
  have hset := (hown.set_ q (D l q % 2 ^ s)).drew
  have hb2 := (hb.setCell (p := ⟨g, q, none⟩) hg1 (.int .u64 (D l q % 2 ^ s))).drew
  have htr := trim_own hset (hlm.set q r0 r1) hb2
  have hsl : (m.set q (D l q % 2 ^ s)).length = q + 1 := by rw [List.length_set, HL.out]
  rw [hsl, HV.out, ← HJ.out] at htr
  have HT := Lib.hid htr
  clear hset htr hsl
  go_region
  go_wp2_with (go_at_call 72; ((with_reducible refine HT.out.mono ?_); rintro e w' ⟨v, A2, c2, rfl, hs1, hs2, hs3, hs4, hs5⟩; have HS3 := Lib.hid hs3; clear hs3))
  go_ret
  exact ⟨v, A2, c2, rfl, hs1, hs2, HS3.out, hs4, hs5⟩

theorem lowest_out (A : Option Addr) (c : Nat) (l : List Int) (j : Nat) (w : World) (h : Nums w w.heap.size A c l) (hl : Lim 18446744073709551616 l) (hb1 : l.length ≤ 1000000) (hj2 : j ≤ 9223372036854775807) (hj : l.length ≤ j / 64) :
    Calls Tryd.prog 84 #[.slice A l.length c, .int .i64 j] w (NewPost l w) := by
  have h1 : (l.length : Int) ≤ (j : Int) / 64 := by omega
  go_enter Tryd.func84, Tryd.ntmps84
  go_wp2_with (go_at_call 52; ((with_reducible refine (clone_any A c l _ h (by omega)).mono ?_); rintro e w1 ⟨A1, c1, rfl, hown, hb⟩))
  go_ret
  exact ⟨A1, c1, rfl, hown, hb⟩

theorem lowest_any (A : Option Addr) (c : Nat) (l : List Int) (j : Nat) (w : World) (h : Nums w w.heap.size A c l) (hl : Lim 18446744073709551616 l) (nl : Normal l) (hb1 : l.length ≤ 1000000) (hj2 : j ≤ 9223372036854775807) :
    Calls Tryd.prog 84 #[.slice A l.length c, .int .i64 j] w (Made (val 18446744073709551616 l % 2 ^ j) w) := by
  rcases Nat.lt_or_ge (j / 64) l.length with h0 | h0
  · exact lowest_in A c l j w h hl hb1 h0
  · refine (lowest_out A c l j w h hl hb1 hj2 h0).mono ?_
    rintro e w' ⟨A', c', rfl, hown, hb⟩
    have b1 := val_bound (b := 18446744073709551616) (by omega) hl
    have e : (18446744073709551616 : Int) ^ l.length = 2 ^ (64 * l.length) := by have := pow_limbs l.length 0; simp at this; exact this.symm
    have := pow_le' (b := 2) (by omega) (show 64 * l.length ≤ j by omega)
    exact ⟨l, A', c', rfl, hl, nl, (Int.emod_eq_of_lt b1.1 (by omega)).symm, hown, hb⟩
end Go.Proofs.YtigphbjgodfhpaaDoor
