/-
  Layer 2, walks, part seven: the program's product of two numbers; a number times a power of two.
-/
import Derived.Test.YtigphbjgodfhpaaDoorNatG
import Derived.Test.YtigphbjgodfhpaaDoorNatS
namespace Go.Proofs.YtigphbjgodfhpaaDoor
open Go.RowKit
set_option linter.unusedVariables false

/-! ### products, as they are handed out -/
theorem prod_lens {l m : List Int} (hl : Lim 18446744073709551616 l) (hm : Lim 18446744073709551616 m) (nl : Normal l) (nm : Normal m)
    (h1 : l.length ≤ 4096) (h2 : m.length ≤ 4096) (hv : val 18446744073709551616 l * val 18446744073709551616 m < 18446744073709551616 ^ 4096) : l.length + m.length ≤ 4097 := by
  rcases Nat.eq_zero_or_pos l.length with h | h
  · omega
  rcases Nat.eq_zero_or_pos m.length with k | k
  · omega
  have a := normal_ge (b := 18446744073709551616) (by omega) hl nl (fun e => by subst e; simp at h)
  have b := normal_ge (b := 18446744073709551616) (by omega) hm nm (fun e => by subst e; simp at k)
  have p1 := pow_pos' (b := 18446744073709551616) (by omega) (l.length - 1)
  have p2 := pow_pos' (b := 18446744073709551616) (by omega) (m.length - 1)
  have c : (18446744073709551616 : Int) ^ (l.length - 1) * 18446744073709551616 ^ (m.length - 1) ≤ val 18446744073709551616 l * val 18446744073709551616 m := Int.mul_le_mul a b (by omega) (by omega)
  rw [← Int.pow_add] at c
  rcases Nat.lt_or_ge 4097 (l.length + m.length) with g | g
  · have := pow_le' (b := 18446744073709551616) (by omega) (show 4096 ≤ l.length - 1 + (m.length - 1) by omega)
    omega
  · exact g

set_option maxHeartbeats 1000000 in
theorem Mul_any (A : Option Addr) (c : Nat) (l : List Int) (A2 : Option Addr) (c2 : Nat) (m : List Int) (w : World) (h : Nums w w.heap.size A c l) (hl : Lim 18446744073709551616 l)
    (h2 : Nums w w.heap.size A2 c2 m) (hl2 : Lim 18446744073709551616 m) (hlen : (norm l).length ≤ 4096) (hlen2 : (norm m).length ≤ 4096)
    (hv : val 18446744073709551616 l * val 18446744073709551616 m < 18446744073709551616 ^ 4096) :
    Calls Tryd.prog 27 #[.slice A l.length c, .slice A2 m.length c2] w (Made2 (val 18446744073709551616 l * val 18446744073709551616 m) w) := by
  have e1 := norm_val 18446744073709551616 l
  have e2 := norm_val 18446744073709551616 m
  rw [← e1, ← e2] at hv
  rw [← e1, ← e2]
  clear e1 e2
  have hlens := prod_lens (norm_lim hl) (norm_lim hl2) (norm_normal l) (norm_normal m) hlen hlen2 hv
  have HV := Lib.hid hv
  clear hv
  go_enter Tryd.func27, Tryd.ntmps27
  go_wp2_with (first
    | (go_at_call 49; ((with_reducible refine (both_any A c l A2 c2 m _ _ h hl hlen h2 hl2 hlen2).mono ?_); rintro e w' ⟨A', c', A2', c2', rfl, ht, ht2, rfl⟩))
    | (go_at_call 59; ((with_reducible refine (product_any A' c' (norm l) A2' c2' (norm m) _ (ht.nums h) (norm_lim hl) (ht2.nums h2) (norm_lim hl2) (by omega) (by omega)).mono ?_); rintro e w' ⟨s, A3, c3, rfl, hs1, hs2, hs3, hs4, hs5⟩; have hsl := length_le_of_lt (b := 18446744073709551616) (k := 4096) (by omega) hs1 hs2 (by rw [hs3]; exact HV.out); have HS3 := Lib.hid hs3; clear hs3))
    | (go_at_call 53; ((with_reducible refine (answered_any A3 c3 s _ hsl).mono ?_); rintro e w' ⟨rfl, rfl⟩)))
  go_ret2
  exact ⟨s, A3, c3, rfl, hs1, hs2, HS3.out, hs4, hs5⟩

set_option maxHeartbeats 1000000 in
theorem Mul_long (A : Option Addr) (c : Nat) (l : List Int) (A2 : Option Addr) (c2 : Nat) (m : List Int) (w : World) (h : Nums w w.heap.size A c l) (hl : Lim 18446744073709551616 l)
    (h2 : Nums w w.heap.size A2 c2 m) (hl2 : Lim 18446744073709551616 m) (hlen : (norm l).length ≤ 4096) (hlen2 : (norm m).length ≤ 4096)
    (hv : 18446744073709551616 ^ 4096 ≤ val 18446744073709551616 l * val 18446744073709551616 m) :
    Calls Tryd.prog 27 #[.slice A l.length c, .slice A2 m.length c2] w (Fails 3 w) := by
  have e1 := norm_val 18446744073709551616 l
  have e2 := norm_val 18446744073709551616 m
  rw [← e1, ← e2] at hv
  clear e1 e2
  have HV := Lib.hid hv
  clear hv
  by_cases hll : (norm l).length + (norm m).length ≤ 4097
  · go_enter Tryd.func27, Tryd.ntmps27
    go_wp2_with (first
      | (go_at_call 49; ((with_reducible refine (both_any A c l A2 c2 m _ _ h hl hlen h2 hl2 hlen2).mono ?_); rintro e w' ⟨A', c', A2', c2', rfl, ht, ht2, rfl⟩))
      | (go_at_call 59; ((with_reducible refine (product_any A' c' (norm l) A2' c2' (norm m) _ (ht.nums h) (norm_lim hl) (ht2.nums h2) (norm_lim hl2) (by omega) (by omega)).mono ?_); rintro e w' ⟨s, A3, c3, rfl, hs1, hs2, hs3, hs4, hs5⟩; have hsl := lt_length_of_ge (b := 18446744073709551616) (k := 4096) (by omega) hs1 (by rw [hs3]; exact HV.out); have HS3 := Lib.hid hs3; clear hs3))
      | (go_at_call 53; ((with_reducible refine (answered_long A3 c3 s _ hsl).mono ?_); rintro e w' ⟨rfl, rfl⟩)))
    go_ret2
    exact ⟨rfl, hs5⟩
  · go_enter Tryd.func27, Tryd.ntmps27
    go_wp2_with (first
      | (go_at_call 49; ((with_reducible refine (both_any A c l A2 c2 m _ _ h hl hlen h2 hl2 hlen2).mono ?_); rintro e w' ⟨A', c', A2', c2', rfl, ht, ht2, rfl⟩)))
    go_ret2
    exact ⟨rfl, Below.refl _ _⟩

/-! ### a number times a power of two -/
/-- a variable of one whole number -/
def Box (w : World) (b : Nat) (s : Int) : Prop := w.heap[b]? = some (.cells #[.int .i64 s] 3 (0, 0))

/-- a step of a shift up -/
def ShlStep (x c : Int) (s : Nat) (b : Nat) (w : World) (e : Ending) (w' : World) : Prop :=
  ∃ (z d : Int) (n : Nat), e = .returned (.int .u64 z) ∧ 0 ≤ z ∧ z < 18446744073709551616 ∧ 0 ≤ d ∧ d < 2 ^ s ∧ Hid (x * 2 ^ s + c = z + d * 18446744073709551616) ∧ (w.drewN n).setCell ⟨b, 0, none⟩ (.int .u64 d) = w'

set_option maxHeartbeats 1000000 in
theorem shiftstep_any (x c : Int) (s : Nat) (a b : Nat) (w : World) (ha : Box w a s) (h : Row w b [c]) (hx : 0 ≤ x) (hx1 : x < 18446744073709551616) (hs : s < 64) (hc : 0 ≤ c) (hc1 : c < 2 ^ s) :
    Calls Tryd.prog 85 #[.int .u64 x, .pointer (some ⟨a, 0, none⟩), .pointer (some ⟨b, 0, none⟩)] w (ShlStep x c s b w) := by
  have h0 := h.cell (k := 0) (by simp)
  have a0 := cell_of_one ha
  have hfz := h.frozen 0
  simp only [D_cons_zero] at h0
  obtain ⟨z, e1, z0, z1, q0, q1, he⟩ := shl_ex x c s hx hx1 hs hc hc1
  have HE := Lib.hid he
  clear he
  go_enter Tryd.func85, Tryd.ntmps85
  go_wp2_with fail
  go_quiet (fail)
  go_wp2_with fail
  go_ret
  exact ⟨z, x / 2 ^ (64 - s), _, rfl, z0, z1, q0, q1, HE, rfl⟩

/-- the shift's round -/
def ShlInv (l : List Int) (n q s : Nat) (w0 : World) (k : Nat) (w : World) : Prop :=
  ∃ (C : List Int) (d : Int), C.length = n ∧ Lim 18446744073709551616 C ∧ 0 ≤ d ∧ d < 2 ^ s ∧ Row w (w0.heap.size + 1) C ∧ Box w w0.heap.size s ∧ Row w (w0.heap.size + 2) [d] ∧ Below w0.heap.size w0 w ∧ (∀ i, i < q → D C i = 0) ∧
    S 18446744073709551616 (fun i => D C (q + i)) k + d * 18446744073709551616 ^ k = S 18446744073709551616 (D l) k * 2 ^ s

theorem Box.alloc {w : World} {b : Nat} {s : Int} (h : Box w b s) (o : Obj) : Box (w.alloc o) b s := (Below.heap_alloc w o b (lt_of_block h)).trans h
theorem Box.far {w : World} {b : Nat} {s : Int} (h : Box w b s) {p : Addr} (hp : b ≠ p.block) (u : Value) : Box (w.setCell p u) b s := (Below.heap_setCell w p u b hp).trans h
theorem Box.drewN {w : World} {b : Nat} {s : Int} (h : Box w b s) (n : Nat) : Box (w.drewN n) b s := h

theorem shlinv_step {l C : List Int} {n q s k m : Nat} {d z d' : Int} {w0 w : World} (hC : C.length = n) (hCl : Lim 18446744073709551616 C) (hr : Row w (w0.heap.size + 1) C) (ha : Box w w0.heap.size s) (hc : Row w (w0.heap.size + 2) [d]) (hb : Below w0.heap.size w0 w)
    (hz : ∀ i, i < q → D C i = 0)
    (he : S 18446744073709551616 (fun i => D C (q + i)) k + d * 18446744073709551616 ^ k = S 18446744073709551616 (D l) k * 2 ^ s) (hk : q + k < n)
    (hz0 : 0 ≤ z) (hz1 : z < 18446744073709551616) (hd0 : 0 ≤ d') (hd1 : d' < 2 ^ s) (he' : D l k * 2 ^ s + d = z + d' * 18446744073709551616) :
    ShlInv l n q s w0 (k + 1) (((w.drewN m).setCell ⟨w0.heap.size + 2, 0, none⟩ (.int .u64 d')).setCell ⟨w0.heap.size + 1, q + k, none⟩ (.int .u64 z)) := by
  refine ⟨C.set (q + k) z, d', by simp [hC], hCl.set _ hz0 hz1, hd0, hd1, ((hr.drewN m).far (by simp) _).set_ _ z, ((ha.drewN m).far (by simp) _).far (by simp) _, ((hc.drewN m).set_ 0 d').far (by simp) _, ((below_drewN hb m).setCell (p := ⟨w0.heap.size + 2, 0, none⟩) (by simp) _).setCell (p := ⟨w0.heap.size + 1, q + k, none⟩) (by simp) _, fun i hi => ?_, ?_⟩
  · rw [D_set z i (by omega), if_neg (by omega)]; exact hz i hi
  · rw [S_succ, S_succ, S_congr (g := fun i => D C (q + i)) (fun i hi => by rw [D_set z (q + i) (by omega), if_neg (by omega)]), D_set z (q + k) (by omega), if_pos rfl, Int.pow_succ]
    generalize (2 : Int) ^ s = P at *
    grind

theorem pow_limbs (q s : Nat) : (2 : Int) ^ (64 * q + s) = 18446744073709551616 ^ q * 2 ^ s := by
  rw [Int.pow_add, Int.pow_mul]; rfl

set_option maxHeartbeats 4000000 in
theorem shiftedUp_any (A : Option Addr) (c : Nat) (l : List Int) (j : Nat) (w : World) (h : Nums w w.heap.size A c l) (hl : Lim 18446744073709551616 l) (hb1 : l.length ≤ 1000000) (hj : j ≤ 64000000) (hpos : 0 < l.length) :
    Calls Tryd.prog 63 #[.slice A l.length c, .int .i64 j] w (Made (val 18446744073709551616 l * 2 ^ j) w) := by
  obtain ⟨q, hq⟩ : ∃ q : Nat, q = j / 64 := ⟨_, rfl⟩
  obtain ⟨s, hs⟩ : ∃ s : Nat, s = j % 64 := ⟨_, rfl⟩
  have hqi : (j : Int) / 64 = (q : Int) := by omega
  have hsi : (j : Int) % 64 = (s : Int) := by omega
  have hs64 : s < 64 := by omega
  have hq2 : q ≤ 1000000 := by omega
  have hj2 : j = 64 * q + s := by omega
  have HJ := Lib.hid hj2
  have HS := Lib.hid hsi
  clear hj2 hq hs hsi
  have hl0 : ((l.length : Int) == 0) = false := beq_eq_false_iff_ne.2 (by omega)
  have hmk := fun W => run_make (q + l.length + 1) (by omega) W
  simp only [Int.natCast_add, Int.natCast_one] at hmk
  go_enter Tryd.func63, Tryd.ntmps63
  go_wp2_with fail
  go_loopw [28] (fun i wr => ∃ k : Nat, k ≤ l.length + 1 ∧ i = .int .i64 k ∧ ShlInv l (q + l.length + 1) q s w k wr) (fun i _ => l.length + 1 - (intOf i).toNat)
  case atStart =>
    have hs0 := HS.out
    rw [hs0]
    refine ⟨0, by omega, rfl, List.replicate (q + l.length + 1) 0, 0, by simp, Lim.zeros (by omega) _, by omega, two_pos s, ?_, ?_, ?_, ?_, fun i _ => D_replicate _ i, ?_⟩
    · have := (Row.new (w.alloc (.cells #[Value.int .i64 s] 3)) (List.replicate (q + l.length + 1) 0)).alloc (.cells #[Value.int .u64 0] 39)
      simpa using this
    · have h0 : Box (w.alloc (.cells #[Value.int .i64 s] 3)) w.heap.size s := heap_alloc_new w _
      exact (h0.alloc _).alloc _
    · have := Row.one ((w.alloc (.cells #[Value.int .i64 s] 3)).alloc (.cells (L (List.replicate (q + l.length + 1) 0)).toArray 39)) 0
      simpa using this
    · exact (((Below.refl _ w).alloc (Nat.le_refl _) _).alloc (by simp) _).alloc (by simp; omega) _
    · simp [S]
  case round =>
    obtain ⟨k, hk, rfl, C, d, hC, hCl, hd0, hd1, hr, ha, hc, hb, hz, he⟩ := hrel
    have HC := Lib.hid hC
    have HE := Lib.hid he
    have HZ := Lib.hid hz
    have hsz := hb.size
    have hgl := hr.lt
    clear hC he hz
    by_cases hkn : k < l.length + 1
    · have hx := D_lim (b := 18446744073709551616) (by omega) hl k
      have c0 := hr.cell (k := q + k) (by rw [HC.out]; omega)
      have f0 := hr.frozen (q + k)
      go_wp2_with (first
        | (go_at_call 66; ((with_reducible refine (limb_any A c l k _ _ (h.below hb)).mono ?_); rintro e w' ⟨rfl, rfl⟩))
        | (go_at_call 85; ((with_reducible refine (shiftstep_any (D l k) d s _ _ _ ha hc hx.1 hx.2 hs64 hd0 hd1).mono ?_); rintro e w' ⟨z, d', m, rfl, hz0, hz1, hd0', hd1', he', rfl⟩)))
      go_roundw
      case rel => exact ⟨k + 1, by omega, by go_num, shlinv_step HC.out hCl hr ha hc hb HZ.out HE.out (by omega) hz0 hz1 hd0' hd1' he'.out⟩
      case measure => simp [intOf]; omega
    · obtain rfl : k = l.length + 1 := by omega
      go_wp2_with (go_at_call 72; ((with_reducible refine (trim_row HC.out hr hCl (by omega) (Nat.le_succ _) hb).mono ?_); rintro e w' ⟨v, A', c', rfl, hs1, hs2, hs3, hs4, hs5⟩; have HS3 := Lib.hid hs3; clear hs3))
      go_ret
      have hlast : val 18446744073709551616 C = val 18446744073709551616 l * 2 ^ j := by
        have hv := HE.out
        have b1 := val_bound (b := 18446744073709551616) (by omega) hl
        rw [S_val (by omega), Int.pow_succ] at hv
        have b2 := S_bound (b := 18446744073709551616) (f := fun i => D C (q + i)) (k := l.length + 1) (by omega) (fun i _ => D_lim (by omega) hCl _)
        have e1 : val 18446744073709551616 C = 18446744073709551616 ^ q * S 18446744073709551616 (fun i => D C (q + i)) (l.length + 1) := by
          rw [← S_val (b := 18446744073709551616) (l := C) (k := q + (l.length + 1)) (by rw [HC.out]; omega), S_split, S_nil (k := q) (fun i hi => HZ.out i hi)]
          omega
        have p1 := pow_pos' (b := 18446744073709551616) (by omega) l.length
        have p2 := two_pos s
        have p3 : (2 : Int) ^ s ≤ 18446744073709551616 := by
          have := pow_split (s := s) (by omega)
          have h1 := two_pos (64 - s)
          have : 0 ≤ (2 : Int) ^ s * (2 ^ (64 - s) - 1) := Int.mul_nonneg (by omega) (by omega)
          grind
        have hd : d = 0 := by
          have h1 : val 18446744073709551616 l * 2 ^ s < 18446744073709551616 ^ l.length * 18446744073709551616 := by
            have a1 : val 18446744073709551616 l * 2 ^ s ≤ val 18446744073709551616 l * 18446744073709551616 := Int.mul_le_mul_of_nonneg_left p3 b1.1
            omega
          generalize S 18446744073709551616 (fun i => D C (q + i)) (l.length + 1) = T at *
          generalize val 18446744073709551616 l * 2 ^ s = V at *
          generalize (18446744073709551616 : Int) ^ l.length = P at *
          rcases (show 0 < d ∨ d ≤ 0 by omega) with h2 | h2
          · have : 0 ≤ (d - 1) * (P * 18446744073709551616) := Int.mul_nonneg (by omega) (by omega)
            grind
          · omega
        subst hd
        rw [e1, HJ.out, pow_limbs]
        generalize S 18446744073709551616 (fun i => D C (q + i)) (l.length + 1) = T at *
        grind
      exact ⟨v, A', c', rfl, hs1, hs2, by rw [HS3.out, hlast], hs4, hs5⟩
end Go.Proofs.YtigphbjgodfhpaaDoor
