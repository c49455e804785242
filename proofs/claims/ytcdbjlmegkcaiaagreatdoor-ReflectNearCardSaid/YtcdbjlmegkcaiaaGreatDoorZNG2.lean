/-
  Layer 2, joined (wip/tools/merge.py): NatS NatH NatI NatJ NatK NatL NatOf NatAK.
  Layer 2, plain facts on shifts of words of 64 bits.
  Layer 2, walks, part seven: the program's product of two numbers; a number times a power of two.
  Layer 2, walks, part eight: a number divided by a power of two.
  Layer 2, walks, part nine: the lowest bits; how many bits; powers of two.
  Layer 2, walks, part ten: how many bits; noughts at the lower end; each bit; what is shifted, as it is handed out.
  Layer 2, walks, part eleven: the program's shifts, bits and noughts, as they are handed out.
  Layer 2: a number of one limb (as in XNatAA; for seats that lack the roots).
  Layer 2, walks, part thirty: Bit, Pow2.
-/
import Derived.WalkKit
import Derived.Laws.BitsAllLaws
import Derived.Laws.BitsLemmas
import Derived.Test.YtcdbjlmegkcaiaaGreatDoorZNG1
import Derived.RegionTactic
import Derived.Lib.ItoaNum
import Derived.Shelf.Spec.TrailingZeros
namespace Go.Proofs.YtcdbjlmegkcaiaaGreatDoor
open Go
set_option linter.unusedVariables false

theorem or_low (i : Nat) (x y : Int) (h0 : 0 ≤ x) (h1 : x < 18446744073709551616) (hx : x % 2 ^ i = 0) (hy : 0 ≤ y) (hy1 : y < 2 ^ i) (hy2 : y < 18446744073709551616) : bits .or .u64 x y = x + y := by
  obtain ⟨x, rfl⟩ := Int.eq_ofNat_of_zero_le h0
  obtain ⟨y, rfl⟩ := Int.eq_ofNat_of_zero_le hy
  rw [u64_or_nat x y (by omega) (by omega)]
  have e : ((2 ^ i : Nat) : Int) = 2 ^ i := by push_cast; rfl
  rw [← e] at hx hy1
  rw [nat_join i x y (by exact_mod_cast hx) (by omega)]
  push_cast; rfl
theorem or_swap (a b : Int) : bits .or .u64 a b = bits .or .u64 b a := by
  show IntKind.u64.wrap _ = IntKind.u64.wrap _
  rw [BitVec.or_comm]

theorem pow_split {s : Nat} (hs : s ≤ 64) : (2 : Int) ^ s * 2 ^ (64 - s) = 18446744073709551616 := by
  rw [← Int.pow_add, show s + (64 - s) = 64 from by omega]; decide
theorem two_pos (s : Nat) : (0 : Int) < 2 ^ s := Int.pow_pos (by decide)

/-- a word times 2^s, in two words -/
theorem shl_parts (x : Int) (s : Nat) (hx : 0 ≤ x) (hx1 : x < 18446744073709551616) (hs : s ≤ 64) :
    ∃ r : Int, 0 ≤ r ∧ r < 2 ^ (64 - s) ∧ 0 ≤ x / 2 ^ (64 - s) ∧ x / 2 ^ (64 - s) < 2 ^ s ∧ x = x / 2 ^ (64 - s) * 2 ^ (64 - s) + r ∧ IntKind.u64.wrap (x * 2 ^ s) = r * 2 ^ s ∧ r * 2 ^ s < 18446744073709551616 ∧ r = x % 2 ^ (64 - s) := by
  have hq := two_pos (64 - s)
  have hp := two_pos s
  have e := pow_split hs
  have h1 := Int.emod_nonneg x (Int.ne_of_gt hq)
  have h2 := Int.emod_lt_of_pos x hq
  have h3 := Int.mul_ediv_add_emod x (2 ^ (64 - s))
  have h4 : 0 ≤ x / 2 ^ (64 - s) := Int.ediv_nonneg hx (Int.le_of_lt hq)
  have h5 : x / 2 ^ (64 - s) < 2 ^ s := Int.ediv_lt_of_lt_mul hq (by rw [e]; exact hx1)
  generalize hr : x % 2 ^ (64 - s) = r at *
  generalize hd : x / 2 ^ (64 - s) = q at *
  generalize (2 : Int) ^ (64 - s) = Q at *
  generalize (2 : Int) ^ s = P at *
  have h6 : r * P < 18446744073709551616 := by
    have : 0 ≤ (Q - 1 - r) * P := Int.mul_nonneg (by omega) (by omega)
    grind
  have h7 : 0 ≤ r * P := Int.mul_nonneg h1 (by omega)
  refine ⟨r, h1, h2, h4, h5, by grind, ?_, h6, rfl⟩
  rw [IntKind.wrap_u64]
  have : x * P = r * P + q * 18446744073709551616 := by grind
  rw [this, Int.add_mul_emod_self_right, Int.emod_eq_of_lt h7 h6]

/-- a step of a shift up: a word, what comes from below, what goes on above -/
theorem shl_ex (x c : Int) (s : Nat) (hx : 0 ≤ x) (hx1 : x < 18446744073709551616) (hs : s < 64) (hc : 0 ≤ c) (hc1 : c < 2 ^ s) :
    ∃ z : Int, bits .or .u64 (IntKind.u64.wrap (x * 2 ^ s)) c = z ∧ 0 ≤ z ∧ z < 18446744073709551616 ∧ 0 ≤ x / 2 ^ (64 - s) ∧ x / 2 ^ (64 - s) < 2 ^ s ∧ x * 2 ^ s + c = z + x / 2 ^ (64 - s) * 18446744073709551616 := by
  obtain ⟨r, r0, r1, q0, q1, he, hw, hl, _⟩ := shl_parts x s hx hx1 (by omega)
  have e := pow_split (s := s) (by omega)
  have hp := two_pos s
  have hq := two_pos (64 - s)
  have hc2 : c < 18446744073709551616 := by
    have : 0 ≤ (2 ^ (64 - s) - 1) * (2 : Int) ^ s := Int.mul_nonneg (by omega) (by omega)
    grind
  have h7 : 0 ≤ r * 2 ^ s := Int.mul_nonneg r0 (by omega)
  have ho := or_low s (r * 2 ^ s) c h7 hl (by rw [Int.mul_emod_left]) hc hc1 hc2
  refine ⟨r * 2 ^ s + c, by rw [hw, ho], by omega, ?_, q0, q1, ?_⟩
  · generalize (2 : Int) ^ (64 - s) = Q at *
    generalize (2 : Int) ^ s = P at *
    have : 0 ≤ (Q - 1 - r) * P := Int.mul_nonneg (by omega) (by omega)
    grind
  · generalize x / 2 ^ (64 - s) = q at *
    generalize (2 : Int) ^ (64 - s) = Q at *
    generalize (2 : Int) ^ s = P at *
    grind

/-- a step of a shift down: a word, and the next one's lower bits -/
theorem shr_ex (x y : Int) (s : Nat) (hx : 0 ≤ x) (hx1 : x < 18446744073709551616) (hs : s < 64) (hy : 0 ≤ y) (hy1 : y < 18446744073709551616) :
    ∃ z : Int, bits .or .u64 (x / 2 ^ s) (IntKind.u64.wrap (y * 2 ^ (64 - s))) = z ∧ 0 ≤ z ∧ z < 18446744073709551616 ∧ z * 2 ^ s + x % 2 ^ s = x + y % 2 ^ s * 18446744073709551616 := by
  have e := pow_split (s := s) (by omega)
  have hp := two_pos s
  have hq := two_pos (64 - s)
  obtain ⟨r, r0, r1, q0, q1, he, hw, hl, hr⟩ := shl_parts y (64 - s) hy hy1 (by omega)
  rw [show 64 - (64 - s) = s from by omega] at r1 q0 q1 he hr
  have h7 : 0 ≤ r * 2 ^ (64 - s) := Int.mul_nonneg r0 (by omega)
  have x0 : 0 ≤ x / 2 ^ s := Int.ediv_nonneg hx (Int.le_of_lt hp)
  have x1 : x / 2 ^ s < 2 ^ (64 - s) := Int.ediv_lt_of_lt_mul hp (by rw [Int.mul_comm, e]; exact hx1)
  have x2 : x / 2 ^ s < 18446744073709551616 := Int.lt_of_le_of_lt (Int.ediv_le_self _ hx) hx1
  have h3 := Int.mul_ediv_add_emod x (2 ^ s)
  have ho := or_low (64 - s) (r * 2 ^ (64 - s)) (x / 2 ^ s) h7 hl (by rw [Int.mul_emod_left]) x0 x1 x2
  refine ⟨r * 2 ^ (64 - s) + x / 2 ^ s, by rw [or_swap, hw, ho], by omega, ?_, ?_⟩
  · generalize x / 2 ^ s = X at *
    generalize (2 : Int) ^ (64 - s) = Q at *
    generalize (2 : Int) ^ s = P at *
    have : 0 ≤ (P - 1 - r) * Q := Int.mul_nonneg (by omega) (by omega)
    grind
  · rw [← hr]
    generalize x / 2 ^ s = X at *
    generalize x % 2 ^ s = R at *
    generalize (2 : Int) ^ (64 - s) = Q at *
    generalize (2 : Int) ^ s = P at *
    grind
end Go.Proofs.YtcdbjlmegkcaiaaGreatDoor
namespace Go.Proofs.YtcdbjlmegkcaiaaGreatDoor
open Go.RowKit
set_option linter.unusedVariables false

/-! ### products, as they are handed out -/
theorem prod_lens {l m : List Int} (hl : Lim 18446744073709551616 l) (hm : Lim 18446744073709551616 m) (nl : Normal l) (nm : Normal m)
    (h1 : l.length ≤ 4096) (h2 : m.length ≤ 4096) (hv : val 18446744073709551616 l * val 18446744073709551616 m < 18446744073709551616 ^ 4096) : l.length + m.length ≤ 4097 := by
  rcases Nat.eq_zero_or_pos l.length with h | h
  · omega
  rcases Nat.eq_zero_or_pos m.length with k | k
  · omega
  have a := normal_ge (b := 18446744073709551616) (by omega) hl nl (fun e => by subst e; simp at h)
  have b := normal_ge (b := 18446744073709551616) (by omega) hm nm (fun e => by subst e; simp at k)
  have p1 := pow_pos' (b := 18446744073709551616) (by omega) (l.length - 1)
  have p2 := pow_pos' (b := 18446744073709551616) (by omega) (m.length - 1)
  have c : (18446744073709551616 : Int) ^ (l.length - 1) * 18446744073709551616 ^ (m.length - 1) ≤ val 18446744073709551616 l * val 18446744073709551616 m := Int.mul_le_mul a b (by omega) (by omega)
  rw [← Int.pow_add] at c
  rcases Nat.lt_or_ge 4097 (l.length + m.length) with g | g
  · have := pow_le' (b := 18446744073709551616) (by omega) (show 4096 ≤ l.length - 1 + (m.length - 1) by omega)
    omega
  · exact g

set_option maxHeartbeats 1000000 in
theorem Mul_any (A : Option Addr) (c : Nat) (l : List Int) (A2 : Option Addr) (c2 : Nat) (m : List Int) (w : World) (h : Nums w w.heap.size A c l) (hl : Lim 18446744073709551616 l)
    (h2 : Nums w w.heap.size A2 c2 m) (hl2 : Lim 18446744073709551616 m) (hlen : (norm l).length ≤ 4096) (hlen2 : (norm m).length ≤ 4096)
    (hv : val 18446744073709551616 l * val 18446744073709551616 m < 18446744073709551616 ^ 4096) :
    Calls Tryz.prog 61 #[.slice A l.length c, .slice A2 m.length c2] w (Made2 (val 18446744073709551616 l * val 18446744073709551616 m) w) := by
  have e1 := norm_val 18446744073709551616 l
  have e2 := norm_val 18446744073709551616 m
  rw [← e1, ← e2] at hv
  rw [← e1, ← e2]
  clear e1 e2
  have hlens := prod_lens (norm_lim hl) (norm_lim hl2) (norm_normal l) (norm_normal m) hlen hlen2 hv
  have HV := Lib.hid hv
  clear hv
  go_enter Tryz.func61, Tryz.ntmps61
  go_wp2_with (first
    | (go_at_call 79; ((with_reducible refine (both_any A c l A2 c2 m _ _ h hl hlen h2 hl2 hlen2).mono ?_); rintro e w' ⟨A', c', A2', c2', rfl, ht, ht2, rfl⟩))
    | (go_at_call 81; ((with_reducible refine (product_any A' c' (norm l) A2' c2' (norm m) _ (ht.nums h) (norm_lim hl) (ht2.nums h2) (norm_lim hl2) (by omega) (by omega)).mono ?_); rintro e w' ⟨s, A3, c3, rfl, hs1, hs2, hs3, hs4, hs5⟩; have hsl := length_le_of_lt (b := 18446744073709551616) (k := 4096) (by omega) hs1 hs2 (by rw [hs3]; exact HV.out); have HS3 := Lib.hid hs3; clear hs3))
    | (go_at_call 80; ((with_reducible refine (answered_any A3 c3 s _ hsl).mono ?_); rintro e w' ⟨rfl, rfl⟩)))
  go_ret2
  exact ⟨s, A3, c3, rfl, hs1, hs2, HS3.out, hs4, hs5⟩

set_option maxHeartbeats 1000000 in
theorem Mul_long (A : Option Addr) (c : Nat) (l : List Int) (A2 : Option Addr) (c2 : Nat) (m : List Int) (w : World) (h : Nums w w.heap.size A c l) (hl : Lim 18446744073709551616 l)
    (h2 : Nums w w.heap.size A2 c2 m) (hl2 : Lim 18446744073709551616 m) (hlen : (norm l).length ≤ 4096) (hlen2 : (norm m).length ≤ 4096)
    (hv : 18446744073709551616 ^ 4096 ≤ val 18446744073709551616 l * val 18446744073709551616 m) :
    Calls Tryz.prog 61 #[.slice A l.length c, .slice A2 m.length c2] w (Fails 3 w) := by
  have e1 := norm_val 18446744073709551616 l
  have e2 := norm_val 18446744073709551616 m
  rw [← e1, ← e2] at hv
  clear e1 e2
  have HV := Lib.hid hv
  clear hv
  by_cases hll : (norm l).length + (norm m).length ≤ 4097
  · go_enter Tryz.func61, Tryz.ntmps61
    go_wp2_with (first
      | (go_at_call 79; ((with_reducible refine (both_any A c l A2 c2 m _ _ h hl hlen h2 hl2 hlen2).mono ?_); rintro e w' ⟨A', c', A2', c2', rfl, ht, ht2, rfl⟩))
      | (go_at_call 81; ((with_reducible refine (product_any A' c' (norm l) A2' c2' (norm m) _ (ht.nums h) (norm_lim hl) (ht2.nums h2) (norm_lim hl2) (by omega) (by omega)).mono ?_); rintro e w' ⟨s, A3, c3, rfl, hs1, hs2, hs3, hs4, hs5⟩; have hsl := lt_length_of_ge (b := 18446744073709551616) (k := 4096) (by omega) hs1 (by rw [hs3]; exact HV.out); have HS3 := Lib.hid hs3; clear hs3))
      | (go_at_call 80; ((with_reducible refine (answered_long A3 c3 s _ hsl).mono ?_); rintro e w' ⟨rfl, rfl⟩)))
    go_ret2
    exact ⟨rfl, hs5⟩
  · go_enter Tryz.func61, Tryz.ntmps61
    go_wp2_with (first
      | (go_at_call 79; ((with_reducible refine (both_any A c l A2 c2 m _ _ h hl hlen h2 hl2 hlen2).mono ?_); rintro e w' ⟨A', c', A2', c2', rfl, ht, ht2, rfl⟩)))
    go_ret2
    exact ⟨rfl, Below.refl _ _⟩

/-! ### a number times a power of two -/
/-- a variable of one whole number -/
def Box (w : World) (b : Nat) (s : Int) : Prop := w.heap[b]? = some (.cells #[.int .i64 s] 3 (0, 0))

/-- a step of a shift up -/
def ShlStep (x c : Int) (s : Nat) (b : Nat) (w : World) (e : Ending) (w' : World) : Prop :=
  ∃ (z d : Int) (n : Nat), e = .returned (.int .u64 z) ∧ 0 ≤ z ∧ z < 18446744073709551616 ∧ 0 ≤ d ∧ d < 2 ^ s ∧ Hid (x * 2 ^ s + c = z + d * 18446744073709551616) ∧ (w.drewN n).setCell ⟨b, 0, none⟩ (.int .u64 d) = w'

set_option maxHeartbeats 1000000 in
theorem shiftstep_any (x c : Int) (s : Nat) (a b : Nat) (w : World) (ha : Box w a s) (h : Row w b [c]) (hx : 0 ≤ x) (hx1 : x < 18446744073709551616) (hs : s < 64) (hc : 0 ≤ c) (hc1 : c < 2 ^ s) :
    Calls Tryz.prog 100 #[.int .u64 x, .pointer (some ⟨a, 0, none⟩), .pointer (some ⟨b, 0, none⟩)] w (ShlStep x c s b w) := by
  have h0 := h.cell (k := 0) (by simp)
  have a0 := cell_of_one ha
  have hfz := h.frozen 0
  simp only [D_cons_zero] at h0
  obtain ⟨z, e1, z0, z1, q0, q1, he⟩ := shl_ex x c s hx hx1 hs hc hc1
  have HE := Lib.hid he
  clear he
  go_enter Tryz.func100, Tryz.ntmps100
  go_wp2_with fail
  go_quiet (fail)
  go_wp2_with fail
  go_ret
  exact ⟨z, x / 2 ^ (64 - s), _, rfl, z0, z1, q0, q1, HE, rfl⟩

/-- the shift's round -/
def ShlInv (l : List Int) (n q s : Nat) (w0 : World) (k : Nat) (w : World) : Prop :=
  ∃ (C : List Int) (d : Int), C.length = n ∧ Lim 18446744073709551616 C ∧ 0 ≤ d ∧ d < 2 ^ s ∧ Row w (w0.heap.size + 1) C ∧ Box w w0.heap.size s ∧ Row w (w0.heap.size + 2) [d] ∧ Below w0.heap.size w0 w ∧ (∀ i, i < q → D C i = 0) ∧
    S 18446744073709551616 (fun i => D C (q + i)) k + d * 18446744073709551616 ^ k = S 18446744073709551616 (D l) k * 2 ^ s

theorem Box.alloc {w : World} {b : Nat} {s : Int} (h : Box w b s) (o : Obj) : Box (w.alloc o) b s := (Below.heap_alloc w o b (lt_of_block h)).trans h
theorem Box.far {w : World} {b : Nat} {s : Int} (h : Box w b s) {p : Addr} (hp : b ≠ p.block) (u : Value) : Box (w.setCell p u) b s := (Below.heap_setCell w p u b hp).trans h
theorem Box.drewN {w : World} {b : Nat} {s : Int} (h : Box w b s) (n : Nat) : Box (w.drewN n) b s := h

theorem shlinv_step {l C : List Int} {n q s k m : Nat} {d z d' : Int} {w0 w : World} (hC : C.length = n) (hCl : Lim 18446744073709551616 C) (hr : Row w (w0.heap.size + 1) C) (ha : Box w w0.heap.size s) (hc : Row w (w0.heap.size + 2) [d]) (hb : Below w0.heap.size w0 w)
    (hz : ∀ i, i < q → D C i = 0)
    (he : S 18446744073709551616 (fun i => D C (q + i)) k + d * 18446744073709551616 ^ k = S 18446744073709551616 (D l) k * 2 ^ s) (hk : q + k < n)
    (hz0 : 0 ≤ z) (hz1 : z < 18446744073709551616) (hd0 : 0 ≤ d') (hd1 : d' < 2 ^ s) (he' : D l k * 2 ^ s + d = z + d' * 18446744073709551616) :
    ShlInv l n q s w0 (k + 1) (((w.drewN m).setCell ⟨w0.heap.size + 2, 0, none⟩ (.int .u64 d')).setCell ⟨w0.heap.size + 1, q + k, none⟩ (.int .u64 z)) := by
  refine ⟨C.set (q + k) z, d', by simp [hC], hCl.set _ hz0 hz1, hd0, hd1, ((hr.drewN m).far (by simp) _).set_ _ z, ((ha.drewN m).far (by simp) _).far (by simp) _, ((hc.drewN m).set_ 0 d').far (by simp) _, ((below_drewN hb m).setCell (p := ⟨w0.heap.size + 2, 0, none⟩) (by simp) _).setCell (p := ⟨w0.heap.size + 1, q + k, none⟩) (by simp) _, fun i hi => ?_, ?_⟩
  · rw [D_set z i (by omega), if_neg (by omega)]; exact hz i hi
  · rw [S_succ, S_succ, S_congr (g := fun i => D C (q + i)) (fun i hi => by rw [D_set z (q + i) (by omega), if_neg (by omega)]), D_set z (q + k) (by omega), if_pos rfl, Int.pow_succ]
    generalize (2 : Int) ^ s = P at *
    grind

theorem pow_limbs (q s : Nat) : (2 : Int) ^ (64 * q + s) = 18446744073709551616 ^ q * 2 ^ s := by
  rw [Int.pow_add, Int.pow_mul]; rfl

set_option maxHeartbeats 4000000 in
theorem shiftedUp_any (A : Option Addr) (c : Nat) (l : List Int) (j : Nat) (w : World) (h : Nums w w.heap.size A c l) (hl : Lim 18446744073709551616 l) (hb1 : l.length ≤ 1000000) (hj : j ≤ 64000000) (hpos : 0 < l.length) :
    Calls Tryz.prog 92 #[.slice A l.length c, .int .i64 j] w (Made (val 18446744073709551616 l * 2 ^ j) w) := by
  obtain ⟨q, hq⟩ : ∃ q : Nat, q = j / 64 := ⟨_, rfl⟩
  obtain ⟨s, hs⟩ : ∃ s : Nat, s = j % 64 := ⟨_, rfl⟩
  have hqi : (j : Int) / 64 = (q : Int) := by omega
  have hsi : (j : Int) % 64 = (s : Int) := by omega
  have hs64 : s < 64 := by omega
  have hq2 : q ≤ 1000000 := by omega
  have hj2 : j = 64 * q + s := by omega
  have HJ := Lib.hid hj2
  have HS := Lib.hid hsi
  clear hj2 hq hs hsi
  have hl0 : ((l.length : Int) == 0) = false := beq_eq_false_iff_ne.2 (by omega)
  have hmk := fun W => run_make (q + l.length + 1) (by omega) W
  simp only [Int.natCast_add, Int.natCast_one] at hmk
  go_enter Tryz.func92, Tryz.ntmps92
  go_wp2_with fail
  go_loopw [28] (fun i wr => ∃ k : Nat, k ≤ l.length + 1 ∧ i = .int .i64 k ∧ ShlInv l (q + l.length + 1) q s w k wr) (fun i _ => l.length + 1 - (intOf i).toNat)
  case atStart =>
    have hs0 := HS.out
    rw [hs0]
    refine ⟨0, by omega, rfl, List.replicate (q + l.length + 1) 0, 0, by simp, Lim.zeros (by omega) _, by omega, two_pos s, ?_, ?_, ?_, ?_, fun i _ => D_replicate _ i, ?_⟩
    · have := (Row.new (w.alloc (.cells #[Value.int .i64 s] 3)) (List.replicate (q + l.length + 1) 0)).alloc (.cells #[Value.int .u64 0] 62)
      simpa using this
    · have h0 : Box (w.alloc (.cells #[Value.int .i64 s] 3)) w.heap.size s := heap_alloc_new w _
      exact (h0.alloc _).alloc _
    · have := Row.one ((w.alloc (.cells #[Value.int .i64 s] 3)).alloc (.cells (L (List.replicate (q + l.length + 1) 0)).toArray 62)) 0
      simpa using this
    · exact (((Below.refl _ w).alloc (Nat.le_refl _) _).alloc (by simp) _).alloc (by simp; omega) _
    · simp [S]
  case round =>
    obtain ⟨k, hk, rfl, C, d, hC, hCl, hd0, hd1, hr, ha, hc, hb, hz, he⟩ := hrel
    have HC := Lib.hid hC
    have HE := Lib.hid he
    have HZ := Lib.hid hz
    have hsz := hb.size
    have hgl := hr.lt
    clear hC he hz
    by_cases hkn : k < l.length + 1
    · have hx := D_lim (b := 18446744073709551616) (by omega) hl k
      have c0 := hr.cell (k := q + k) (by rw [HC.out]; omega)
      have f0 := hr.frozen (q + k)
      go_wp2_with (first
        | (go_at_call 89; ((with_reducible refine (limb_any A c l k _ _ (h.below hb)).mono ?_); rintro e w' ⟨rfl, rfl⟩))
        | (go_at_call 100; ((with_reducible refine (shiftstep_any (D l k) d s _ _ _ ha hc hx.1 hx.2 hs64 hd0 hd1).mono ?_); rintro e w' ⟨z, d', m, rfl, hz0, hz1, hd0', hd1', he', rfl⟩)))
      go_roundw
      case rel => exact ⟨k + 1, by omega, by go_num, shlinv_step HC.out hCl hr ha hc hb HZ.out HE.out (by omega) hz0 hz1 hd0' hd1' he'.out⟩
      case measure => simp [intOf]; omega
    · obtain rfl : k = l.length + 1 := by omega
      go_wp2_with (go_at_call 59; ((with_reducible refine (trim_row HC.out hr hCl (by omega) (Nat.le_succ _) hb).mono ?_); rintro e w' ⟨v, A', c', rfl, hs1, hs2, hs3, hs4, hs5⟩; have HS3 := Lib.hid hs3; clear hs3))
      go_ret
      have hlast : val 18446744073709551616 C = val 18446744073709551616 l * 2 ^ j := by
        have hv := HE.out
        have b1 := val_bound (b := 18446744073709551616) (by omega) hl
        rw [S_val (by omega), Int.pow_succ] at hv
        have b2 := S_bound (b := 18446744073709551616) (f := fun i => D C (q + i)) (k := l.length + 1) (by omega) (fun i _ => D_lim (by omega) hCl _)
        have e1 : val 18446744073709551616 C = 18446744073709551616 ^ q * S 18446744073709551616 (fun i => D C (q + i)) (l.length + 1) := by
          rw [← S_val (b := 18446744073709551616) (l := C) (k := q + (l.length + 1)) (by rw [HC.out]; omega), S_split, S_nil (k := q) (fun i hi => HZ.out i hi)]
          omega
        have p1 := pow_pos' (b := 18446744073709551616) (by omega) l.length
        have p2 := two_pos s
        have p3 : (2 : Int) ^ s ≤ 18446744073709551616 := by
          have := pow_split (s := s) (by omega)
          have h1 := two_pos (64 - s)
          have : 0 ≤ (2 : Int) ^ s * (2 ^ (64 - s) - 1) := Int.mul_nonneg (by omega) (by omega)
          grind
        have hd : d = 0 := by
          have h1 : val 18446744073709551616 l * 2 ^ s < 18446744073709551616 ^ l.length * 18446744073709551616 := by
            have a1 : val 18446744073709551616 l * 2 ^ s ≤ val 18446744073709551616 l * 18446744073709551616 := Int.mul_le_mul_of_nonneg_left p3 b1.1
            omega
          generalize S 18446744073709551616 (fun i => D C (q + i)) (l.length + 1) = T at *
          generalize val 18446744073709551616 l * 2 ^ s = V at *
          generalize (18446744073709551616 : Int) ^ l.length = P at *
          rcases (show 0 < d ∨ d ≤ 0 by omega) with h2 | h2
          · have : 0 ≤ (d - 1) * (P * 18446744073709551616) := Int.mul_nonneg (by omega) (by omega)
            grind
          · omega
        subst hd
        rw [e1, HJ.out, pow_limbs]
        generalize S 18446744073709551616 (fun i => D C (q + i)) (l.length + 1) = T at *
        grind
      exact ⟨v, A', c', rfl, hs1, hs2, by rw [HS3.out, hlast], hs4, hs5⟩
end Go.Proofs.YtcdbjlmegkcaiaaGreatDoor
namespace Go.Proofs.YtcdbjlmegkcaiaaGreatDoor
open Go.RowKit
set_option linter.unusedVariables false

theorem limb_at (A : Option Addr) (c : Nat) (l : List Int) (k : Nat) (i : Int) (hi : i = (k : Int)) (w : World) (B : Nat) (h : Nums w B A c l) :
    Calls Tryz.prog 89 #[.slice A l.length c, .int .i64 i] w fun e w' => e = .returned (.int .u64 (D l k)) ∧ w = w' := by
  subst hi; exact limb_any A c l k w B h

theorem shiftedUp_nil (A : Option Addr) (c : Nat) (j : Int) (w : World) :
    Calls Tryz.prog 92 #[.slice A 0 c, .int .i64 j] w (Made 0 w) := by
  go_enter Tryz.func92, Tryz.ntmps92
  go_wp2_with fail
  go_ret
  exact ⟨[], none, 0, rfl, Lim.nil _, Normal.nil, rfl, Own.nil _ _, Below.refl _ _⟩

theorem shiftedUp_all (A : Option Addr) (c : Nat) (l : List Int) (j : Nat) (w : World) (h : Nums w w.heap.size A c l) (hl : Lim 18446744073709551616 l) (hb1 : l.length ≤ 1000000) (hj : j ≤ 64000000) :
    Calls Tryz.prog 92 #[.slice A l.length c, .int .i64 j] w (Made (val 18446744073709551616 l * 2 ^ j) w) := by
  rcases Nat.eq_zero_or_pos l.length with h0 | h0
  · have hn : l = [] := List.eq_nil_of_length_eq_zero h0
    subst hn
    refine (shiftedUp_nil A c j w).mono ?_
    intro e w' hm
    exact hm.of _ _ (by simp [val_nil])
  · exact shiftedUp_any A c l j w h hl hb1 hj h0

/-- the shift's round -/
def ShrInv (l : List Int) (n q s g : Nat) (w0 : World) (k : Nat) (w : World) : Prop :=
  ∃ C : List Int, C.length = n ∧ Lim 18446744073709551616 C ∧ Row w g C ∧ Below w0.heap.size w0 w ∧
    S 18446744073709551616 (D C) k * 2 ^ s + D l q % 2 ^ s = S 18446744073709551616 (fun i => D l (q + i)) k + D l (q + k) % 2 ^ s * 18446744073709551616 ^ k

theorem shrinv_step {l C : List Int} {n q s k g : Nat} {z : Int} {w0 w : World} (hC : C.length = n) (hCl : Lim 18446744073709551616 C) (hr : Row w g C) (hb : Below w0.heap.size w0 w) (hg : w0.heap.size ≤ g)
    (he : S 18446744073709551616 (D C) k * 2 ^ s + D l q % 2 ^ s = S 18446744073709551616 (fun i => D l (q + i)) k + D l (q + k) % 2 ^ s * 18446744073709551616 ^ k) (hk : k < n)
    (hz0 : 0 ≤ z) (hz1 : z < 18446744073709551616) (he' : z * 2 ^ s + D l (q + k) % 2 ^ s = D l (q + k) + D l (q + k + 1) % 2 ^ s * 18446744073709551616) :
    ShrInv l n q s g w0 (k + 1) (w.setCell ⟨g, k, none⟩ (.int .u64 z)) := by
  refine ⟨C.set k z, by simp [hC], hCl.set _ hz0 hz1, hr.set_ _ z, hb.setCell (p := ⟨g, k, none⟩) hg _, ?_⟩
  rw [S_succ, S_succ, S_congr (g := D C) (fun i hi => by rw [D_set z i (by omega), if_neg (by omega)]), D_set z k (by omega), if_pos rfl, Int.pow_succ]
  rw [show q + (k + 1) = q + k + 1 from by omega]
  generalize D l q % 2 ^ s = r0 at *
  generalize D l (q + k) % 2 ^ s = r1 at *
  generalize D l (q + k + 1) % 2 ^ s = r2 at *
  generalize (2 : Int) ^ s = P at *
  generalize (18446744073709551616 : Int) ^ k = Q at *
  grind
theorem ShrInv.drew {l : List Int} {n q s g k : Nat} {w0 w : World} (h : ShrInv l n q s g w0 k w) : ShrInv l n q s g w0 k w.drew := by
  obtain ⟨C, h1, h2, h3, h4, h5⟩ := h
  exact ⟨C, h1, h2, h3.drew, h4.drew, h5⟩

/-- what a shift down comes to -/
theorem shr_val {l C : List Int} {q s n : Nat} (hl : Lim 18446744073709551616 l) (hC : C.length = n) (hn : q + n = l.length) (hs : s < 64)
    (he : S 18446744073709551616 (D C) n * 2 ^ s + D l q % 2 ^ s = S 18446744073709551616 (fun i => D l (q + i)) n + D l (q + n) % 2 ^ s * 18446744073709551616 ^ n) :
    val 18446744073709551616 C = val 18446744073709551616 l / 2 ^ (64 * q + s) := by
  have e1 : val 18446744073709551616 l = S 18446744073709551616 (D l) q + 18446744073709551616 ^ q * S 18446744073709551616 (fun i => D l (q + i)) n := by
    unfold val; rw [← hn, S_split]
  have b0 := S_of_bound (b := 18446744073709551616) (by omega) hl q
  have hp := two_pos s
  have hq := pow_pos' (b := 18446744073709551616) (by omega) q
  have hlast : D l (q + n) = 0 := D_out (by omega)
  rw [hlast, S_val (by omega)] at he
  have r0 := Int.emod_nonneg (D l q) (Int.ne_of_gt hp)
  have r1 := Int.emod_lt_of_pos (D l q) hp
  rw [pow_limbs, Int.zero_emod, Int.zero_mul, Int.add_zero] at *
  generalize D l q % 2 ^ s = r at *
  generalize S 18446744073709551616 (fun i => D l (q + i)) n = T at *
  generalize S 18446744073709551616 (D l) q = U at *
  generalize (2 : Int) ^ s = P at *
  generalize (18446744073709551616 : Int) ^ q = Q at *
  generalize val 18446744073709551616 C = V at *
  have e2 : Q * T = V * (Q * P) + Q * r := by rw [← he]; grind
  have hle : V * (Q * P) ≤ val 18446744073709551616 l := by
    have : 0 ≤ Q * r := Int.mul_nonneg (by omega) r0
    omega
  have hlt : val 18446744073709551616 l < (V + 1) * (Q * P) := by
    have h1 : 0 ≤ Q * (P - 1 - r) := Int.mul_nonneg (by omega) (by omega)
    have h2 : Q * (P - 1 - r) = Q * P - Q - Q * r := by grind
    have h3 : (V + 1) * (Q * P) = V * (Q * P) + Q * P := by grind
    omega
  have hQP : 0 < Q * P := Int.mul_pos hq hp
  have h1 : V ≤ val 18446744073709551616 l / (Q * P) := (Int.le_ediv_iff_mul_le hQP).2 hle
  have h2 : val 18446744073709551616 l / (Q * P) < V + 1 := (Int.ediv_lt_iff_lt_mul hQP).2 hlt
  omega

set_option maxHeartbeats 4000000 in
theorem shiftedDown_in (A : Option Addr) (c : Nat) (l : List Int) (j : Nat) (w : World) (h : Nums w w.heap.size A c l) (hl : Lim 18446744073709551616 l) (hb1 : l.length ≤ 1000000) (hj : j / 64 < l.length) :
    Calls Tryz.prog 78 #[.slice A l.length c, .int .i64 j] w (Made (val 18446744073709551616 l / 2 ^ j) w) := by
  obtain ⟨q, hq⟩ : ∃ q : Nat, q = j / 64 := ⟨_, rfl⟩
  obtain ⟨s, hs⟩ : ∃ s : Nat, s = j % 64 := ⟨_, rfl⟩
  have hqi : (j : Int) / 64 = (q : Int) := by omega
  have hsi : (j : Int) % 64 = (s : Int) := by omega
  have hs64 : s < 64 := by omega
  have hq2 : q < l.length := by omega
  have hj2 : j = 64 * q + s := by omega
  obtain ⟨n, hn⟩ : ∃ n : Nat, q + n = l.length := ⟨l.length - q, by omega⟩
  have hni : (l.length : Int) - q = (n : Int) := by omega
  have hn1 : n ≤ l.length := by omega
  have hlq : decide (l.length ≤ q) = false := decide_eq_false (by omega)
  have HN := Lib.hid hn
  have HJ := Lib.hid hj2
  clear hj2 hq hs hn hj
  have hmk := fun W => run_make n (by omega) W
  go_enter Tryz.func78, Tryz.ntmps78
  go_wp2_with fail
  rw [hsi]
  go_loopw [24] (fun i wr => ∃ k : Nat, k ≤ n ∧ i = .int .i64 k ∧ ShrInv l n q s w.heap.size w k wr) (fun i _ => n - (intOf i).toNat)
  case atStart =>
    exact ⟨0, by omega, rfl, List.replicate n 0, by simp, Lim.zeros (by omega) _, Row.new _ _, (Below.refl _ w).alloc (Nat.le_refl _) _, by simp [S]⟩
  case round =>
    obtain ⟨k, hk, rfl, C, hC, hCl, hr, hb, he⟩ := hrel
    have HC := Lib.hid hC
    have HE := Lib.hid he
    have hsz := hb.size
    have hgl := hr.lt
    clear hC he
    by_cases hkn : k < n
    · have hx := D_lim (b := 18446744073709551616) (by omega) hl (q + k)
      have hy := D_lim (b := 18446744073709551616) (by omega) hl (q + k + 1)
      have hqk : q + k < l.length := by have := HN.out; omega
      obtain ⟨ad, rfl, hadb, c1⟩ := (h.below hb).at_ hqk
      have c0 := hr.cell (k := k) (by rw [HC.out]; exact hkn)
      have f0 := hr.frozen k
      obtain ⟨z, ez, z0, z1, hez⟩ := shr_ex (D l (q + k)) (D l (q + k + 1)) s hx.1 hx.2 hs64 hy.1 hy.2
      have HZ := Lib.hid hez
      have i0 : (0 : Int) ≤ (k : Int) := by omega
      have i1 : (k : Int) < n := by omega
      have i2 : (0 : Int) ≤ (q : Int) + k := by omega
      have i3 : (q : Int) + k < l.length := by omega
      have hw1 : IntKind.i64.wrap ((q : Int) + k) = (q : Int) + k := IntWalk.i64_in _ (by omega)
      have hw2 : IntKind.i64.wrap ((q : Int) + k + 1) = (q : Int) + k + 1 := IntWalk.i64_in _ (by omega)
      have hw3 : IntKind.i64.wrap (64 - (s : Int)) = 64 - (s : Int) := IntWalk.i64_in _ (by omega)
      have ht1 : ((q : Int) + k).toNat = q + k := by omega
      have ht3 : (64 - (s : Int)).toNat = 64 - s := by omega
      have i4 : (0 : Int) ≤ 64 - s := by omega
      have hlimb := fun W (hW : Nums W w.heap.size (some ad) c l) => limb_at (some ad) c l (q + k + 1) ((q : Int) + k + 1) (by omega) W w.heap.size hW
      have HL := Lib.hid hlimb
      clear hlimb hez
      go_wp2_with fail
      go_region_with ((go_at_call 89; ((with_reducible refine (HL.out _ (h.below hb).drew).mono ?_); rintro e w' ⟨rfl, rfl⟩)))
      all_goals
        go_wp2_with fail
        go_roundw
        case rel => exact ⟨k + 1, by omega, by go_num, (shrinv_step HC.out hCl hr hb (Nat.le_refl _) HE.out hkn z0 z1 HZ.out).drew⟩
        case measure => simp [intOf]; omega
    · obtain rfl : k = n := by omega
      go_wp2_with (go_at_call 59; ((with_reducible refine (trim_row HC.out hr hCl (by omega) (Nat.le_refl _) hb).mono ?_); rintro e w' ⟨v, A', c', rfl, hs1, hs2, hs3, hs4, hs5⟩; have HS3 := Lib.hid hs3; clear hs3))
      go_ret
      exact ⟨v, A', c', rfl, hs1, hs2, by rw [HS3.out, HJ.out]; exact shr_val hl HC.out HN.out hs64 HE.out, hs4, hs5⟩

theorem shiftedDown_out (A : Option Addr) (c : Nat) (l : List Int) (j : Nat) (w : World) (h : Nums w w.heap.size A c l) (hl : Lim 18446744073709551616 l) (hb1 : l.length ≤ 1000000) (hj2 : j ≤ 9223372036854775807) (hj : l.length ≤ j / 64) :
    Calls Tryz.prog 78 #[.slice A l.length c, .int .i64 j] w fun e w' => e = .returned (.slice none 0 0) ∧ w = w' := by
  have h1 : (l.length : Int) ≤ (j : Int) / 64 := by omega
  go_enter Tryz.func78, Tryz.ntmps78
  go_wp2_with fail
  go_ret
  exact ⟨rfl, rfl⟩

theorem shr_zero {l : List Int} {j : Nat} (hl : Lim 18446744073709551616 l) (hj : l.length ≤ j / 64) : val 18446744073709551616 l / 2 ^ j = 0 := by
  have b1 := val_bound (b := 18446744073709551616) (by omega) hl
  have e : (18446744073709551616 : Int) ^ l.length = 2 ^ (64 * l.length) := by have := pow_limbs l.length 0; simp at this; exact this.symm
  have := pow_le' (b := 2) (by omega) (show 64 * l.length ≤ j by omega)
  exact Int.ediv_eq_zero_of_lt b1.1 (by omega)

theorem shiftedDown_any (A : Option Addr) (c : Nat) (l : List Int) (j : Nat) (w : World) (h : Nums w w.heap.size A c l) (hl : Lim 18446744073709551616 l) (hb1 : l.length ≤ 1000000) (hj2 : j ≤ 9223372036854775807) :
    Calls Tryz.prog 78 #[.slice A l.length c, .int .i64 j] w (Made (val 18446744073709551616 l / 2 ^ j) w) := by
  rcases Nat.lt_or_ge (j / 64) l.length with h0 | h0
  · exact shiftedDown_in A c l j w h hl hb1 h0
  · refine (shiftedDown_out A c l j w h hl hb1 hj2 h0).mono ?_
    rintro e w' ⟨rfl, rfl⟩
    exact ⟨[], none, 0, rfl, Lim.nil _, Normal.nil, by rw [shr_zero hl h0]; rfl, Own.nil _ _, Below.refl _ _⟩
end Go.Proofs.YtcdbjlmegkcaiaaGreatDoor
namespace Go.Proofs.YtcdbjlmegkcaiaaGreatDoor
open Go.RowKit
set_option linter.unusedVariables false

theorem Own.take {w : World} {B c : Nat} {A : Option Addr} {l : List Int} (h : Own w B A c l) (k : Nat) (hk : k ≤ l.length) (h0 : 0 < k) : Own w B A c (l.take k) := by
  have e : (l.take k).length = k := by rw [List.length_take]; omega
  unfold Own
  rw [e]
  refine ⟨by rw [L_length, e]; omega, .inr ?_⟩
  rcases h.2 with ⟨h1, h2⟩ | ⟨g, cap, cur, hv, hg, hh, h3, h4, h5, h6⟩
  · omega
  · injection hv with hA hn hc
    subst hA; subst hc
    refine ⟨g, c, cur, rfl, hg, hh, by omega, h4, h5, ?_⟩
    have h7 := congrArg (List.take (k * 1)) h6
    rw [List.take_take] at h7
    rw [show min (k * 1) (l.length * 1) = k * 1 from by omega] at h7
    rw [h7]
    simp [L, List.map_take]
theorem Trims.own {w : World} {B c : Nat} {A A' : Option Addr} {c' : Nat} {l : List Int} (t : Trims A c A' c' (norm l)) (h : Own w B A c l) : Own w B A' c' (norm l) := by
  rcases t with ⟨rfl, rfl, e⟩ | ⟨rfl, rfl, hne⟩
  · rw [e]; exact Own.nil _ _
  · have : 0 < (norm l).length := List.length_pos_iff.2 hne
    rw [norm_take l]
    exact h.take _ (norm_length l) this

/-- a slice of the call's own, without the noughts at its end -/
theorem trim_own {A : Option Addr} {c : Nat} {l : List Int} {w0 w : World} (h : Own w w0.heap.size A c l) (hl : Lim 18446744073709551616 l) (hb : Below w0.heap.size w0 w) :
    Calls Tryz.prog 59 #[.slice A l.length c] w (Made (val 18446744073709551616 l) w0) := by
  refine (trim_any A c l w w.heap.size h.nums hl).mono ?_
  rintro e w' ⟨A', c', rfl, ht, rfl⟩
  exact ⟨norm l, A', c', rfl, norm_lim hl, norm_normal l, norm_val _ l, ht.own h, hb⟩

theorem Own.cellAt {w : World} {B c g : Nat} {l : List Int} (h : Own w B (some ⟨g, 0, none⟩) c l) {k : Nat} (hk : k < l.length) : w.cell? ⟨g, k, none⟩ = some (.int .u64 (D l k)) := by
  rw [World.ownsRow.cellAt h k (by omega), L_get hk]
theorem Own.frozenAt {w : World} {B c g : Nat} {l : List Int} (h : Own w B (some ⟨g, 0, none⟩) c l) (k : Nat) : w.frozen? ⟨g, k, none⟩ = false := World.ownsRow.frozenAt h k
theorem Own.set_ {w : World} {B c g : Nat} {l : List Int} (h : Own w B (some ⟨g, 0, none⟩) c l) (k : Nat) (v : Int) : Own (w.setCell ⟨g, k, none⟩ (.int .u64 v)) B (some ⟨g, 0, none⟩) c (l.set k v) := by
  unfold Own
  rw [List.length_set]
  have := (World.ownsRow.stored h k (.int .u64 v)).1
  simpa [L, List.map_set] using this
theorem Own.drew {w : World} {B c : Nat} {A : Option Addr} {l : List Int} (h : Own w B A c l) : Own w.drew B A c l := h

theorem and_low (s : Nat) (hs : s ≤ 64) (x : Int) (h0 : 0 ≤ x) (h1 : x < 18446744073709551616) : bits .and .u64 x (2 ^ s - 1) = x % 2 ^ s :=
  bits_mask .u64 64 (by decide) (fun n a b => by rw [IntKind.wrap_u64]; omega) s hs x h0 (by omega)

/-- the lowest bits of a number -/
theorem low_val {l : List Int} {q s : Nat} (hl : Lim 18446744073709551616 l) (hq : q < l.length) (hs : s < 64) :
    val 18446744073709551616 ((l.take (q + 1)).set q (D l q % 2 ^ s)) = val 18446744073709551616 l % 2 ^ (64 * q + s) := by
  have e0 : ((l.take (q + 1)).set q (D l q % 2 ^ s)).length = q + 1 := by rw [List.length_set, List.length_take]; omega
  have e1 : val 18446744073709551616 ((l.take (q + 1)).set q (D l q % 2 ^ s)) = S 18446744073709551616 (D l) q + D l q % 2 ^ s * 18446744073709551616 ^ q := by
    unfold val
    rw [e0, S_succ, D_set _ _ (by rw [List.length_take]; omega), if_pos rfl]
    rw [S_congr (g := D l) (fun i hi => by rw [D_set _ _ (by rw [List.length_take]; omega), if_neg (by omega), D_take, if_pos (by omega)])]
  have e2 := val_take_drop 18446744073709551616 l (q + 1) (by omega)
  rw [S_succ, Int.pow_succ] at e2
  have b0 := S_of_bound (b := 18446744073709551616) (by omega) hl q
  have hp := two_pos s
  have hP := pow_split (s := s) (by omega)
  have hd := Int.mul_ediv_add_emod (D l q) (2 ^ s)
  have r0 := Int.emod_nonneg (D l q) (Int.ne_of_gt hp)
  have r1 := Int.emod_lt_of_pos (D l q) hp
  rw [e1, e2, pow_limbs]
  generalize D l q % 2 ^ s = r at *
  generalize D l q / 2 ^ s = y at *
  generalize val 18446744073709551616 (l.drop (q + 1)) = T at *
  generalize S 18446744073709551616 (D l) q = U at *
  generalize (2 : Int) ^ (64 - s) = Z at *
  generalize (2 : Int) ^ s = P at *
  have hQ := pow_pos' (b := 18446744073709551616) (by omega) q
  generalize (18446744073709551616 : Int) ^ q = Q at *
  have e3 : U + D l q * Q + Q * 18446744073709551616 * T = (U + r * Q) + (Q * P) * (y + Z * T) := by
    rw [← hP, ← hd]; grind
  rw [e3, Int.add_mul_emod_self_left]
  have h0 : 0 ≤ r * Q := Int.mul_nonneg r0 (by omega)
  have h1 : 0 ≤ (P - 1 - r) * Q := Int.mul_nonneg (by omega) (by omega)
  have h2 : (P - 1 - r) * Q = Q * P - Q - r * Q := by grind
  exact (Int.emod_eq_of_lt (by omega) (by omega)).symm

end Go.Proofs.YtcdbjlmegkcaiaaGreatDoor
namespace Go.Proofs.YtcdbjlmegkcaiaaGreatDoor
open Go.RowKit
set_option linter.unusedVariables false

/-- n is the least number of bits that v fits in -/
def IsBits (v : Int) (n : Nat) : Prop := 0 ≤ v ∧ v < 2 ^ n ∧ (0 < n → 2 ^ (n - 1) ≤ v)
theorem IsBits.unique {v : Int} {m n : Nat} (h : IsBits v m) (k : IsBits v n) : m = n := by
  obtain ⟨a0, a1, a2⟩ := h
  obtain ⟨b0, b1, b2⟩ := k
  rcases Nat.lt_trichotomy m n with g | g | g
  · have := pow_le' (b := 2) (by omega) (show m ≤ n - 1 by omega)
    have := b2 (by omega)
    omega
  · exact g
  · have := pow_le' (b := 2) (by omega) (show n ≤ m - 1 by omega)
    have := a2 (by omega)
    omega
theorem pow64 (n : Nat) : (18446744073709551616 : Int) ^ n = 2 ^ (64 * n) := by have := pow_limbs n 0; simp at this; exact this.symm

theorem top_bits (x : Int) (h0 : 0 < x) (h1 : x < 18446744073709551616) : 1 ≤ Lib.bitLen x.toNat ∧ Lib.bitLen x.toNat ≤ 64 ∧ (2 : Int) ^ (Lib.bitLen x.toNat - 1) ≤ x ∧ x < 2 ^ Lib.bitLen x.toNat := by
  obtain ⟨x, rfl⟩ := Int.eq_ofNat_of_zero_le (Int.le_of_lt h0)
  obtain ⟨a, b, c⟩ := Lib.bitLenAux_bounds 64 x (by omega) (by omega)
  have d := Lib.bitLen_le x 64 (by omega) (by omega)
  have e1 : ((2 ^ (Lib.bitLenAux 64 x - 1) : Nat) : Int) = 2 ^ (Lib.bitLenAux 64 x - 1) := by push_cast; rfl
  have e2 : ((2 ^ (Lib.bitLenAux 64 x) : Nat) : Int) = 2 ^ (Lib.bitLenAux 64 x) := by push_cast; rfl
  simp only [Int.toNat_natCast]
  unfold Lib.bitLen at *
  exact ⟨a, d, by omega, by omega⟩

theorem isBits_of_top {l : List Int} {t : Nat} (hl : Lim 18446744073709551616 l) (hn : 0 < l.length) (ht : 1 ≤ t) (h1 : (2 : Int) ^ (t - 1) ≤ D l (l.length - 1)) (h2 : D l (l.length - 1) < 2 ^ t) :
    IsBits (val 18446744073709551616 l) (64 * (l.length - 1) + t) := by
  have b := val_bound (b := 18446744073709551616) (by omega) hl
  have hs := S_of_bound (b := 18446744073709551616) (by omega) hl (l.length - 1)
  have e : val 18446744073709551616 l = S 18446744073709551616 (D l) (l.length - 1) + D l (l.length - 1) * 18446744073709551616 ^ (l.length - 1) := by
    unfold val; rw [← S_succ]; congr 1; omega
  have hp := pow_pos' (b := 18446744073709551616) (by omega) (l.length - 1)
  refine ⟨b.1, ?_, fun _ => ?_⟩
  · rw [pow_limbs, e]
    have : 0 ≤ 18446744073709551616 ^ (l.length - 1) * (2 ^ t - 1 - D l (l.length - 1)) := Int.mul_nonneg (by omega) (by omega)
    generalize (18446744073709551616 : Int) ^ (l.length - 1) = P at *
    generalize (2 : Int) ^ t = Q at *
    generalize D l (l.length - 1) = x at *
    have e2 : P * (Q - 1 - x) = P * Q - P - x * P := by grind
    omega
  · rw [show 64 * (l.length - 1) + t - 1 = 64 * (l.length - 1) + (t - 1) from by omega, pow_limbs, e]
    have : 0 ≤ 18446744073709551616 ^ (l.length - 1) * (D l (l.length - 1) - 2 ^ (t - 1)) := Int.mul_nonneg (by omega) (by omega)
    generalize (18446744073709551616 : Int) ^ (l.length - 1) = P at *
    generalize (2 : Int) ^ (t - 1) = Q at *
    generalize D l (l.length - 1) = x at *
    have e2 : P * (x - Q) = x * P - P * Q := by grind
    omega

def BitsPost (v : Int) (w : World) (e : Ending) (w' : World) : Prop := ∃ n : Nat, e = .returned (.int .i64 n) ∧ IsBits v n ∧ w = w'

theorem bitsOf_nil (A : Option Addr) (c : Nat) (w : World) : Calls Tryz.prog 91 #[.slice A 0 c] w (BitsPost 0 w) := by
  go_enter Tryz.func91, Tryz.ntmps91
  go_wp2_with fail
  go_ret
  exact ⟨0, rfl, ⟨by omega, by simp, fun h => absurd h (by omega)⟩, rfl⟩

set_option maxHeartbeats 1000000 in
theorem bitsOf_any (A : Option Addr) (c : Nat) (l : List Int) (w : World) (B : Nat) (h : Nums w B A c l) (hl : Lim 18446744073709551616 l) (nl : Normal l) (hb1 : l.length ≤ 1000000) :
    Calls Tryz.prog 91 #[.slice A l.length c] w (BitsPost (val 18446744073709551616 l) w) := by
  rcases Nat.eq_zero_or_pos l.length with h0 | h0
  · have hn : l = [] := List.eq_nil_of_length_eq_zero h0
    subst hn
    exact bitsOf_nil A c w
  · have hl0 : ((l.length : Int) == 0) = false := beq_eq_false_iff_ne.2 (by omega)
    have hk : l.length - 1 < l.length := by omega
    obtain ⟨ad, rfl, hadb, c1⟩ := h.at_ hk
    have hx := D_lim (b := 18446744073709551616) (by omega) hl (l.length - 1)
    have hx0 : D l (l.length - 1) ≠ 0 := by
      rcases nl with h1 | h1
      · rw [h1] at h0; simp at h0
      · exact h1
    obtain ⟨t1, t2, t3, t4⟩ := top_bits (D l (l.length - 1)) (by omega) hx.2
    have hb := isBits_of_top hl h0 t1 t3 t4
    obtain ⟨t, ht⟩ : ∃ t, Lib.bitLen (D l (l.length - 1)).toNat = t := ⟨_, rfl⟩
    have hlz := Tryz.bits_LeadingZeros64 (D l (l.length - 1)) w hx.1 (by omega)
    rw [ht] at hb t1 t2 hlz
    have HZ := Lib.hid hlz
    have h1 : (1 : Int) ≤ l.length := by omega
    clear hlz ht t3 t4 hx0
    go_enter Tryz.func91, Tryz.ntmps91
    go_wp2_with (go_at_call 99; ((with_reducible refine HZ.out.mono ?_); rintro e w' ⟨rfl, rfl⟩))
    go_ret
    exact ⟨64 * (l.length - 1) + t, ret_int (by omega), hb, rfl⟩

/-! ### noughts at the lower end -/
/-- the library's table, as it is laid -/
def Tab (w : World) : Prop := TabAt 1 Lib.deBruijn64tab w
theorem Tab.lt {w : World} (h : Tab w) : 1 < w.heap.size := by
  have h0 := h 0 (by decide)
  rcases Nat.lt_or_ge 1 w.heap.size with g | g
  · exact g
  · simp [World.cell?, Array.getElem?_eq_none g] at h0
theorem Tab.below {w w' : World} {B : Nat} (h : Tab w) (hb : Below B w w') (hB : 1 < B) : Tab w' := fun j hj => by
  rw [hb.cell hB]; exact h j hj

/-- v is an odd number times 2^k -/
def IsZeros (v : Int) (k : Nat) : Prop := ∃ m : Int, 0 ≤ m ∧ v = 2 ^ k * (2 * m + 1)

set_option maxHeartbeats 1000000 in
theorem tz_core (x k idx : Nat) (w : World) (hx0 : ((x : Int) == 0) = false)
    (key : IntKind.u64.wrap (bits BinOp.and IntKind.u64 (x : Int) (IntKind.u64.wrap (-(x : Int))) * 285870213051353865) / 288230376151711744 = (idx : Int))
    (hi : idx < 64) (hk : k < 64) (hcell : w.cell? ⟨1, idx, none⟩ = some (.int .u8 k)) :
    Calls Tryz.prog 88 #[.int .u64 x] w fun e w' => e = .returned (.int .i64 k) ∧ w = w' := by
  go_enter Tryz.func88, Tryz.ntmps88
  go_wp2_with (simp only [key])
  go_ret
  exact ⟨rfl, rfl⟩

theorem tz_any (x : Int) (w : World) (h0 : 0 < x) (h1 : x < 18446744073709551616) (hT : Tab w) :
    ∃ k : Nat, k < 64 ∧ IsZeros x k ∧ Calls Tryz.prog 88 #[.int .u64 x] w fun e w' => e = .returned (.int .i64 k) ∧ w = w' := by
  obtain ⟨x, rfl⟩ := Int.eq_ofNat_of_zero_le (Int.le_of_lt h0)
  have hx0 : x ≠ 0 := by omega
  have hx : x < 18446744073709551616 := by omega
  obtain ⟨hlow, hk⟩ := Lib.lowest_bit 64 x hx0 hx
  obtain ⟨hi, htab⟩ := Lib.deBruijn64_at _ hk
  have hcell := hT _ hi
  rw [htab] at hcell
  have key := tz64_key x _ hx hx0 hlow
  refine ⟨Lib.ctz 64 x, hk, ?_, tz_core x _ _ w (beq_eq_false_iff_ne.2 (by omega)) key hi hk hcell⟩
  obtain ⟨m, hm, _⟩ := Lib.ctzFrom_spec 64 x (Nat.pos_of_ne_zero hx0) hx
  refine ⟨m, Int.natCast_nonneg m, ?_⟩
  have e : Lib.ctz 64 x = Lib.ctzFrom 64 x := by unfold Lib.ctz; rw [if_neg hx0]
  rw [e]
  generalize Lib.ctzFrom 64 x = t at *
  rw [hm]
  push_cast
  rfl

/-- how often 2 divides v (0 of 0) -/
def ZerosPost (v : Int) (w : World) (e : Ending) (w' : World) : Prop := ∃ n : Nat, e = .returned (.int .i64 n) ∧ n ≤ 64000000 ∧ (v = 0 → n = 0) ∧ (v ≠ 0 → IsZeros v n) ∧ w = w'

theorem isZeros_at {l : List Int} {i k : Nat} (hl : Lim 18446744073709551616 l) (hi : i < l.length) (hz : ∀ j, j < i → D l j = 0) (hk : IsZeros (D l i) k) (hk2 : k < 64) : IsZeros (val 18446744073709551616 l) (64 * i + k) := by
  obtain ⟨m, hm, e⟩ := hk
  have h1 := val_take_drop 18446744073709551616 l (i + 1) (by omega)
  rw [S_succ, S_nil hz, Int.pow_succ] at h1
  have hP := pow_split (s := k + 1) (by omega)
  have b := val_bound (b := 18446744073709551616) (by omega) (hl.drop (i + 1))
  have hq := two_pos (64 - (k + 1))
  refine ⟨m + 2 ^ (64 - (k + 1)) * val 18446744073709551616 (l.drop (i + 1)), by have := Int.mul_nonneg (Int.le_of_lt hq) b.1; omega, ?_⟩
  rw [pow_limbs, h1, e]
  rw [Int.pow_succ] at hP
  generalize (2 : Int) ^ (64 - (k + 1)) = Z at *
  generalize (2 : Int) ^ k = P at *
  generalize (18446744073709551616 : Int) ^ i = Q at *
  generalize val 18446744073709551616 (l.drop (i + 1)) = T at *
  rw [← hP]
  grind

set_option maxHeartbeats 2000000 in
theorem zeros_any (A : Option Addr) (c : Nat) (l : List Int) (w : World) (B : Nat) (h : Nums w B A c l) (hl : Lim 18446744073709551616 l) (hb1 : l.length ≤ 1000000) (hT : Tab w) :
    Calls Tryz.prog 77 #[.slice A l.length c] w (ZerosPost (val 18446744073709551616 l) w) := by
  have HT := Lib.hid hT
  clear hT
  go_enter Tryz.func77, Tryz.ntmps77
  go_wp2_with fail
  go_loop [6] (fun i => ∃ k : Nat, k ≤ l.length ∧ i = .int .i64 k ∧ ∀ j, j < k → D l j = 0) (fun i => l.length - (intOf i).toNat)
  case atStart => exact ⟨0, by omega, rfl, fun j hj => absurd hj (by omega)⟩
  case round =>
    obtain ⟨k, hk, rfl, hz⟩ := hrel
    have HZ := Lib.hid hz
    clear hz
    by_cases hkl : k < l.length
    · obtain ⟨ad, rfl, hadb, c1⟩ := h.at_ hkl
      have hx := D_lim (b := 18446744073709551616) (by omega) hl k
      have i0 : (0 : Int) ≤ k := by omega
      have i1 : (k : Int) < l.length := by omega
      by_cases hd : D l k = 0
      · have hd' : (D l k != 0) = false := by simpa using hd
        have HD := Lib.hid hd
        clear hd
        go_wp2_with fail
        go_round
        case rel =>
          refine ⟨k + 1, by omega, by go_num, fun j hj => ?_⟩
          rcases Nat.lt_or_ge j k with h3 | h3
          · exact HZ.out j h3
          · obtain rfl : j = k := by omega
            exact HD.out
        case measure => simp [intOf]; omega
      · have hd' : (D l k != 0) = true := by simpa using hd
        obtain ⟨t, ht1, ht2, ht3⟩ := tz_any (D l k) w (by omega) hx.2 HT.out
        have H3 := Lib.hid ht3
        have hz2 := isZeros_at hl hkl HZ.out ht2 ht1
        have HZ2 := Lib.hid hz2
        clear ht3 hz2 hd
        go_wp2_with (go_at_call 88; ((with_reducible refine H3.out.mono ?_); rintro e w' ⟨rfl, rfl⟩))
        go_ret
        refine ⟨64 * k + t, ret_int (by omega), by omega, fun h4 => ?_, fun _ => HZ2.out, rfl⟩
        obtain ⟨m, hm, e⟩ := HZ2.out
        have := two_pos (64 * k + t)
        rw [h4] at e
        rcases Int.mul_eq_zero.1 e.symm with h5 | h5 <;> omega
    · obtain rfl : k = l.length := by omega
      go_wp2_with fail
      go_ret
      have hv : val 18446744073709551616 l = 0 := S_nil (fun i hi => HZ.out i hi)
      exact ⟨0, rfl, by omega, fun _ => rfl, fun h4 => absurd hv h4, rfl⟩
end Go.Proofs.YtcdbjlmegkcaiaaGreatDoor
namespace Go.Proofs.YtcdbjlmegkcaiaaGreatDoor
open Go.RowKit
set_option linter.unusedVariables false

theorem val_pos_len {l : List Int} (h : val 18446744073709551616 l ≠ 0) : 0 < l.length := by
  rcases Nat.eq_zero_or_pos l.length with k | k
  · have : l = [] := List.eq_nil_of_length_eq_zero k
    subst this; exact absurd rfl h
  · exact k

section
variable (A : Option Addr) (c : Nat) (l : List Int) (w : World) (h : Nums w w.heap.size A c l) (hl : Lim 18446744073709551616 l) (hlen : (norm l).length ≤ 4096)
include h hl hlen

set_option maxHeartbeats 1000000 in
theorem Shl_neg (j : Int) (hj : j < 0) : Calls Tryz.prog 84 #[.slice A l.length c, .int .i64 j] w (Fails 2 w) := by
  go_enter Tryz.func84, Tryz.ntmps84
  go_wp2_with (go_at_call 76; ((with_reducible refine (taken_any A c l _ _ h hl hlen).mono ?_); rintro e w' ⟨A', c', rfl, ht, rfl⟩))
  go_ret2
  exact ⟨rfl, Below.refl _ _⟩

set_option maxHeartbeats 1000000 in
theorem Shl_any (j : Nat) (hv0 : val 18446744073709551616 l ≠ 0) (hv : val 18446744073709551616 l * 2 ^ j < 2 ^ 262144) :
    Calls Tryz.prog 84 #[.slice A l.length c, .int .i64 j] w (Made2 (val 18446744073709551616 l * 2 ^ j) w) := by
  have e1 := norm_val 18446744073709551616 l
  rw [← e1] at hv hv0
  rw [← e1]
  have hpos := val_pos_len hv0
  have hb0 := (val_bound (b := 18446744073709551616) (by omega) (norm_lim hl)).1
  have hbits : ∀ n, IsBits (val 18446744073709551616 (norm l)) n → n + j ≤ 262144 := by
    rintro n ⟨a, b, d⟩
    rcases Nat.eq_zero_or_pos n with k | k
    · subst k; simp at b; omega
    · rcases Nat.lt_or_ge 262144 (n + j) with g | g
      · have h1 := pow_le' (b := 2) (by omega) (show 262144 ≤ n - 1 + j by omega)
        rw [Int.pow_add] at h1
        have h2 := Int.mul_le_mul_of_nonneg_right (d k) (Int.le_of_lt (two_pos j))
        generalize (2 : Int) ^ 262144 = Z at *
        omega
      · exact g
  have HB := Lib.hid hbits
  clear e1 hbits hv hv0
  go_enter Tryz.func84, Tryz.ntmps84
  go_wp2_with (first
    | (go_at_call 76; ((with_reducible refine (taken_any A c l _ _ h hl hlen).mono ?_); rintro e w' ⟨A', c', rfl, ht, rfl⟩))
    | (go_at_call 91; ((with_reducible refine (bitsOf_any A' c' (norm l) _ _ (ht.nums h) (norm_lim hl) (norm_normal l) (by omega)).mono ?_); rintro e w' ⟨n, rfl, hn, rfl⟩; have hnj := HB.out n hn))
    | (go_at_call 92; ((with_reducible refine (shiftedUp_any A' c' (norm l) j _ (ht.nums h) (norm_lim hl) (by omega) (by omega) hpos).mono ?_); rintro e w' ⟨s, A3, c3, rfl, hs1, hs2, hs3, hs4, hs5⟩; have HS3 := Lib.hid hs3; clear hs3)))
  go_ret2
  exact ⟨s, A3, c3, rfl, hs1, hs2, HS3.out, hs4, hs5⟩

set_option maxHeartbeats 1000000 in
theorem Shl_long (j : Nat) (hj : j ≤ 9223372036854775807) (hv0 : val 18446744073709551616 l ≠ 0) (hv : 2 ^ 262144 ≤ val 18446744073709551616 l * 2 ^ j) :
    Calls Tryz.prog 84 #[.slice A l.length c, .int .i64 j] w (Fails 3 w) := by
  have e1 := norm_val 18446744073709551616 l
  rw [← e1] at hv hv0
  have hpos := val_pos_len hv0
  have hb := val_bound (b := 18446744073709551616) (by omega) (norm_lim hl)
  rw [pow64] at hb
  have hbits : ∀ n, IsBits (val 18446744073709551616 (norm l)) n → 262144 < n + j ∧ n ≤ 262144 := by
    rintro n ⟨a, b, d⟩
    constructor
    · rcases Nat.lt_or_ge 262144 (n + j) with g | g
      · exact g
      · have h1 := pow_le' (b := 2) (by omega) (show n + j ≤ 262144 by omega)
        rw [Int.pow_add] at h1
        have h2 := Int.mul_lt_mul_of_pos_right b (two_pos j)
        generalize (2 : Int) ^ 262144 = Z at *
        omega
    · rcases Nat.lt_or_ge 262144 n with g | g
      · have h1 := pow_le' (b := 2) (by omega) (show 64 * (norm l).length ≤ n - 1 by omega)
        have := d (by omega)
        omega
      · exact g
  have HB := Lib.hid hbits
  clear e1 hbits hv hv0 hb
  go_enter Tryz.func84, Tryz.ntmps84
  go_wp2_with (first
    | (go_at_call 76; ((with_reducible refine (taken_any A c l _ _ h hl hlen).mono ?_); rintro e w' ⟨A', c', rfl, ht, rfl⟩))
    | (go_at_call 91; ((with_reducible refine (bitsOf_any A' c' (norm l) _ _ (ht.nums h) (norm_lim hl) (norm_normal l) (by omega)).mono ?_); rintro e w' ⟨n, rfl, hn, rfl⟩; have hnj := (HB.out n hn).1; have hnj2 := (HB.out n hn).2)))
  go_ret2
  exact ⟨rfl, Below.refl _ _⟩

set_option maxHeartbeats 1000000 in
theorem Shl_zero (j : Int) (hj : 0 ≤ j) (hv0 : val 18446744073709551616 l = 0) :
    Calls Tryz.prog 84 #[.slice A l.length c, .int .i64 j] w (Made2 0 w) := by
  have e1 := norm_val 18446744073709551616 l
  have hn : norm l = [] := val_eq_zero (b := 18446744073709551616) (by omega) (norm_lim hl) (norm_normal l) (by rw [e1, hv0])
  have htk := taken_any A c l w _ h hl hlen
  unfold TakenPost at htk
  rw [hn] at htk
  have HT := Lib.hid htk
  clear htk e1 hn
  go_enter Tryz.func84, Tryz.ntmps84
  go_wp2_with (first
    | (go_at_call 76; ((with_reducible refine HT.out.mono ?_); rintro e w' ⟨A', c', rfl, ht, rfl⟩))
    | (go_at_call 92; ((with_reducible refine (shiftedUp_nil A' c' j _).mono ?_); rintro e w' ⟨s, A3, c3, rfl, hs1, hs2, hs3, hs4, hs5⟩; have HS3 := Lib.hid hs3; clear hs3)))
  go_ret2
  exact ⟨s, A3, c3, rfl, hs1, hs2, HS3.out, hs4, hs5⟩

set_option maxHeartbeats 1000000 in
theorem Bits_any : Calls Tryz.prog 83 #[.slice A l.length c] w fun e w' => ∃ n : Nat, e = .returned (.tuple #[.int .i64 n, .int .i64 0]) ∧ IsBits (val 18446744073709551616 l) n ∧ w = w' := by
  have e1 := norm_val 18446744073709551616 l
  rw [← e1]
  clear e1
  go_enter Tryz.func83, Tryz.ntmps83
  go_wp2_with (first
    | (go_at_call 76; ((with_reducible refine (taken_any A c l _ _ h hl hlen).mono ?_); rintro e w' ⟨A', c', rfl, ht, rfl⟩))
    | (go_at_call 91; ((with_reducible refine (bitsOf_any A' c' (norm l) _ _ (ht.nums h) (norm_lim hl) (norm_normal l) (by omega)).mono ?_); rintro e w' ⟨n, rfl, hn, rfl⟩)))
  go_ret2
  exact ⟨n, rfl, hn, rfl⟩

set_option maxHeartbeats 1000000 in
theorem Zeros_any (hT : Tab w) : Calls Tryz.prog 57 #[.slice A l.length c] w fun e w' => ∃ n : Nat, e = .returned (.tuple #[.int .i64 n, .int .i64 0]) ∧ (val 18446744073709551616 l = 0 → n = 0) ∧ (val 18446744073709551616 l ≠ 0 → IsZeros (val 18446744073709551616 l) n) ∧ w = w' := by
  have e1 := norm_val 18446744073709551616 l
  rw [← e1]
  have HT := Lib.hid hT
  clear e1 hT
  go_enter Tryz.func57, Tryz.ntmps57
  go_wp2_with (first
    | (go_at_call 76; ((with_reducible refine (taken_any A c l _ _ h hl hlen).mono ?_); rintro e w' ⟨A', c', rfl, ht, rfl⟩))
    | (go_at_call 77; ((with_reducible refine (zeros_any A' c' (norm l) _ _ (ht.nums h) (norm_lim hl) (by omega) HT.out).mono ?_); rintro e w' ⟨n, rfl, hn1, hn2, hn3, rfl⟩; have H2 := Lib.hid hn2; have H3 := Lib.hid hn3; clear hn2 hn3)))
  go_ret2
  exact ⟨n, rfl, H2.out, H3.out, rfl⟩

set_option maxHeartbeats 1000000 in
theorem Shr_neg (j : Int) (hj : j < 0) : Calls Tryz.prog 58 #[.slice A l.length c, .int .i64 j] w fun e w' => e = .returned (.tuple #[.slice none 0 0, .bool false, .int .i64 2]) ∧ w = w' := by
  go_enter Tryz.func58, Tryz.ntmps58
  go_wp2_with (go_at_call 76; ((with_reducible refine (taken_any A c l _ _ h hl hlen).mono ?_); rintro e w' ⟨A', c', rfl, ht, rfl⟩))
  go_ret3
  exact ⟨rfl, rfl⟩
end

/-- is the rest of a division by 2^j something? -/
def lostB (v : Int) (j : Nat) : Bool := decide (v % 2 ^ j ≠ 0)
theorem lost_of {v : Int} {j n : Nat} (hz : IsZeros v n) : lostB v j = decide (n < j) := by
  obtain ⟨m, hm, e⟩ := hz
  unfold lostB
  rcases Nat.lt_or_ge n j with g | g
  · rw [decide_eq_true g]
    have h1 : v % 2 ^ j ≠ 0 := by
      intro h0
      obtain ⟨q, hq⟩ := Int.dvd_of_emod_eq_zero h0
      obtain ⟨d, rfl⟩ : ∃ d, j = n + 1 + d := ⟨j - (n + 1), by omega⟩
      rw [Int.pow_add, Int.pow_succ] at hq
      have hp := two_pos n
      rw [e] at hq
      generalize (2 : Int) ^ d = Z at *
      have h2 : 2 * m + 1 = 2 * Z * q := by
        apply Int.eq_of_mul_eq_mul_left (Int.ne_of_gt hp)
        generalize (2 : Int) ^ n = P at *
        grind
      have : 2 * Z * q = 2 * (Z * q) := by grind
      omega
    exact decide_eq_true h1
  · rw [decide_eq_false (show ¬ n < j by omega)]
    have h1 : v % 2 ^ j = 0 := by
      obtain ⟨d, rfl⟩ : ∃ d, n = j + d := ⟨n - j, by omega⟩
      rw [e, Int.pow_add]
      have e2 : (2 : Int) ^ j * 2 ^ d * (2 * m + 1) = 2 ^ j * (2 ^ d * (2 * m + 1)) := by grind
      rw [e2, Int.mul_emod_right]
    simp [h1]

def ShrPost (v : Int) (j : Nat) (w : World) (e : Ending) (w' : World) : Prop :=
  ∃ s A c, e = .returned (.tuple #[.slice A s.length c, .bool (lostB v j), .int .i64 0]) ∧ Lim 18446744073709551616 s ∧ Normal s ∧ val 18446744073709551616 s = v / 2 ^ j ∧ Own w' w.heap.size A c s ∧ Below w.heap.size w w'

set_option maxHeartbeats 2000000 in
theorem Shr_any (A : Option Addr) (c : Nat) (l : List Int) (w : World) (h : Nums w w.heap.size A c l) (hl : Lim 18446744073709551616 l) (hlen : (norm l).length ≤ 4096) (hT : Tab w) (j : Nat) (hj : j ≤ 9223372036854775807) :
    Calls Tryz.prog 58 #[.slice A l.length c, .int .i64 j] w (ShrPost (val 18446744073709551616 l) j w) := by
  have e1 := norm_val 18446744073709551616 l
  have hlt := hT.lt
  have HT := Lib.hid hT
  clear hT
  rcases Nat.eq_zero_or_pos (norm l).length with hp | hp
  · have hn : norm l = [] := List.eq_nil_of_length_eq_zero hp
    have hv0 : val 18446744073709551616 l = 0 := by rw [← e1, hn]; rfl
    have hlost : lostB 0 j = false := by simp [lostB]
    have htk := taken_any A c l w _ h hl hlen
    unfold TakenPost at htk
    rw [hn] at htk
    have HK := Lib.hid htk
    have hsd := fun A' c' (hc : c' ≤ maxLen) W => shiftedDown_any A' c' [] j W (Nums.empty W _ A' hc) (Lim.nil _) (by simp) hj
    have HD := Lib.hid hsd
    rw [hv0]
    have HB := Lib.hid hlost
    have hmax := h.max
    clear htk e1 hn hsd hlost hv0
    go_enter Tryz.func58, Tryz.ntmps58
    go_wp2_with (first
      | (go_at_call 76; ((with_reducible refine HK.out.mono ?_); rintro e w' ⟨A', c', rfl, ht, rfl⟩; have hc' : c' ≤ maxLen := by rcases ht with ⟨_, h1, _⟩ | ⟨_, h1, _⟩ <;> subst h1 <;> first | exact hmax | (unfold maxLen; omega)))
      | (go_at_call 78; (refine (HD.out A' c' hc' _).mono ?_; rintro e w' ⟨s, A3, c3, rfl, hs1, hs2, hs3, hs4, hs5⟩; have HS3 := Lib.hid hs3; clear hs3)))
    go_ret3
    exact ⟨s, A3, c3, by rw [HB.out]; rfl, hs1, hs2, by rw [HS3.out, val_nil], hs4, hs5⟩
  · rw [← e1]
    have hv0 : val 18446744073709551616 (norm l) ≠ 0 := fun h0 => by
      have := val_eq_zero (b := 18446744073709551616) (by omega) (norm_lim hl) (norm_normal l) h0
      rw [this] at hp; simp at hp
    have HV := Lib.hid hv0
    have hsz : w.heap.size ≤ w.heap.size := Nat.le_refl _
    clear e1 hv0
    go_enter Tryz.func58, Tryz.ntmps58
    go_wp2_with (first
      | (go_at_call 76; ((with_reducible refine (taken_any A c l _ _ h hl hlen).mono ?_); rintro e w' ⟨A', c', rfl, ht, rfl⟩))
      | (go_at_call 78; ((with_reducible refine (shiftedDown_any A' c' (norm l) j _ (ht.nums h) (norm_lim hl) (by omega) hj).mono ?_); rintro e w' ⟨s, A3, c3, rfl, hs1, hs2, hs3, hs4, hs5⟩; have HS3 := Lib.hid hs3; clear hs3))
      | (go_at_call 77; ((with_reducible refine (zeros_any A' c' (norm l) _ _ ((ht.nums h).below hs5) (norm_lim hl) (by omega) (HT.out.below hs5 hlt)).mono ?_); rintro e w2 ⟨n, rfl, hn1, hn2, hn3, rfl⟩; have H3 := Lib.hid (hn3 HV.out); clear hn2 hn3)))
    all_goals
      go_ret3
      exact ⟨s, A3, c3, by rw [lost_of H3.out]; simp, hs1, hs2, HS3.out, hs4, hs5⟩
end Go.Proofs.YtcdbjlmegkcaiaaGreatDoor
namespace Go.Proofs.YtcdbjlmegkcaiaaGreatDoor
open Go.RowKit
set_option linter.unusedVariables false
theorem ofMade (n : Int) (w : World) (h0 : 0 ≤ n) (h1 : n < 18446744073709551616) : Calls Tryz.prog 32 #[.int .u64 n] w (Made n w) := by
  refine (of_any n w h0 h1).mono ?_
  rintro e w' ⟨A, c, rfl, ho, hb⟩
  have l1 : Lim 18446744073709551616 [n] := fun x hx => by simp at hx; omega
  exact ⟨norm [n], A, c, rfl, norm_lim l1, norm_normal _, by rw [norm_val, val_cons, val_nil]; omega, ho, hb⟩
end Go.Proofs.YtcdbjlmegkcaiaaGreatDoor
namespace Go.Proofs.YtcdbjlmegkcaiaaGreatDoor
open Go.RowKit
set_option linter.unusedVariables false

/-- two values are handed back -/
def Pair (R : World → Value → Value → World → Prop) (w : World) (e : Ending) (w' : World) : Prop := ∃ x y, e = .returned (.tuple #[x, y]) ∧ R w x y w'

def R2 (v : Int) (w : World) (x y : Value) (w' : World) : Prop :=
  ∃ s A c, x = .slice A s.length c ∧ y = .int .i64 0 ∧ Lim 18446744073709551616 s ∧ Normal s ∧ val 18446744073709551616 s = v ∧ Own w' w.heap.size A c s ∧ Below w.heap.size w w'
def RF (n : Int) (w : World) (x y : Value) (w' : World) : Prop := x = .slice none 0 0 ∧ y = .int .i64 n ∧ Below w.heap.size w w'
theorem made2_pair {v : Int} {w : World} {e : Ending} {w' : World} : Made2 v w e w' ↔ Pair (R2 v) w e w' :=
  ⟨fun ⟨s, A, c, h, r⟩ => ⟨_, _, h, s, A, c, rfl, rfl, r⟩, fun ⟨_, _, h, s, A, c, h1, h2, r⟩ => ⟨s, A, c, by rw [h, h1, h2], r⟩⟩
theorem fails_pair {n : Int} {w : World} {e : Ending} {w' : World} : Fails n w e w' ↔ Pair (RF n) w e w' :=
  ⟨fun ⟨h, r⟩ => ⟨_, _, h, rfl, rfl, r⟩, fun ⟨_, _, h, h1, h2, r⟩ => ⟨by rw [h, h1, h2], r⟩⟩
theorem R2.on {v : Int} {w w' w'' : World} {x y : Value} (hb : Below w.heap.size w w') (h : R2 v w' x y w'') : R2 v w x y w'' := by
  obtain ⟨s, A, c, h1, h2, h3, h4, h5, h6, h7⟩ := h
  exact ⟨s, A, c, h1, h2, h3, h4, h5, h6.less hb.size, hb.trans (h7.mono hb.size)⟩
theorem RF.on {n : Int} {w w' w'' : World} {x y : Value} (hb : Below w.heap.size w w') (h : RF n w' x y w'') : RF n w x y w'' :=
  ⟨h.1, h.2.1, hb.trans (h.2.2.mono hb.size)⟩

theorem one_len {s : List Int} (h1 : Lim 18446744073709551616 s) (h2 : Normal s) (h3 : val 18446744073709551616 s = 1) : (norm s).length ≤ 4096 := by
  have := length_le_of_lt (b := 18446744073709551616) (k := 1) (by omega) h1 h2 (by rw [h3]; decide)
  have := norm_length s
  omega

end Go.Proofs.YtcdbjlmegkcaiaaGreatDoor
