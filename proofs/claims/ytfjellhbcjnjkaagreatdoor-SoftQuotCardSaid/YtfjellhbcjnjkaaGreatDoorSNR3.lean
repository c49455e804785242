/-
  Layer 2, joined (wip/tools/merge.py): NatAU NatAV.
  Layer 2, the laws, part nine: NatSubs, NatMuls, NatDivs, NatRoots (written by wip/tools/gen_mid.py).
  Layer 2, the laws, part ten: the reference's Pow2, Shl; Shr; NatLeft, NatRight.
-/
import Derived.Test.YtfjellhbcjnjkaaGreatDoorSNR2
namespace Go.Proofs.YtfjellhbcjnjkaaGreatDoor
open Go.RowKit
set_option linter.unusedVariables false

section
variable {A A2 : Option Addr} {n m c c2 : Nat} {l s : List Int} {w : World} (h : Lv w A n c l) (h2 : Lv w A2 m c2 s)
include h
theorem Sqrt_lv (hn : n ≤ 4096) : Calls Tryz.prog 59 #[.slice A n c] w fun e w' => ∃ q r A1 c1 A3 c3, e = .returned (.tuple #[.slice A1 q.length c1, .slice A3 r.length c3, .int .i64 0]) ∧ Normal q ∧ Normal r ∧
    Hid (IsRoot (val 18446744073709551616 l) (val 18446744073709551616 q) (val 18446744073709551616 r)) ∧ Lv w' A1 q.length c1 q ∧ Lv w' A3 r.length c3 r ∧ Below w.heap.size w w' := by
  have := Sqrt_any A c l w h.2.1 h.2.2 (norm_le h.1 hn)
  rw [h.1] at this
  refine this.mono ?_
  rintro e w' ⟨q', r', A1, c1, A3, c3, rfl, l1, l2, n1, n2, hroot, o1, o2, hb⟩
  exact ⟨q', r', A1, c1, A3, c3, rfl, n1, n2, hroot, ⟨rfl, o1.nums, l1⟩, ⟨rfl, o2.nums, l2⟩, hb⟩
include h2
theorem refSub_lv (hn : n ≤ 10000) (hm : m ≤ 10000) (hle : val 18446744073709551616 s ≤ val 18446744073709551616 l) :
    Calls Tryz.prog 95 #[.slice A n c, .slice A2 m c2] w (NewV (val 18446744073709551616 l - val 18446744073709551616 s) w) := by
  have := refSub_any A c l A2 c2 s w h.2.1 h.2.2 h2.2.1 h2.2.2 (by rw [h.1]; omega) (by rw [h2.1]; omega) hle
  rw [h.1, h2.1] at this
  exact this.mono fun e w' q => q.newV
theorem refMul_lv (hn : n ≤ 10000) (hm : m ≤ 10000) :
    Calls Tryz.prog 63 #[.slice A n c, .slice A2 m c2] w (NewV (val 18446744073709551616 l * val 18446744073709551616 s) w) := by
  have := refMul_any A c l A2 c2 s w h.2.1 h.2.2 h2.2.1 h2.2.2 (by rw [h.1]; omega) (by rw [h2.1]; omega)
  rw [h.1, h2.1] at this
  exact this.mono fun e w' q => q.newV
theorem Div_lv (hn : n ≤ 4096) (hm : m ≤ 4096) (hp : 0 < val 18446744073709551616 s) :
    Calls Tryz.prog 49 #[.slice A n c, .slice A2 m c2] w fun e w' => ∃ q r A1 c1 A3 c3, e = .returned (.tuple #[.slice A1 q.length c1, .slice A3 r.length c3, .int .i64 0]) ∧ Normal q ∧ Normal r ∧
      Hid (val 18446744073709551616 l = val 18446744073709551616 q * val 18446744073709551616 s + val 18446744073709551616 r ∧ val 18446744073709551616 r < val 18446744073709551616 s) ∧ Lv w' A1 q.length c1 q ∧ Lv w' A3 r.length c3 r ∧ Below w.heap.size w w' := by
  have := Div_any A c l A2 c2 s w h.2.1 h.2.2 h2.2.1 h2.2.2 (norm_le h.1 hn) (norm_le h2.1 hm) hp
  rw [h.1, h2.1] at this
  refine this.mono ?_
  rintro e w' ⟨q', r', A1, c1, A3, c3, rfl, l1, l2, n1, n2, he, o1, o2, hb⟩
  exact ⟨q', r', A1, c1, A3, c3, rfl, n1, n2, he, ⟨rfl, o1.nums, l1⟩, ⟨rfl, o2.nums, l2⟩, hb⟩
theorem Div_zero_lv (hn : n ≤ 4096) (hm : norm s = []) :
    Calls Tryz.prog 49 #[.slice A n c, .slice A2 m c2] w fun e w' => e = .returned (.tuple #[.slice none 0 0, .slice none 0 0, .int .i64 2]) ∧ w = w' := by
  have := Div_zero A c l A2 c2 s w h.2.1 h.2.2 h2.2.1 h2.2.2 (norm_le h.1 hn) hm
  rw [h.1, h2.1] at this
  exact this
end
theorem len_val {l : List Int} {k : Nat} {v : Int} (h : Lim 18446744073709551616 l) (hn : Normal l) (hv : val 18446744073709551616 l = v) (hk : v < 18446744073709551616 ^ k) : l.length ≤ k :=
  length_le_of_lt (b := 18446744073709551616) (by omega) h hn (by rw [hv]; exact hk)
theorem norm_self {l : List Int} (h : Lim 18446744073709551616 l) (hn : Normal l) : norm l = l := norm_of_normal (b := 18446744073709551616) (by omega) h hn
theorem lim_one : Lim 18446744073709551616 [1] := by intro x hx; simp at hx; omega
theorem div_facts {a q b r P : Int} (q0 : 0 ≤ q) (b0 : 0 < b) (r0 : 0 ≤ r) (h : a = q * b + r) (ha : a < P) : q < P ∧ r < P ∧ q * b < P := by
  have h1 : 0 ≤ q * (b - 1) := Int.mul_nonneg q0 (by omega)
  have h2 : q * (b - 1) = q * b - q := by grind
  exact ⟨by omega, by omega, by omega⟩
theorem root_facts {a s r P : Int} (h : IsRoot a s r) (ha : a < P) (h1 : 1 < P) : s < P ∧ r < P ∧ s * s < P ∧ s + 1 < 2 * P ∧ (s + 1) * (s + 1) < 4 * P ∧ a < (s + 1) * (s + 1) := by
  obtain ⟨e, s0, r0, hr⟩ := h
  have h2 : (s + 1) * (s + 1) = s * s + 2 * s + 1 := by grind
  have h3 : 0 ≤ s * (s - 1) ∨ s = 0 := by
    rcases (show s = 0 ∨ 1 ≤ s by omega) with h | h
    · exact .inr h
    · exact .inl (Int.mul_nonneg s0 (by omega))
  have h4 : s * (s - 1) = s * s - s := by grind
  rw [h2]
  rcases h3 with h3 | h3
  · refine ⟨by omega, by omega, by omega, by omega, by omega, by omega⟩
  · subst h3
    simp at *
    omega

end Go.Proofs.YtfjellhbcjnjkaaGreatDoor
namespace Go.Proofs.YtfjellhbcjnjkaaGreatDoor
open Go.RowKit
set_option linter.unusedVariables false

theorem val_set (b : Int) : ∀ (l : List Int) (i : Nat) (v : Int), i < l.length → val b (l.set i v) = val b l + (v - D l i) * b ^ i
  | [], i, v, h => by simp at h
  | x :: l, 0, v, h => by
    rw [List.set_cons_zero, val_cons, val_cons, D_cons_zero]
    simp
    omega
  | x :: l, i + 1, v, h => by
    rw [List.set_cons_succ, val_cons, val_cons, D_cons_succ, val_set b l i v (by simpa using h), Int.pow_succ]
    grind

theorem pow_word {r : Nat} (hr : r < 64) : (2 : Int) ^ r ≤ 9223372036854775808 := by
  have := pow_le' (b := 2) (by omega) (show r ≤ 63 by omega)
  have e : (2 : Int) ^ 63 = 9223372036854775808 := by decide
  omega

theorem L_set (l : List Int) (q : Nat) (p : Int) : L (l.set q p) = (L l).set q (.int .u64 p) := by simp [L, List.map_set]

set_option maxRecDepth 20000 in
set_option maxHeartbeats 2000000 in
theorem refPow2_any (k : Nat) (hk : k ≤ 1000000) (w : World) : Calls Tryz.prog 61 #[.int .i64 k] w (NewV (2 ^ k) w) := by
  obtain ⟨q, hq⟩ : ∃ q, k / 64 = q := ⟨_, rfl⟩
  obtain ⟨r, hr⟩ : ∃ r, k % 64 = r := ⟨_, rfl⟩
  have hk2 : k = 64 * q + r := by omega
  have hqi : (k : Int) / 64 = q := by omega
  have hri : (k : Int) % 64 = r := by omega
  have hr64 : r < 64 := by omega
  have hri2 : (r : Int) < 64 := by omega
  have hq0 : (0 : Int) ≤ q := by omega
  have hq1 : (q : Int) ≤ 100000 := by omega
  obtain ⟨N, hN⟩ : ∃ N, q + 1 = N := ⟨_, rfl⟩
  have hNi : (q : Int) + 1 = N := by omega
  have hqN : (q : Int) < N := by omega
  have hmk := fun W => run_make N (by omega) W
  have hrow := Row.new w (List.replicate N 0)
  have hfr := hrow.frozen q
  have hc0 := hrow.cell (k := q) (by simp; omega)
  have hk0 : (0 : Int) ≤ k := by omega
  have hp := pow_word hr64
  have hp0 := two_pos r
  have hset := hrow.set_ q (2 ^ r)
  have HS := Lib.hid hset
  have HP := Lib.hid (And.intro hp hp0)
  obtain ⟨p, hpe⟩ : ∃ p : Int, 2 ^ r = p := ⟨_, rfl⟩
  have hw : IntKind.u64.wrap (1 * p) = p := by rw [IntKind.wrap_u64, ← hpe]; omega
  have hw' : IntKind.u64.wrap p = p := by rw [IntKind.wrap_u64, ← hpe]; omega
  have HK2 := Lib.hid (And.intro hk2 hN)
  clear hq hr hk2 hN hk hp hp0 hset
  go_enter Tryz.func61, Tryz.ntmps61
  go_wp2_with fail
  go_ret
  have hl : Lim 18446744073709551616 ((List.replicate N 0).set q p) := (Lim.zeros (by omega) N).set q (by rw [← hpe]; exact Int.le_of_lt HP.out.2) (by rw [← hpe]; have := HP.out.1; omega)
  have hlen : ((List.replicate N 0).set q p).length = N := by simp
  have hnew := Row.new w ((List.replicate N 0).set q p)
  have hnum := hnew.nums (B := w.heap.size + 1) (c := N) 0 N (by omega) (by omega) (by unfold maxLen; omega) (by omega)
  rw [List.drop_zero, List.take_of_length_le (by omega)] at hnum
  refine ⟨(List.replicate N 0).set q p, some ⟨w.heap.size, 0, none⟩, N, by rw [hlen]; rfl, ?_, ?_, ?_, ?_⟩
  · right
    rw [hlen, show N - 1 = q by have := HK2.out.2; omega, D_set _ _ (by simp; omega), if_pos rfl, ← hpe]
    have := HP.out.2; omega
  · show _ = _
    rw [val_set _ _ _ _ (by simp; omega), val_replicate, D_replicate, HK2.out.1, pow_limbs, hpe]
    grind
  · refine ⟨rfl, ?_, hl⟩
    rw [L_set] at hnum
    simpa using hnum
  · exact (Below.refl _ w).alloc (Nat.le_refl _) _

theorem refShl_any {A : Option Addr} {n c : Nat} {l : List Int} {w : World} (h : Lv w A n c l) (hn : n ≤ 10000) (k : Nat) (hk : k ≤ 600000) :
    Calls Tryz.prog 57 #[.slice A n c, .int .i64 k] w (NewV (val 18446744073709551616 l * 2 ^ k) w) := by
  have p1 := refPow2_any k (by omega) w
  have hkk : (2 : Int) ^ k < 18446744073709551616 ^ (k / 64 + 1) := by
    rw [pow64]
    have := pow_le' (b := 2) (by omega) (show k + 1 ≤ 64 * (k / 64 + 1) by omega)
    have h2 := two_pos k
    rw [Int.pow_succ] at this
    omega
  have hkl : k / 64 + 1 ≤ 10000 := by omega
  obtain ⟨v, hv⟩ : ∃ v : Int, 2 ^ k = v := ⟨_, rfl⟩
  rw [hv] at p1 hkk ⊢
  have HK := Lib.hid hkk
  clear hkk hv
  go_enter Tryz.func57, Tryz.ntmps57
  go_wp2_with fail
  with_reducible refine p1.mono ?_
  rintro e w1 ⟨s, A2, c2, rfl, n_s, v_s, m_s, hb⟩
  replace h := h.on hb
  have hsl : s.length ≤ 10000 := by
    have := len_val m_s.2.2 n_s v_s.out HK.out
    omega
  have p2 := refMul_lv h m_s hn hsl
  go_wp2_with fail
  with_reducible refine p2.mono ?_
  rintro e w2 ⟨t, A3, c3, rfl, n_t, v_t, m_t, hb2⟩
  go_wp2_with fail
  go_ret
  exact ⟨t, A3, c3, rfl, n_t, by show _ = _; rw [v_t.out, v_s.out], m_t, bel_then hb hb2⟩

/-! ### shifted down, bit by bit -/
theorem mod_step {v : Int} (h0 : 0 ≤ v) (t : Nat) : v % 2 ^ (t + 1) = v % 2 ^ t + 2 ^ t * (v / 2 ^ t % 2) := by
  have hp := two_pos t
  have h1 := Int.mul_ediv_add_emod v (2 ^ t)
  have h2 := Int.emod_nonneg v (Int.ne_of_gt hp)
  have h3 := Int.emod_lt_of_pos v hp
  have h4 := Int.mul_ediv_add_emod (v / 2 ^ t) 2
  generalize v % 2 ^ t = R at *
  generalize v / 2 ^ t = Q at *
  have hq : Q % 2 = 0 ∨ Q % 2 = 1 := by omega
  rw [Int.pow_succ]
  refine emod_of (q := Q / 2) (by omega) ?_ ?_ ?_
  · rw [← h1]
    generalize (2 : Int) ^ t = P at *
    generalize Q / 2 = Z at *
    generalize Q % 2 = Y at *
    rw [← h4]
    grind
  · rcases hq with h | h <;> rw [h] <;> omega
  · rcases hq with h | h <;> rw [h] <;> omega
theorem lost_step {v : Int} (h0 : 0 ≤ v) (t : Nat) : lostB v (t + 1) = (lostB v t || decide (v / 2 ^ t % 2 = 1)) := by
  have hp := two_pos t
  have h2 := Int.emod_nonneg v (Int.ne_of_gt hp)
  have hs := mod_step h0 t
  have hq : v / 2 ^ t % 2 = 0 ∨ v / 2 ^ t % 2 = 1 := by omega
  unfold lostB
  rw [hs]
  rcases hq with h | h
  · rw [h]; simp
  · rw [h]
    have : v % 2 ^ t + 2 ^ t * 1 ≠ 0 := by omega
    simp
    omega
/-- the digit in which the next bit is set has room for it -/
theorem bit_room {l : List Int} {q r : Nat} (hl : Lim 18446744073709551616 l) (hv : val 18446744073709551616 l < 2 ^ (64 * q + r)) : D l q < 2 ^ r := by
  have h1 := S_of_bound (b := 18446744073709551616) (by omega) hl q
  have h2 : S 18446744073709551616 (D l) (q + 1) ≤ val 18446744073709551616 l := S_le_val (by omega) hl (q + 1)
  rw [S_succ] at h2
  rw [pow_limbs] at hv
  have hp := pow_pos' (b := 18446744073709551616) (by omega) q
  generalize (18446744073709551616 : Int) ^ q = P at *
  generalize (2 : Int) ^ r = R at *
  generalize D l q = x at *
  rcases (show x < R ∨ R ≤ x by omega) with h | h
  · exact h
  · have := Int.mul_le_mul_of_nonneg_left h (Int.le_of_lt hp)
    have e : P * x = x * P := Int.mul_comm _ _
    omega
def DownInv (v : Int) (j n t : Nat) (C : List Int) : Prop := C.length = n ∧ Lim 18446744073709551616 C ∧ val 18446744073709551616 C = v % 2 ^ t / 2 ^ j
theorem pow_parts {j t : Nat} (h : j ≤ t) : (2 : Int) ^ t = 2 ^ j * 2 ^ (t - j) := by rw [← Int.pow_add]; congr 1; omega
theorem shr_bit {v : Int} {j t : Nat} (h0 : 0 ≤ v) (hjt : j ≤ t) (hb : v / 2 ^ t % 2 = 1) : v % 2 ^ (t + 1) / 2 ^ j = v % 2 ^ t / 2 ^ j + 2 ^ (t - j) := by
  rw [mod_step h0, hb, Int.mul_one, pow_parts hjt, Int.add_mul_ediv_left _ _ (Int.ne_of_gt (two_pos j))]
theorem shr_small {v : Int} {j t : Nat} (h0 : 0 ≤ v) (hjt : j ≤ t) : v % 2 ^ t / 2 ^ j < 2 ^ (t - j) := by
  refine Int.ediv_lt_of_lt_mul (two_pos j) ?_
  rw [Int.mul_comm, ← pow_parts hjt]
  exact Int.emod_lt_of_pos v (two_pos t)
theorem DownInv.step0 {v : Int} {j n t : Nat} {C : List Int} (h : DownInv v j n t C) (h0 : 0 ≤ v) (hb : v / 2 ^ t % 2 ≠ 1) : DownInv v j n (t + 1) C := by
  obtain ⟨h1, h2, h3⟩ := h
  have : v / 2 ^ t % 2 = 0 := by omega
  exact ⟨h1, h2, by rw [h3, mod_step h0, this]; simp⟩
theorem DownInv.step1 {v : Int} {j n t q r : Nat} {C : List Int} (h : DownInv v j n t C) (h0 : 0 ≤ v) (hjt : j ≤ t) (hb : v / 2 ^ t % 2 = 1) (hq : t - j = 64 * q + r) (hr : r < 64) (hqn : q < n) :
    0 ≤ D C q ∧ D C q + 2 ^ r < 18446744073709551616 ∧ DownInv v j n (t + 1) (C.set q (D C q + 2 ^ r)) := by
  obtain ⟨h1, h2, h3⟩ := h
  have hsm := shr_small (v := v) h0 hjt
  rw [hq] at hsm
  have hroom := bit_room h2 (by rw [h3]; exact hsm)
  have hw := pow_word hr
  have hp := two_pos r
  have hd := D_lim (b := 18446744073709551616) (by omega) h2 q
  refine ⟨hd.1, by omega, by simp [h1], h2.set _ (by omega) (by omega), ?_⟩
  rw [val_set _ _ _ _ (by omega), shr_bit h0 hjt hb, h3, hq, pow_limbs]
  grind
theorem DownInv.start {v : Int} {j n : Nat} (h0 : 0 ≤ v) : DownInv v j n j (List.replicate n 0) := by
  refine ⟨by simp, Lim.zeros (by omega) _, ?_⟩
  rw [val_replicate, Int.ediv_eq_zero_of_lt (Int.emod_nonneg v (Int.ne_of_gt (two_pos j))) (Int.emod_lt_of_pos v (two_pos j))]
theorem lost_all {v : Int} {b j : Nat} (hb : IsBits v b) (hj : b ≤ j) : lostB v b = lostB v j ∧ v / 2 ^ j = 0 := by
  have h1 := pow_le' (b := 2) (by omega) hj
  have h2 := hb.2.1
  unfold lostB
  rw [Int.emod_eq_of_lt hb.1 h2, Int.emod_eq_of_lt hb.1 (by omega)]
  exact ⟨rfl, Int.ediv_eq_zero_of_lt hb.1 (by omega)⟩

def RShrPost (v : Int) (j : Nat) (w : World) (e : Ending) (w' : World) : Prop :=
  ∃ l A c, e = .returned (.tuple #[.slice A l.length c, .bool (lostB v j)]) ∧ Normal l ∧ Hid (val 18446744073709551616 l = v / 2 ^ j) ∧ Lv w' A l.length c l ∧ Below w.heap.size w w'
theorem RShrPost.nil {v : Int} {b j : Nat} {w w' : World} (hb : IsBits v b) (hj : b ≤ j) (h : Below w.heap.size w w') (x : Bool) (hx : lostB v b = x) : RShrPost v j w (.returned (.tuple #[.slice none 0 0, .bool x])) w' := by
  have := lost_all hb hj
  exact ⟨[], none, 0, by rw [← hx, this.1]; rfl, Normal.nil, by show _ = _; rw [this.2, val_nil], lv_nil w', h⟩

set_option maxRecDepth 20000 in
set_option maxHeartbeats 8000000 in
theorem refShr_any {A : Option Addr} {n c : Nat} {l : List Int} {w : World} (h : Lv w A n c l) (hn : n ≤ 4096) (j : Nat) (hj : (j : Int) ≤ 9223372036854775807) :
    Calls Tryz.prog 93 #[.slice A n c, .int .i64 j] w (RShrPost (val 18446744073709551616 l) j w) := by
  have k1 := refBits_any h hn
  have hv0 := h.nonneg
  have hbd : ∀ k, IsBits (val 18446744073709551616 l) k → k ≤ 64 * n := fun k hk => bits_le (h.less (Nat.le_refl n)) hk
  have hbits := bitB_val h.2.2
  obtain ⟨v, hv⟩ : ∃ v, val 18446744073709551616 l = v := ⟨_, rfl⟩
  rw [hv] at k1 hv0 hbd hbits ⊢
  have HB := Lib.hid hbits
  have hn2 : (n : Int) ≤ 4096 := by omega
  have hmk := fun W => run_make n (by omega) W
  clear hbits hv
  go_enter Tryz.func93, Tryz.ntmps93
  go_wp2_with fail
  with_reducible refine k1.mono ?_
  rintro e w1 ⟨b, rfl, hb1, hb⟩
  have hb2 := hbd b hb1
  have HBB := Lib.hid hb1
  have HB2 := Lib.hid hb2
  have hb3 : (b : Int) ≤ 300000 := by omega
  replace h := h.on hb
  clear k1 hbd hb1 hb2
  go_wp2_with fail
  go_loop [6, 8] (fun s i => ∃ t : Nat, t ≤ b ∧ t ≤ j ∧ i = .int .i64 t ∧ s = .bool (lostB v t)) (fun _ i => b - (intOf i).toNat)
  case atStart => exact ⟨0, by omega, by omega, rfl, by simp [lostB, Int.emod_one]⟩
  case round =>
    obtain ⟨t, htb, htj, rfl, rfl⟩ := hrel
    by_cases hcond : t < j ∧ t < b
    · obtain ⟨h1, h2⟩ := hcond
      have p1 := refBit_any h t (by omega)
      have hls := lost_step hv0 t
      rw [HB.out t] at p1
      obtain ⟨bb, hbb⟩ : ∃ bb, decide (v / 2 ^ t % 2 = 1) = bb := ⟨_, rfl⟩
      rw [hbb] at p1 hls
      have i1 : (t : Int) < j := by omega
      have i2 : (t : Int) < b := by omega
      obtain ⟨L, hL⟩ : ∃ L, lostB v t = L := ⟨_, rfl⟩
      rw [hL] at hls ⊢
      have HLS := Lib.hid hls
      have H1 := Lib.hid h1
      have H2 := Lib.hid h2
      clear hls hbb hL h1 h2
      cases L
      · go_wp2_with (go_at_call 94; ((with_reducible refine p1.mono ?_); rintro e w2 ⟨rfl, rfl⟩))
        go_round
        case rel => exact ⟨t + 1, H2.out, H1.out, by go_num, by rw [HLS.out, Bool.false_or]⟩
        case measure => simp [intOf]; omega
      · go_wp2_with fail
        go_round
        case rel => exact ⟨t + 1, H2.out, H1.out, by go_num, by rw [HLS.out, Bool.true_or]⟩
        case measure => simp [intOf]; omega
    · by_cases htj2 : t < j
      · obtain rfl : t = b := by omega
        obtain ⟨L, hL⟩ : ∃ L, lostB v t = L := ⟨_, rfl⟩
        rw [hL]
        have HF := Lib.hid (fun w' (h : Below w.heap.size w w') => RShrPost.nil (w := w) (w' := w') HBB.out htj h L hL)
        have i1 : (t : Int) < j := by omega
        have i2 : (t : Int) ≤ j := by omega
        clear hcond hL htb htj htj2 hmk
        go_wp2_with fail
        go_ret2
        exact HF.out _ hb
      · obtain rfl : t = j := by omega
        obtain ⟨L, hL⟩ : ∃ L, lostB v t = L := ⟨_, rfl⟩
        rw [hL]
        rcases Nat.lt_or_ge t b with hlt | hge
        · have hst := Lib.hid (DownInv.start (j := t) (n := n) hv0)
          have i1 : (t : Int) < b := by omega
          have HL := Lib.hid hL
          have hnl := Lib.hid h.1
          clear hcond hL htb htj htj2
          go_wp2_with fail
          go_loopw [10] (fun i wr => ∃ (k : Nat) (C : List Int), t ≤ k ∧ k ≤ b ∧ i = .int .i64 k ∧ Hid (DownInv v t n k C) ∧ Row wr w1.heap.size C ∧ Below w1.heap.size w1 wr) (fun i _ => b - (intOf i).toNat)
          case atStart => exact ⟨t, List.replicate n 0, by omega, by omega, rfl, hst, Row.new _ _, (Below.refl _ w1).alloc (Nat.le_refl _) _⟩
          case round =>
            obtain ⟨k, C, hk1, hk2, rfl, hD, hr, hbw⟩ := hrel
            have hCn : C.length = n := hD.out.1
            by_cases hkb : k < b
            · have p1 := refBit_any (h.on hbw) k (by omega)
              rw [HB.out k] at p1
              have i2 : (k : Int) < b := by omega
              by_cases hbit : v / 2 ^ k % 2 = 1
              · rw [decide_eq_true hbit] at p1
                obtain ⟨d, hd⟩ : ∃ d, k - t = d := ⟨_, rfl⟩
                obtain ⟨q, hq⟩ : ∃ q, d / 64 = q := ⟨_, rfl⟩
                obtain ⟨r, hrr⟩ : ∃ r, d % 64 = r := ⟨_, rfl⟩
                have hdi : (k : Int) - t = d := by omega
                have hqi : (d : Int) / 64 = q := by omega
                have hri : (d : Int) % 64 = r := by omega
                have hr64 : r < 64 := by omega
                have hqn : q < n := by have := HB2.out; omega
                have hst1 := hD.out.step1 hv0 hk1 hbit (q := q) (r := r) (by omega) hr64 hqn
                have c0 := hr.cell (k := q) (by omega)
                have f0 := hr.frozen q
                have hp0 := two_pos r
                obtain ⟨x, hx⟩ : ∃ x, D C q = x := ⟨_, rfl⟩
                obtain ⟨p, hp⟩ : ∃ p : Int, 2 ^ r = p := ⟨_, rfl⟩
                rw [hx] at c0 hst1
                rw [hp] at hst1 hp0
                obtain ⟨g1, g2, g3⟩ := hst1
                have hpw : IntKind.u64.wrap p = p := by rw [IntKind.wrap_u64]; omega
                obtain ⟨y, hy⟩ : ∃ y, x + p = y := ⟨_, rfl⟩
                rw [hy] at g2 g3
                have hyw : IntKind.u64.wrap (x + p) = y := by rw [hy, IntKind.wrap_u64]; omega
                have G3 := Lib.hid g3
                have j0 : (0 : Int) ≤ q := by omega
                have j1 : (q : Int) < n := by omega
                have j2 : (0 : Int) ≤ d := by omega
                have j3 : (r : Int) < 64 := by omega
                have j4 : (0 : Int) ≤ r := by omega
                clear hd hq hrr hr64 hqn hbit hx hy g3 hD hCn
                go_wp2_with (go_at_call 94; ((with_reducible refine p1.mono ?_); rintro e w2 ⟨rfl, rfl⟩))
                go_roundw
                case rel => exact ⟨k + 1, C.set q y, by omega, by omega, by go_num, G3, hr.set_ q y, hbw.setCell (p := ⟨w1.heap.size, q, none⟩) (Nat.le_refl _) _⟩
                case measure => simp [intOf]; omega
              · rw [decide_eq_false hbit] at p1
                have hst0 := Lib.hid (hD.out.step0 hv0 hbit)
                clear hbit hD hCn
                go_wp2_with (go_at_call 94; ((with_reducible refine p1.mono ?_); rintro e w2 ⟨rfl, rfl⟩))
                go_roundw
                case rel => exact ⟨k + 1, C, by omega, by omega, by go_num, hst0, hr, hbw⟩
                case measure => simp [intOf]; omega
            · obtain rfl : k = b := by omega
              have hfin : val 18446744073709551616 C = v / 2 ^ t := by
                have := hD.out.2.2
                rw [Int.emod_eq_of_lt HBB.out.1 HBB.out.2.1] at this
                exact this
              have hlim := hD.out.2.1
              have HF := Lib.hid hfin
              have hgl := hr.lt
              have hnum := hr.nums (B := wr.heap.size) (c := n) 0 n (by omega) (by omega) (by unfold maxLen; omega) hgl
              rw [List.drop_zero, List.take_of_length_le (by omega)] at hnum
              have p3 := refNorm_any (some ⟨w1.heap.size, 0, none⟩) n C wr hnum hlim (by omega)
              rw [hCn] at p3
              unfold NormPost at p3
              have hszw := hb.size
              have hsz0 := hbw.size
              clear hfin hnum hD hkb
              go_wp2_with fail
              with_reducible refine p3.mono ?_
              rintro e w5 ⟨A7, c7, rfl, s4, s5⟩
              go_wp2_with fail
              go_ret2
              exact ⟨norm C, A7, c7, by rw [HL.out]; rfl, norm_normal C, by show _ = _; rw [norm_val, HF.out], ⟨rfl, s4.nums, norm_lim hlim⟩, (bel_then hb hbw).trans (s5.mono (by omega))⟩
        · obtain rfl : t = b := by omega
          have HF := Lib.hid (fun w' (h : Below w.heap.size w w') => RShrPost.nil (w := w) (w' := w') HBB.out (Nat.le_refl t) h L hL)
          clear hcond hL htb htj htj2 hmk hge
          go_wp2_with fail
          go_ret2
          exact HF.out _ hb
/-! ### NatLeft, NatRight (the walks are written by wip/tools/gen_shift.py) -/
theorem left_bound {v : Int} (h0 : 0 ≤ v) (h1 : v < 18446744073709551616 ^ 60) {j : Nat} (hj : j ≤ 5000) : v * 2 ^ j < 18446744073709551616 ^ 4096 ∧ (2 : Int) ^ j < 18446744073709551616 ^ 4096 := by
  have h2 := pow_le' (b := 2) (by omega) hj
  have hp := two_pos j
  have e1 : (18446744073709551616 : Int) ^ 139 ≤ 18446744073709551616 ^ 4096 := pow_le' (by omega) (by omega)
  have e2 : (2 : Int) ^ 5000 ≤ 18446744073709551616 ^ 79 := by rw [pow64]; exact pow_le' (by omega) (by omega)
  have e3 : (18446744073709551616 : Int) ^ 139 = 18446744073709551616 ^ 60 * 18446744073709551616 ^ 79 := by rw [← Int.pow_add]
  have hq : (2 : Int) ≤ 18446744073709551616 ^ 60 := by decide
  generalize (18446744073709551616 : Int) ^ 4096 = K at *
  generalize (18446744073709551616 : Int) ^ 139 = Q at *
  generalize (18446744073709551616 : Int) ^ 60 = P at *
  generalize (18446744073709551616 : Int) ^ 79 = R at *
  generalize (2 : Int) ^ 5000 = T at *
  generalize (2 : Int) ^ j = X at *
  have h4 : v * X ≤ (P - 1) * R := Int.mul_le_mul (by omega) (by omega) (by omega) (by omega)
  have h5 : (P - 1) * R = P * R - R := by grind
  have h6 : 2 * R ≤ P * R := Int.mul_le_mul_of_nonneg_right hq (by omega)
  generalize P * R = Z at *
  generalize v * X = Y at *
  exact ⟨by omega, by omega⟩
section
variable {A : Option Addr} {n c : Nat} {l : List Int} {w : World} (h : Lv w A n c l)
include h
theorem Shl_neg_lv (hn : n ≤ 4096) (k : Int) (hk : k < 0) : Calls Tryz.prog 86 #[.slice A n c, .int .i64 k] w (Fails 2 w) := by
  have := Shl_neg A c l w h.2.1 h.2.2 (norm_le h.1 hn) k hk
  rw [h.1] at this
  exact this
theorem Shl_val (hn : n ≤ 60) (j : Nat) (hj : j ≤ 5000) : Calls Tryz.prog 86 #[.slice A n c, .int .i64 j] w (GoodV (val 18446744073709551616 l * 2 ^ j) w) := by
  have hb := (left_bound h.nonneg (h.less hn) hj).1
  by_cases h0 : val 18446744073709551616 l = 0
  · have := Shl_zero A c l w h.2.1 h.2.2 (norm_le h.1 (by omega)) (j : Int) (by omega) h0
    rw [h.1] at this
    rw [h0, Int.zero_mul] at hb ⊢
    exact this.mono fun e w' q => q.goodV hb
  · have := Shl_any A c l w h.2.1 h.2.2 (norm_le h.1 (by omega)) j h0 (by rw [show (262144 : Nat) = 64 * 4096 from rfl, ← pow64]; exact hb)
    rw [h.1] at this
    exact this.mono fun e w' q => q.goodV hb
theorem Shr_neg_lv (hn : n ≤ 4096) (k : Int) (hk : k < 0) : Calls Tryz.prog 85 #[.slice A n c, .int .i64 k] w fun e w' => e = .returned (.tuple #[.slice none 0 0, .bool false, .int .i64 2]) ∧ w = w' := by
  have := Shr_neg A c l w h.2.1 h.2.2 (norm_le h.1 hn) k hk
  rw [h.1] at this
  exact this
theorem Shr_lv (hn : n ≤ 4096) (hT : Tab w) (j : Nat) (hj : (j : Int) ≤ 9223372036854775807) (L : Bool) (hL : lostB (val 18446744073709551616 l) j = L) : Calls Tryz.prog 85 #[.slice A n c, .int .i64 j] w fun e w' =>
    ∃ s A c, e = .returned (.tuple #[.slice A s.length c, .bool L, .int .i64 0]) ∧ Normal s ∧ Hid (val 18446744073709551616 s = val 18446744073709551616 l / 2 ^ j) ∧ Lv w' A s.length c s ∧ Below w.heap.size w w' := by
  have := Shr_any A c l w h.2.1 h.2.2 (norm_le h.1 hn) hT j (by omega)
  rw [h.1] at this
  refine this.mono ?_
  rintro e w' ⟨s, A1, c1, rfl, h1, h2, h3, h4, h5⟩
  exact ⟨s, A1, c1, by rw [hL], h2, h3, ⟨rfl, h4.nums, h1⟩, h5⟩
theorem refShr_lv (hn : n ≤ 4096) (j : Nat) (hj : (j : Int) ≤ 9223372036854775807) (L : Bool) (hL : lostB (val 18446744073709551616 l) j = L) : Calls Tryz.prog 93 #[.slice A n c, .int .i64 j] w fun e w' =>
    ∃ s A c, e = .returned (.tuple #[.slice A s.length c, .bool L]) ∧ Normal s ∧ Hid (val 18446744073709551616 s = val 18446744073709551616 l / 2 ^ j) ∧ Lv w' A s.length c s ∧ Below w.heap.size w w' := by
  refine (refShr_any h hn j hj).mono ?_
  rintro e w' ⟨s, A1, c1, rfl, h2, h3, h4, h5⟩
  exact ⟨s, A1, c1, by rw [hL], h2, h3, h4, h5⟩
end
end Go.Proofs.YtfjellhbcjnjkaaGreatDoor
