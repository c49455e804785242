/-
  Layer 3, walks, part ten: sums and products of normal numbers. (Written by wip/tools/gen_dym.py.)
-/
import Derived.Test.YtmfikppnkjhmjaaGreatDoorTDyL
namespace Go.Proofs.YtmfikppnkjhmjaaGreatDoor
open Go.RowKit Go.Sort
set_option linter.unusedVariables false
set_option linter.unusedSimpArgs false

/-- the fields are a normal number, but for a nought's sign and place -/
def Dq (b : Bool) (l : List Int) (x : Int) (d : Nf) : Prop := (l = [] ∧ d = zeroN) ∨ (l ≠ [] ∧ Dn b l x d)
theorem Dn.dq {b : Bool} {l : List Int} {x : Int} {d : Nf} (h : Dn b l x d) (hl : Lim 18446744073709551616 l) : Dq b l x d := by
  by_cases e : l = []
  · left
    refine ⟨e, ok_zero h.2.2.2 ?_⟩
    have := h.man hl
    rw [e, val_nil] at this
    omega
  · exact .inr ⟨e, h⟩
theorem Dn.turn {b : Bool} {l : List Int} {x : Int} {d : Nf} (h : Dn b l x d) (hl : Lim 18446744073709551616 l) : Dq (!b) l x (negN d) := by
  by_cases e : l = []
  · left
    refine ⟨e, ?_⟩
    rw [ok_zero h.2.2.2 ?_, negN_zero]
    have := h.man hl
    rw [e, val_nil] at this
    omega
  · right
    refine ⟨e, h.1, h.2.1, ?_, negN_ok _⟩
    have ho := ok_odd h.2.2.2 (fun e0 => e (nil_of_len ((h.nil hl).2 e0)))
    rw [h.2.2.1] at ho ⊢
    rw [negN_is ho]
theorem Dq.ok {b : Bool} {l : List Int} {x : Int} {d : Nf} (h : Dq b l x d) : d.Ok := by
  rcases h with ⟨_, h⟩ | ⟨_, h⟩
  · rw [h]; exact zeroN_ok
  · exact h.2.2.2
theorem Dq.ans {b : Bool} {l : List Int} {x : Int} {d : Nf} (h : Dq b l x d) (hl : Lim 18446744073709551616 l) : ansR b (val 18446744073709551616 l) x = doneR d := by
  rcases h with ⟨h1, h2⟩ | ⟨_, h⟩
  · rw [h1, h2, val_nil]; rfl
  · exact ansR_dn h hl
theorem Dq.normal {b : Bool} {l : List Int} {x : Int} {d : Nf} (h : Dq b l x d) : Normal l ∧ l.length ≤ 4096 := by
  rcases h with ⟨h1, h2⟩ | ⟨_, h⟩
  · rw [h1]; exact ⟨.inl rfl, by simp⟩
  · exact ⟨h.1, h.2.1⟩
theorem Dq.odd {b : Bool} {l : List Int} {x : Int} {d : Nf} (h : Dq b l x d) (hl : Lim 18446744073709551616 l) (h0 : l.length ≠ 0) : val 18446744073709551616 l % 2 = 1 := by
  rcases h with ⟨h1, h2⟩ | ⟨_, h⟩
  · rw [h1] at h0; simp at h0
  · exact normal_odd h hl h0
theorem exists_bits (v : Int) (h : 0 ≤ v) : ∃ k, IsBits v k := by
  obtain ⟨n, rfl⟩ := Int.eq_ofNat_of_zero_le h
  by_cases h0 : n = 0
  · subst h0; exact ⟨0, by unfold IsBits; decide⟩
  · refine ⟨n.log2 + 1, by omega, ?_, fun _ => ?_⟩
    · have := @Nat.lt_log2_self n
      exact_mod_cast this
    · rw [Nat.add_sub_cancel]
      have := Nat.log2_self_le h0
      exact_mod_cast this
/-- two numbers within one range -/
def Near (d d2 : Nf) : Prop := ∃ p q : Int, d.In p q ∧ d2.In p q ∧ p ≤ q ∧ q - p ≤ 262143
theorem near_one {b : Bool} {l : List Int} {x : Int} {d : Nf} {p q m : Int} (hd : Dn b l x d) (hl : Lim 18446744073709551616 l) (h0 : d.man ≠ 0) (h : d.In p q) (hpq : p ≤ q) (hq : q - p ≤ 262143) (hm : m ≤ x) (hp : p ≤ m) :
    val 18446744073709551616 l * 2 ^ (x - m).toNat < 2 ^ 262143 ∧ ∃ k, IsBits (val 18446744073709551616 l) k ∧ k ≤ 262143 ∧ x + k - m < 262144 := by
  have h1 := h.steps hpq (r := m) (by rw [hd.exp]; exact hm) hp
  rw [hd.exp, hd.man hl] at h1
  have h2 := pw_mono (show (q - m).toNat ≤ 262143 by omega)
  have h3 := Int.lt_of_lt_of_le h1 h2
  have hv := lim_val hl
  have hman := hd.man hl
  refine ⟨h3, ?_⟩
  obtain ⟨k, hk⟩ := exists_bits _ hv
  refine ⟨k, hk, ?_⟩
  rcases Nat.eq_zero_or_pos k with g | g
  · subst g
    have := hk.2.1
    simp at this
    omega
  · have h4 := hk.2.2 g
    have h5 : (2 : Int) ^ (k - 1 + (x - m).toNat) < 2 ^ 262143 := by
      rw [Int.pow_add]
      exact Int.lt_of_le_of_lt (Int.mul_le_mul_of_nonneg_right h4 (Int.le_of_lt (Int.pow_pos (by omega)))) h3
    have h6 := pow_lt_inv h5
    omega
theorem near_exp {d d2 : Nf} {p q : Int} (h : d.In p q) (h2 : d2.In p q) (h0 : d.man ≠ 0) (h20 : d2.man ≠ 0) : p ≤ min d.exp d2.exp := by
  have := h.exp h0
  have := h2.exp h20
  omega

section
variable {b : Bool} {A : Option Addr} {n c : Nat} {x : Int} {l : List Int} {w : World}
variable {b2 : Bool} {A2 : Option Addr} {n2 c2 : Nat} {x2 : Int} {l2 : List Int}
/-- both together, at the lower place -/
theorem total_any (h : Lv w A n c l) (hn : n ≤ 4096) (h2 : Lv w A2 n2 c2 l2) (hn2 : n2 ≤ 4096) (hT : Tab w) {d d2 : Nf} (hd : Dn b l x d) (hd2 : Dn b2 l2 x2 d2) (m0 : d.man ≠ 0) (m2 : d2.man ≠ 0) (hN : Near d d2)
    (x0 : -1048576 ≤ x) (x1 : x ≤ 1048576) (y0 : -1048576 ≤ x2) (y1 : x2 ≤ 1048576) :
    Calls Tryz.prog 65 #[.agg #[.int .i64 (min x x2), .bool b, .slice A n c, .int .i64 x, .bool b2, .slice A2 n2 c2, .int .i64 x2]] w (DyK (sumN d d2) 0 w) := by
  obtain ⟨p, q, i1, i2, hpq, hq⟩ := hN
  have hp := near_exp i1 i2 m0 m2
  rw [hd.exp, hd2.exp] at hp
  obtain ⟨p1, p2⟩ : min x x2 ≤ x ∧ min x x2 ≤ x2 := by omega
  obtain ⟨v1, _⟩ := near_one hd h.2.2 m0 i1 hpq hq p1 hp
  obtain ⟨v2, _⟩ := near_one hd2 h2.2.2 m2 i2 hpq hq p2 hp
  have w1 := pw_mono (show 262143 ≤ 262144 by omega)
  have z1 : val 18446744073709551616 l ≠ 0 := by have := hd.man h.2.2; omega
  have z2 : val 18446744073709551616 l2 ≠ 0 := by have := hd2.man h2.2.2; omega
  have e64 : (18446744073709551616 : Int) ^ 4096 = 2 ^ 262143 + 2 ^ 262143 := by rw [pow64, show 64 * 4096 = 262143 + 1 from rfl, Int.pow_succ]; omega
  have mb : -1048576 ≤ min x x2 := by omega
  by_cases hb : b = b2
  · exact total_s h hn hd.1 h2 hn2 hd2.1 hT p1 p2 mb x1 y1 hb ⟨z1, Int.lt_of_lt_of_le v1 w1, z2, Int.lt_of_lt_of_le v2 w1, by rw [e64]; exact Int.add_lt_add v1 v2⟩ (total_same hd hd2 h.2.2 h2.2.2 p1 p2 hb)
  · have ht := total_diff hd hd2 h.2.2 h2.2.2 p1 p2 hb
    rcases Int.lt_or_le (val 18446744073709551616 l * 2 ^ (x - min x x2).toNat) (val 18446744073709551616 l2 * 2 ^ (x2 - min x x2).toNat) with g | g
    · exact total_lt h hn hd.1 h2 hn2 hd2.1 hT p1 p2 mb x1 y1 hb ⟨z1, Int.lt_of_lt_of_le v1 w1, z2, Int.lt_of_lt_of_le v2 w1, g⟩ ht.2
    · exact total_ge h hn hd.1 h2 hn2 hd2.1 hT p1 p2 mb x1 y1 hb ⟨z1, Int.lt_of_lt_of_le v1 w1, z2, Int.lt_of_lt_of_le v2 w1, g⟩ ht.1
theorem pair_near (h : Lv w A n c l) (hn : n ≤ 4096) (h2 : Lv w A2 n2 c2 l2) (hn2 : n2 ≤ 4096) {d d2 : Nf} (hd : Dn b l x d) (hd2 : Dn b2 l2 x2 d2) (m0 : d.man ≠ 0) (m2 : d2.man ≠ 0) (hN : Near d d2)
    (x0 : -1048576 ≤ x) (x1 : x ≤ 1048576) (y0 : -1048576 ≤ x2) (y1 : x2 ≤ 1048576) :
    Calls Tryz.prog 64 #[dyV b A n c x, dyV b2 A2 n2 c2 x2] w fun e w' => e = .returned (.agg #[.int .i64 (min x x2), .bool b, .slice A n c, .int .i64 x, .bool b2, .slice A2 n2 c2, .int .i64 x2]) ∧ Below w.heap.size w w' := by
  obtain ⟨p, q, i1, i2, hpq, hq⟩ := hN
  have hp := near_exp i1 i2 m0 m2
  rw [hd.exp, hd2.exp] at hp
  obtain ⟨p1, p2⟩ : min x x2 ≤ x ∧ min x x2 ≤ x2 := by omega
  obtain ⟨_, k, hk, k1, k2⟩ := near_one hd h.2.2 m0 i1 hpq hq p1 hp
  obtain ⟨_, k', hk', k1', k2'⟩ := near_one hd2 h2.2.2 m2 i2 hpq hq p2 hp
  exact pairOf_any h hn h2 hn2 hk hk' x0 x1 y0 y1 (by omega) (by omega) (by omega)
set_option maxRecDepth 100000 in
set_option maxHeartbeats 4000000 in
theorem sum_z1 (h2 : Lv w A2 n2 c2 l2) (hn2 : n2 ≤ 4096) (nl2 : Normal l2) (ho2 : n2 ≠ 0 → val 18446744073709551616 l2 % 2 = 1) (h0 : n = 0) :
    Calls Tryz.prog 34 #[dyV b A n c x, dyV b2 A2 n2 c2 x2] w (DyK (ansR b2 (val 18446744073709551616 l2) x2).1 (ansR b2 (val 18446744073709551616 l2) x2).2 w) := by
  subst h0
  have PB := Blk.new w [.bool b, .slice A 0 c, .int .i64 x] 31
  have QB := Blk.new (w.alloc (.cells #[.bool b, .slice A 0 c, .int .i64 x] 31)) [.bool b2, .slice A2 n2 c2, .int .i64 x2] 31
  simp only [World.size_alloc] at QB
  replace PB := Blk.alloc PB (.cells #[.bool b2, .slice A2 n2 c2, .int .i64 x2] 31)
  have DB := Blk.new ((w.alloc (.cells #[.bool b, .slice A 0 c, .int .i64 x] 31)).alloc (.cells #[.bool b2, .slice A2 n2 c2, .int .i64 x2] 31)) [.bool false, .slice none 0 0, .int .i64 0] 31
  simp only [World.size_alloc] at DB
  replace PB := Blk.alloc PB (.cells #[.bool false, .slice none 0 0, .int .i64 0] 31)
  replace QB := Blk.alloc QB (.cells #[.bool false, .slice none 0 0, .int .i64 0] 31)
  have bw : Below w.heap.size w (((w.alloc (.cells #[.bool b, .slice A 0 c, .int .i64 x] 31)).alloc (.cells #[.bool b2, .slice A2 n2 c2, .int .i64 x2] 31)).alloc (.cells #[.bool false, .slice none 0 0, .int .i64 0] 31)) := by go_grown
  have PB_0 := Blk.cell PB 0 rfl
  have PB_1 := Blk.cell PB 1 rfl
  have PB_2 := Blk.cell PB 2 rfl
  have PB_f0 := Blk.free PB 0
  have PB_f1 := Blk.free PB 1
  have PB_f2 := Blk.free PB 2
  have QB_0 := Blk.cell QB 0 rfl
  have QB_1 := Blk.cell QB 1 rfl
  have QB_2 := Blk.cell QB 2 rfl
  have QB_f0 := Blk.free QB 0
  have QB_f1 := Blk.free QB 1
  have QB_f2 := Blk.free QB 2
  have DB_0 := Blk.cell DB 0 rfl
  have DB_1 := Blk.cell DB 1 rfl
  have DB_2 := Blk.cell DB 2 rfl
  have DB_f0 := Blk.free DB 0
  have DB_f1 := Blk.free DB 1
  have DB_f2 := Blk.free DB 2
  go_enter Tryz.func34, Tryz.ntmps34
  go_wp2_with fail
  with_reducible refine (copied_any (b := b2) (x := x2) (h2.on (by go_grown)) hn2 nl2 ho2).mono ?_
  rintro e w1 ⟨b1, q1, A1, c1, x1, rfl, hd1, m1, hb⟩
  clear PB_0 PB_1 PB_2 PB_f0 PB_f1 PB_f2
  clear QB_0 QB_1 QB_2 QB_f0 QB_f1 QB_f2
  clear DB_0 DB_1 DB_2 DB_f0 DB_f1 DB_f2
  have hs1 := hb.size
  try simp only [World.size_alloc, World.size_setCell] at hs1
  replace bw : Below w.heap.size w w1 := dy_end (by go_grown) hb
  replace PB := Blk.on PB hb
  replace QB := Blk.on QB hb
  replace DB := Blk.on DB hb
  clear hb
  have PB_0 := Blk.cell PB 0 rfl
  have PB_1 := Blk.cell PB 1 rfl
  have PB_2 := Blk.cell PB 2 rfl
  have PB_f0 := Blk.free PB 0
  have PB_f1 := Blk.free PB 1
  have PB_f2 := Blk.free PB 2
  have QB_0 := Blk.cell QB 0 rfl
  have QB_1 := Blk.cell QB 1 rfl
  have QB_2 := Blk.cell QB 2 rfl
  have QB_f0 := Blk.free QB 0
  have QB_f1 := Blk.free QB 1
  have QB_f2 := Blk.free QB 2
  have DB_0 := Blk.cell DB 0 rfl
  have DB_1 := Blk.cell DB 1 rfl
  have DB_2 := Blk.cell DB 2 rfl
  have DB_f0 := Blk.free DB 0
  have DB_f1 := Blk.free DB 1
  have DB_f2 := Blk.free DB 2
  go_wp2_with fail
  refine bodyPost_ret (v := .tuple #[dyV b1 A1 q1.length c1 x1, .int .i64 (ansR b2 (val 18446744073709551616 l2) x2).2]) (by simp [results, Tryz.results34, go_sem, DB_0, DB_1, DB_2]) rfl ?_
  exact ⟨b1, q1, A1, c1, x1, rfl, hd1, m1.put DB _ _ _ _ _, by go_grown⟩

set_option maxRecDepth 100000 in
set_option maxHeartbeats 4000000 in
theorem sum_z2 (h : Lv w A n c l) (hn : n ≤ 4096) (nl : Normal l) (ho : n ≠ 0 → val 18446744073709551616 l % 2 = 1) (h1 : ((n : Int) == 0) = false) (h0 : n2 = 0) :
    Calls Tryz.prog 34 #[dyV b A n c x, dyV b2 A2 n2 c2 x2] w (DyK (ansR b (val 18446744073709551616 l) x).1 (ansR b (val 18446744073709551616 l) x).2 w) := by
  subst h0
  have PB := Blk.new w [.bool b, .slice A n c, .int .i64 x] 31
  have QB := Blk.new (w.alloc (.cells #[.bool b, .slice A n c, .int .i64 x] 31)) [.bool b2, .slice A2 0 c2, .int .i64 x2] 31
  simp only [World.size_alloc] at QB
  replace PB := Blk.alloc PB (.cells #[.bool b2, .slice A2 0 c2, .int .i64 x2] 31)
  have DB := Blk.new ((w.alloc (.cells #[.bool b, .slice A n c, .int .i64 x] 31)).alloc (.cells #[.bool b2, .slice A2 0 c2, .int .i64 x2] 31)) [.bool false, .slice none 0 0, .int .i64 0] 31
  simp only [World.size_alloc] at DB
  replace PB := Blk.alloc PB (.cells #[.bool false, .slice none 0 0, .int .i64 0] 31)
  replace QB := Blk.alloc QB (.cells #[.bool false, .slice none 0 0, .int .i64 0] 31)
  have bw : Below w.heap.size w (((w.alloc (.cells #[.bool b, .slice A n c, .int .i64 x] 31)).alloc (.cells #[.bool b2, .slice A2 0 c2, .int .i64 x2] 31)).alloc (.cells #[.bool false, .slice none 0 0, .int .i64 0] 31)) := by go_grown
  have PB_0 := Blk.cell PB 0 rfl
  have PB_1 := Blk.cell PB 1 rfl
  have PB_2 := Blk.cell PB 2 rfl
  have PB_f0 := Blk.free PB 0
  have PB_f1 := Blk.free PB 1
  have PB_f2 := Blk.free PB 2
  have QB_0 := Blk.cell QB 0 rfl
  have QB_1 := Blk.cell QB 1 rfl
  have QB_2 := Blk.cell QB 2 rfl
  have QB_f0 := Blk.free QB 0
  have QB_f1 := Blk.free QB 1
  have QB_f2 := Blk.free QB 2
  have DB_0 := Blk.cell DB 0 rfl
  have DB_1 := Blk.cell DB 1 rfl
  have DB_2 := Blk.cell DB 2 rfl
  have DB_f0 := Blk.free DB 0
  have DB_f1 := Blk.free DB 1
  have DB_f2 := Blk.free DB 2
  go_enter Tryz.func34, Tryz.ntmps34
  go_wp2_with fail
  with_reducible refine (copied_any (b := b) (x := x) (h.on (by go_grown)) hn nl ho).mono ?_
  rintro e w1 ⟨b1, q1, A1, c1, x1, rfl, hd1, m1, hb⟩
  clear PB_0 PB_1 PB_2 PB_f0 PB_f1 PB_f2
  clear QB_0 QB_1 QB_2 QB_f0 QB_f1 QB_f2
  clear DB_0 DB_1 DB_2 DB_f0 DB_f1 DB_f2
  have hs1 := hb.size
  try simp only [World.size_alloc, World.size_setCell] at hs1
  replace bw : Below w.heap.size w w1 := dy_end (by go_grown) hb
  replace PB := Blk.on PB hb
  replace QB := Blk.on QB hb
  replace DB := Blk.on DB hb
  clear hb
  have PB_0 := Blk.cell PB 0 rfl
  have PB_1 := Blk.cell PB 1 rfl
  have PB_2 := Blk.cell PB 2 rfl
  have PB_f0 := Blk.free PB 0
  have PB_f1 := Blk.free PB 1
  have PB_f2 := Blk.free PB 2
  have QB_0 := Blk.cell QB 0 rfl
  have QB_1 := Blk.cell QB 1 rfl
  have QB_2 := Blk.cell QB 2 rfl
  have QB_f0 := Blk.free QB 0
  have QB_f1 := Blk.free QB 1
  have QB_f2 := Blk.free QB 2
  have DB_0 := Blk.cell DB 0 rfl
  have DB_1 := Blk.cell DB 1 rfl
  have DB_2 := Blk.cell DB 2 rfl
  have DB_f0 := Blk.free DB 0
  have DB_f1 := Blk.free DB 1
  have DB_f2 := Blk.free DB 2
  go_wp2_with fail
  refine bodyPost_ret (v := .tuple #[dyV b1 A1 q1.length c1 x1, .int .i64 (ansR b (val 18446744073709551616 l) x).2]) (by simp [results, Tryz.results34, go_sem, DB_0, DB_1, DB_2]) rfl ?_
  exact ⟨b1, q1, A1, c1, x1, rfl, hd1, m1.put DB _ _ _ _ _, by go_grown⟩

set_option maxRecDepth 100000 in
set_option maxHeartbeats 4000000 in
theorem sum_far (x0 : -1048576 ≤ x) (x1 : x ≤ 1048576) (y0 : -1048576 ≤ x2) (y1 : x2 ≤ 1048576) (h1 : ((n : Int) == 0) = false) (h3 : ((n2 : Int) == 0) = false) (hf : 262144 < x - x2 ∨ 262144 < x2 - x) :
    Calls Tryz.prog 34 #[dyV b A n c x, dyV b2 A2 n2 c2 x2] w (DyK zeroN 3 w) := by
  have PB := Blk.new w [.bool b, .slice A n c, .int .i64 x] 31
  have QB := Blk.new (w.alloc (.cells #[.bool b, .slice A n c, .int .i64 x] 31)) [.bool b2, .slice A2 n2 c2, .int .i64 x2] 31
  simp only [World.size_alloc] at QB
  replace PB := Blk.alloc PB (.cells #[.bool b2, .slice A2 n2 c2, .int .i64 x2] 31)
  have DB := Blk.new ((w.alloc (.cells #[.bool b, .slice A n c, .int .i64 x] 31)).alloc (.cells #[.bool b2, .slice A2 n2 c2, .int .i64 x2] 31)) [.bool false, .slice none 0 0, .int .i64 0] 31
  simp only [World.size_alloc] at DB
  replace PB := Blk.alloc PB (.cells #[.bool false, .slice none 0 0, .int .i64 0] 31)
  replace QB := Blk.alloc QB (.cells #[.bool false, .slice none 0 0, .int .i64 0] 31)
  have bw : Below w.heap.size w (((w.alloc (.cells #[.bool b, .slice A n c, .int .i64 x] 31)).alloc (.cells #[.bool b2, .slice A2 n2 c2, .int .i64 x2] 31)).alloc (.cells #[.bool false, .slice none 0 0, .int .i64 0] 31)) := by go_grown
  have PB_0 := Blk.cell PB 0 rfl
  have PB_1 := Blk.cell PB 1 rfl
  have PB_2 := Blk.cell PB 2 rfl
  have PB_f0 := Blk.free PB 0
  have PB_f1 := Blk.free PB 1
  have PB_f2 := Blk.free PB 2
  have QB_0 := Blk.cell QB 0 rfl
  have QB_1 := Blk.cell QB 1 rfl
  have QB_2 := Blk.cell QB 2 rfl
  have QB_f0 := Blk.free QB 0
  have QB_f1 := Blk.free QB 1
  have QB_f2 := Blk.free QB 2
  have DB_0 := Blk.cell DB 0 rfl
  have DB_1 := Blk.cell DB 1 rfl
  have DB_2 := Blk.cell DB 2 rfl
  have DB_f0 := Blk.free DB 0
  have DB_f1 := Blk.free DB 1
  have DB_f2 := Blk.free DB 2
  go_enter Tryz.func34, Tryz.ntmps34
  go_wp2_with fail
  with_reducible refine (tooFar_true b b2 A A2 n n2 c c2 _ x0 x1 y0 y1 hf).mono ?_
  rintro e w1 ⟨rfl, hb⟩
  clear PB_0 PB_1 PB_2 PB_f0 PB_f1 PB_f2
  clear QB_0 QB_1 QB_2 QB_f0 QB_f1 QB_f2
  clear DB_0 DB_1 DB_2 DB_f0 DB_f1 DB_f2
  have hs1 := hb.size
  try simp only [World.size_alloc, World.size_setCell] at hs1
  replace bw : Below w.heap.size w w1 := dy_end (by go_grown) hb
  replace PB := Blk.on PB hb
  replace QB := Blk.on QB hb
  replace DB := Blk.on DB hb
  clear hb
  have PB_0 := Blk.cell PB 0 rfl
  have PB_1 := Blk.cell PB 1 rfl
  have PB_2 := Blk.cell PB 2 rfl
  have PB_f0 := Blk.free PB 0
  have PB_f1 := Blk.free PB 1
  have PB_f2 := Blk.free PB 2
  have QB_0 := Blk.cell QB 0 rfl
  have QB_1 := Blk.cell QB 1 rfl
  have QB_2 := Blk.cell QB 2 rfl
  have QB_f0 := Blk.free QB 0
  have QB_f1 := Blk.free QB 1
  have QB_f2 := Blk.free QB 2
  have DB_0 := Blk.cell DB 0 rfl
  have DB_1 := Blk.cell DB 1 rfl
  have DB_2 := Blk.cell DB 2 rfl
  have DB_f0 := Blk.free DB 0
  have DB_f1 := Blk.free DB 1
  have DB_f2 := Blk.free DB 2
  go_wp2_with fail
  refine bodyPost_ret (v := .tuple #[dyV false none 0 0 0, .int .i64 3]) (by simp [results, Tryz.results34, go_sem, DB_0, DB_1, DB_2]) rfl ?_
  exact ⟨false, [], none, 0, 0, rfl, Dn.zero, lv_nil _, by go_grown⟩

set_option maxRecDepth 100000 in
set_option maxHeartbeats 4000000 in
theorem sum_near (h : Lv w A n c l) (hn : n ≤ 4096) (h2 : Lv w A2 n2 c2 l2) (hn2 : n2 ≤ 4096) (hT : Tab w) {d d2 : Nf} (hd : Dn b l x d) (hd2 : Dn b2 l2 x2 d2) (m0 : d.man ≠ 0) (m2 : d2.man ≠ 0) (hN : Near d d2) (x0 : -1048576 ≤ x) (x1 : x ≤ 1048576) (y0 : -1048576 ≤ x2) (y1 : x2 ≤ 1048576) (h1 : ((n : Int) == 0) = false) (h3 : ((n2 : Int) == 0) = false) (hf : x - x2 ≤ 262144 ∧ x2 - x ≤ 262144) :
    Calls Tryz.prog 34 #[dyV b A n c x, dyV b2 A2 n2 c2 x2] w (DyK (doneR (sumN d d2)).1 (doneR (sumN d d2)).2 w) := by
  have PB := Blk.new w [.bool b, .slice A n c, .int .i64 x] 31
  have QB := Blk.new (w.alloc (.cells #[.bool b, .slice A n c, .int .i64 x] 31)) [.bool b2, .slice A2 n2 c2, .int .i64 x2] 31
  simp only [World.size_alloc] at QB
  replace PB := Blk.alloc PB (.cells #[.bool b2, .slice A2 n2 c2, .int .i64 x2] 31)
  have DB := Blk.new ((w.alloc (.cells #[.bool b, .slice A n c, .int .i64 x] 31)).alloc (.cells #[.bool b2, .slice A2 n2 c2, .int .i64 x2] 31)) [.bool false, .slice none 0 0, .int .i64 0] 31
  simp only [World.size_alloc] at DB
  replace PB := Blk.alloc PB (.cells #[.bool false, .slice none 0 0, .int .i64 0] 31)
  replace QB := Blk.alloc QB (.cells #[.bool false, .slice none 0 0, .int .i64 0] 31)
  have bw : Below w.heap.size w (((w.alloc (.cells #[.bool b, .slice A n c, .int .i64 x] 31)).alloc (.cells #[.bool b2, .slice A2 n2 c2, .int .i64 x2] 31)).alloc (.cells #[.bool false, .slice none 0 0, .int .i64 0] 31)) := by go_grown
  have PB_0 := Blk.cell PB 0 rfl
  have PB_1 := Blk.cell PB 1 rfl
  have PB_2 := Blk.cell PB 2 rfl
  have PB_f0 := Blk.free PB 0
  have PB_f1 := Blk.free PB 1
  have PB_f2 := Blk.free PB 2
  have QB_0 := Blk.cell QB 0 rfl
  have QB_1 := Blk.cell QB 1 rfl
  have QB_2 := Blk.cell QB 2 rfl
  have QB_f0 := Blk.free QB 0
  have QB_f1 := Blk.free QB 1
  have QB_f2 := Blk.free QB 2
  have DB_0 := Blk.cell DB 0 rfl
  have DB_1 := Blk.cell DB 1 rfl
  have DB_2 := Blk.cell DB 2 rfl
  have DB_f0 := Blk.free DB 0
  have DB_f1 := Blk.free DB 1
  have DB_f2 := Blk.free DB 2
  go_enter Tryz.func34, Tryz.ntmps34
  go_wp2_with fail
  with_reducible refine (tooFar_false b b2 A A2 n n2 c c2 _ x0 x1 y0 y1 hf).mono ?_
  rintro e w1 ⟨rfl, hb⟩
  clear PB_0 PB_1 PB_2 PB_f0 PB_f1 PB_f2
  clear QB_0 QB_1 QB_2 QB_f0 QB_f1 QB_f2
  clear DB_0 DB_1 DB_2 DB_f0 DB_f1 DB_f2
  have hs1 := hb.size
  try simp only [World.size_alloc, World.size_setCell] at hs1
  replace bw : Below w.heap.size w w1 := dy_end (by go_grown) hb
  replace PB := Blk.on PB hb
  replace QB := Blk.on QB hb
  replace DB := Blk.on DB hb
  clear hb
  have PB_0 := Blk.cell PB 0 rfl
  have PB_1 := Blk.cell PB 1 rfl
  have PB_2 := Blk.cell PB 2 rfl
  have PB_f0 := Blk.free PB 0
  have PB_f1 := Blk.free PB 1
  have PB_f2 := Blk.free PB 2
  have QB_0 := Blk.cell QB 0 rfl
  have QB_1 := Blk.cell QB 1 rfl
  have QB_2 := Blk.cell QB 2 rfl
  have QB_f0 := Blk.free QB 0
  have QB_f1 := Blk.free QB 1
  have QB_f2 := Blk.free QB 2
  have DB_0 := Blk.cell DB 0 rfl
  have DB_1 := Blk.cell DB 1 rfl
  have DB_2 := Blk.cell DB 2 rfl
  have DB_f0 := Blk.free DB 0
  have DB_f1 := Blk.free DB 1
  have DB_f2 := Blk.free DB 2
  go_wp2_with fail
  with_reducible refine (pair_near (b := b) (b2 := b2) (x := x) (x2 := x2) (h.on (by go_grown)) hn (h2.on (by go_grown)) hn2 hd hd2 m0 m2 hN x0 x1 y0 y1).mono ?_
  rintro e w2 ⟨rfl, hb⟩
  clear PB_0 PB_1 PB_2 PB_f0 PB_f1 PB_f2
  clear QB_0 QB_1 QB_2 QB_f0 QB_f1 QB_f2
  clear DB_0 DB_1 DB_2 DB_f0 DB_f1 DB_f2
  have hs2 := hb.size
  try simp only [World.size_alloc, World.size_setCell] at hs2
  replace bw : Below w.heap.size w w2 := dy_end (by go_grown) hb
  replace PB := Blk.on PB hb
  replace QB := Blk.on QB hb
  replace DB := Blk.on DB hb
  clear hb
  have PB_0 := Blk.cell PB 0 rfl
  have PB_1 := Blk.cell PB 1 rfl
  have PB_2 := Blk.cell PB 2 rfl
  have PB_f0 := Blk.free PB 0
  have PB_f1 := Blk.free PB 1
  have PB_f2 := Blk.free PB 2
  have QB_0 := Blk.cell QB 0 rfl
  have QB_1 := Blk.cell QB 1 rfl
  have QB_2 := Blk.cell QB 2 rfl
  have QB_f0 := Blk.free QB 0
  have QB_f1 := Blk.free QB 1
  have QB_f2 := Blk.free QB 2
  have DB_0 := Blk.cell DB 0 rfl
  have DB_1 := Blk.cell DB 1 rfl
  have DB_2 := Blk.cell DB 2 rfl
  have DB_f0 := Blk.free DB 0
  have DB_f1 := Blk.free DB 1
  have DB_f2 := Blk.free DB 2
  go_wp2_with fail
  with_reducible refine (total_any (b := b) (b2 := b2) (x := x) (x2 := x2) (h.on (by go_grown)) hn (h2.on (by go_grown)) hn2 (hT.onD (by go_grown)) hd hd2 m0 m2 hN x0 x1 y0 y1).mono ?_
  rintro e w3 ⟨b3, q3, A3, c3, x3, rfl, hd3, m3, hb⟩
  clear PB_0 PB_1 PB_2 PB_f0 PB_f1 PB_f2
  clear QB_0 QB_1 QB_2 QB_f0 QB_f1 QB_f2
  clear DB_0 DB_1 DB_2 DB_f0 DB_f1 DB_f2
  have hs3 := hb.size
  try simp only [World.size_alloc, World.size_setCell] at hs3
  replace bw : Below w.heap.size w w3 := dy_end (by go_grown) hb
  replace PB := Blk.on PB hb
  replace QB := Blk.on QB hb
  replace DB := Blk.on DB hb
  clear hb
  have PB_0 := Blk.cell PB 0 rfl
  have PB_1 := Blk.cell PB 1 rfl
  have PB_2 := Blk.cell PB 2 rfl
  have PB_f0 := Blk.free PB 0
  have PB_f1 := Blk.free PB 1
  have PB_f2 := Blk.free PB 2
  have QB_0 := Blk.cell QB 0 rfl
  have QB_1 := Blk.cell QB 1 rfl
  have QB_2 := Blk.cell QB 2 rfl
  have QB_f0 := Blk.free QB 0
  have QB_f1 := Blk.free QB 1
  have QB_f2 := Blk.free QB 2
  have DB_0 := Blk.cell DB 0 rfl
  have DB_1 := Blk.cell DB 1 rfl
  have DB_2 := Blk.cell DB 2 rfl
  have DB_f0 := Blk.free DB 0
  have DB_f1 := Blk.free DB 1
  have DB_f2 := Blk.free DB 2
  replace m3 := Lv.alloc m3 (.cells #[.bool b3, .slice A3 q3.length c3, .int .i64 x3] 31)
  replace PB := Blk.alloc PB (.cells #[.bool b3, .slice A3 q3.length c3, .int .i64 x3] 31)
  replace QB := Blk.alloc QB (.cells #[.bool b3, .slice A3 q3.length c3, .int .i64 x3] 31)
  replace DB := Blk.alloc DB (.cells #[.bool b3, .slice A3 q3.length c3, .int .i64 x3] 31)
  have TB := Blk.new w3 [.bool b3, .slice A3 q3.length c3, .int .i64 x3] 31
  have PB_v0_0 := Blk.cell PB 0 rfl
  have PB_v0_1 := Blk.cell PB 1 rfl
  have PB_v0_2 := Blk.cell PB 2 rfl
  have PB_v0_f0 := Blk.free PB 0
  have PB_v0_f1 := Blk.free PB 1
  have PB_v0_f2 := Blk.free PB 2
  have QB_v1_0 := Blk.cell QB 0 rfl
  have QB_v1_1 := Blk.cell QB 1 rfl
  have QB_v1_2 := Blk.cell QB 2 rfl
  have QB_v1_f0 := Blk.free QB 0
  have QB_v1_f1 := Blk.free QB 1
  have QB_v1_f2 := Blk.free QB 2
  have DB_v2_0 := Blk.cell DB 0 rfl
  have DB_v2_1 := Blk.cell DB 1 rfl
  have DB_v2_2 := Blk.cell DB 2 rfl
  have DB_v2_f0 := Blk.free DB 0
  have DB_v2_f1 := Blk.free DB 1
  have DB_v2_f2 := Blk.free DB 2
  have TB_0 := Blk.cell TB 0 rfl
  have TB_1 := Blk.cell TB 1 rfl
  have TB_2 := Blk.cell TB 2 rfl
  have TB_f0 := Blk.free TB 0
  have TB_f1 := Blk.free TB 1
  have TB_f2 := Blk.free TB 2
  have an := fun W (mm : Lv W A3 q3.length c3 q3) => dyAns_any (b := b3) (x := x3) mm hd3.2.1 hd3.1 (hd3.odd mm)
  rw [ansR_dn hd3 m3.2.2] at an
  go_wp2_with fail
  with_reducible refine (an _ m3).mono ?_
  rintro e w4 ⟨b4, q4, A4, c4, x4, rfl, hd4, m4, hb⟩
  clear PB_0 PB_1 PB_2 PB_f0 PB_f1 PB_f2 PB_v0_0 PB_v0_1 PB_v0_2 PB_v0_f0 PB_v0_f1 PB_v0_f2
  clear QB_0 QB_1 QB_2 QB_f0 QB_f1 QB_f2 QB_v1_0 QB_v1_1 QB_v1_2 QB_v1_f0 QB_v1_f1 QB_v1_f2
  clear DB_0 DB_1 DB_2 DB_f0 DB_f1 DB_f2 DB_v2_0 DB_v2_1 DB_v2_2 DB_v2_f0 DB_v2_f1 DB_v2_f2
  clear TB_0 TB_1 TB_2 TB_f0 TB_f1 TB_f2
  have hs4 := hb.size
  try simp only [World.size_alloc, World.size_setCell] at hs4
  replace bw : Below w.heap.size w w4 := dy_end (by go_grown) hb
  replace m3 := Lv.on m3 hb
  replace PB := Blk.on PB hb
  replace QB := Blk.on QB hb
  replace DB := Blk.on DB hb
  replace TB := Blk.on TB hb
  clear hb
  have PB_0 := Blk.cell PB 0 rfl
  have PB_1 := Blk.cell PB 1 rfl
  have PB_2 := Blk.cell PB 2 rfl
  have PB_f0 := Blk.free PB 0
  have PB_f1 := Blk.free PB 1
  have PB_f2 := Blk.free PB 2
  have QB_0 := Blk.cell QB 0 rfl
  have QB_1 := Blk.cell QB 1 rfl
  have QB_2 := Blk.cell QB 2 rfl
  have QB_f0 := Blk.free QB 0
  have QB_f1 := Blk.free QB 1
  have QB_f2 := Blk.free QB 2
  have DB_0 := Blk.cell DB 0 rfl
  have DB_1 := Blk.cell DB 1 rfl
  have DB_2 := Blk.cell DB 2 rfl
  have DB_f0 := Blk.free DB 0
  have DB_f1 := Blk.free DB 1
  have DB_f2 := Blk.free DB 2
  have TB_0 := Blk.cell TB 0 rfl
  have TB_1 := Blk.cell TB 1 rfl
  have TB_2 := Blk.cell TB 2 rfl
  have TB_f0 := Blk.free TB 0
  have TB_f1 := Blk.free TB 1
  have TB_f2 := Blk.free TB 2
  go_wp2_with fail
  refine bodyPost_ret (v := .tuple #[dyV b4 A4 q4.length c4 x4, .int .i64 (doneR (sumN d d2)).2]) (by simp [results, Tryz.results34, go_sem, DB_0, DB_1, DB_2]) rfl ?_
  exact ⟨b4, q4, A4, c4, x4, rfl, hd4, m4.put DB _ _ _ _ _, by go_grown⟩


theorem sum_dq (h : Lv w A n c l) (h2 : Lv w A2 n2 c2 l2) (hT : Tab w) {d d2 : Nf} (hd : Dq b l x d) (hd2 : Dq b2 l2 x2 d2) (hN : farN d d2 = true ∨ Near d d2)
    (x0 : -1048576 ≤ x) (x1 : x ≤ 1048576) (y0 : -1048576 ≤ x2) (y1 : x2 ≤ 1048576) :
    Calls Tryz.prog 34 #[dyV b A n c x, dyV b2 A2 n2 c2 x2] w (DyK (addR d d2).1 (addR d d2).2 w) := by
  have hn : n ≤ 4096 := by rw [← h.1]; exact hd.normal.2
  have hn2 : n2 ≤ 4096 := by rw [← h2.1]; exact hd2.normal.2
  have o1 := fun e : n ≠ 0 => hd.odd h.2.2 (by rw [h.1]; exact e)
  have o2 := fun e : n2 ≠ 0 => hd2.odd h2.2.2 (by rw [h2.1]; exact e)
  rcases hd with ⟨e1, e2⟩ | ⟨e1, hd⟩
  · have : addR d d2 = doneR d2 := by
      rw [e2]
      unfold addR farN
      rw [if_neg (by simp [zeroN]), sumN_zero_left hd2.ok]
    rw [this, ← hd2.ans h2.2.2]
    exact sum_z1 h2 hn2 hd2.normal.1 o2 (by rw [← h.1, e1]; rfl)
  · have hb : ((n : Int) == 0) = false := beq_eq_false_iff_ne.2 (fun e => e1 (nil_of_len (by rw [h.1]; omega)))
    rcases hd2 with ⟨f1, f2⟩ | ⟨f1, hd2⟩
    · have : addR d d2 = doneR d := by
        rw [f2]
        unfold addR farN
        rw [if_neg (by simp [zeroN]), sumN_zero_right hd.2.2.2]
      rw [this, ← ansR_dn hd h.2.2]
      exact sum_z2 h hn hd.1 o1 hb (by rw [← h2.1, f1]; rfl)
    · have hb2 : ((n2 : Int) == 0) = false := beq_eq_false_iff_ne.2 (fun e => f1 (nil_of_len (by rw [h2.1]; omega)))
      have m0 : d.man ≠ 0 := fun e => e1 (nil_of_len ((hd.nil h.2.2).2 e))
      have m2 : d2.man ≠ 0 := fun e => f1 (nil_of_len ((hd2.nil h2.2.2).2 e))
      by_cases hf : farN d d2 = true
      · have : addR d d2 = (zeroN, 3) := by unfold addR; rw [if_pos hf]
        rw [this]
        have g : 262144 < x - x2 ∨ 262144 < x2 - x := by
          unfold farN farB at hf
          rw [hd.exp, hd2.exp] at hf
          simp [m0, m2] at hf
          omega
        exact sum_far x0 x1 y0 y1 hb hb2 g
      · have : addR d d2 = doneR (sumN d d2) := by unfold addR; rw [if_neg hf]
        rw [this]
        have g : x - x2 ≤ 262144 ∧ x2 - x ≤ 262144 := by
          unfold farN farB at hf
          rw [hd.exp, hd2.exp] at hf
          simp [m0, m2] at hf
          omega
        rcases hN with hN | hN
        · exact absurd hN hf
        · exact sum_near h hn h2 hn2 hT hd hd2 m0 m2 hN x0 x1 y0 y1 hb hb2 g
end
end Go.Proofs.YtmfikppnkjhmjaaGreatDoor
