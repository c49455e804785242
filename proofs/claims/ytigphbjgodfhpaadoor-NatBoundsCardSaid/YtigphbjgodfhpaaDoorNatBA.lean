/-
  Layer 2, the laws, part fourteen: NatBounds (the walk is written by wip/tools/gen_bounds.py).
-/
import Derived.Test.YtigphbjgodfhpaaDoorNatAU
namespace Go.Proofs.YtigphbjgodfhpaaDoor
open Go.RowKit
set_option linter.unusedVariables false

theorem set_val (b : Int) : ∀ (l : List Int) (i : Nat) (v : Int), i < l.length → val b (l.set i v) = val b l + (v - D l i) * b ^ i
  | [], i, v, h => by simp at h
  | x :: l, 0, v, h => by
    rw [List.set_cons_zero, val_cons, val_cons, D_cons_zero]
    simp
    omega
  | x :: l, i + 1, v, h => by
    rw [List.set_cons_succ, val_cons, val_cons, D_cons_succ, set_val b l i v (by simpa using h), Int.pow_succ]
    grind
theorem L_set_ (l : List Int) (q : Nat) (p : Int) : L (l.set q p) = (L l).set q (.int .u64 p) := by simp [L, List.map_set]
/-- the greatest power of 2 of q + 1 limbs -/
theorem big_facts (q : Nat) {Z l : List Int} (hZ : List.replicate (q + 1) 0 = Z) (hl : Z.set q 9223372036854775808 = l) : l.length = q + 1 ∧ Lim 18446744073709551616 l ∧ Normal l ∧ val 18446744073709551616 l = 2 ^ (64 * q + 63) := by
  subst hZ
  subst hl
  refine ⟨by simp, (Lim.zeros (by omega) _).set q (by omega) (by omega), ?_, ?_⟩
  · right
    rw [List.length_set, List.length_replicate, Nat.add_sub_cancel, D_set _ _ (by simp), if_pos rfl]
    omega
  · rw [set_val _ _ _ _ (by simp), val_replicate, D_replicate, pow_limbs, show (2 : Int) ^ 63 = 9223372036854775808 by decide]
    grind
theorem more_facts (q : Nat) {Z : List Int} (hZ : List.replicate q 0 = Z) : (Z ++ [1]).length = q + 1 ∧ Lim 18446744073709551616 (Z ++ [1]) ∧ norm (Z ++ [1]) = Z ++ [1] := by
  subst hZ
  have hl : Lim 18446744073709551616 (List.replicate q 0 ++ [1]) := (Lim.zeros (by omega) q).snoc (by omega) (by omega)
  refine ⟨by simp, hl, norm_self hl (.inr ?_)⟩
  rw [List.length_append, List.length_singleton, Nat.add_sub_cancel, D_append, if_neg (by simp), List.length_replicate, Nat.sub_self, D_cons_zero]
  omega
theorem same_facts {l : List Int} (h : Lim 18446744073709551616 l) (hn : Normal l) : Lim 18446744073709551616 (l ++ [0, 0]) ∧ norm (l ++ [0, 0]) = l := by
  have hl : Lim 18446744073709551616 (l ++ [0, 0]) := h.append fun x hx => by simp at hx; omega
  refine ⟨hl, ?_⟩
  have := norm_is (b := 18446744073709551616) (by omega) hl (k := l.length) (by simp) (fun i hi => ?_) ?_
  · rw [this, List.take_left]
  · rw [D_append, if_neg (by omega)]
    match i - l.length with
    | 0 => rfl
    | 1 => rfl
    | k + 2 => exact D_out (by simp)
  · rcases hn with h9 | h9
    · left; rw [h9]; rfl
    · rcases Nat.eq_zero_or_pos l.length with h8 | h8
      · exact .inl h8
      · right; rw [D_append, if_pos (by omega)]; exact h9
theorem pow_two_limbs {l : List Int} {q : Nat} (h : val 18446744073709551616 l = 2 ^ (64 * q + 63)) : val 18446744073709551616 l * 2 = 18446744073709551616 ^ (q + 1) ∧ val 18446744073709551616 l * 2 ^ 1 = 2 ^ (64 * (q + 1)) := by
  have e : (2 : Int) ^ (64 * q + 63) * 2 = 2 ^ (64 * (q + 1)) := by rw [show 64 * (q + 1) = (64 * q + 63) + 1 by omega, Int.pow_succ _ (64 * q + 63)]
  rw [h, pow64, show (2 : Int) ^ 1 = 2 from rfl]
  exact ⟨e, e⟩
theorem isBits_pow (k : Nat) : IsBits (2 ^ k) (k + 1) := by
  have := two_pos k
  refine ⟨by omega, ?_, fun _ => ?_⟩
  · rw [Int.pow_succ]; omega
  · rw [Nat.add_sub_cancel]; omega
theorem lost_pow (k : Nat) : lostB (2 ^ k) k = false ∧ (2 : Int) ^ k / 2 ^ k = 1 := by
  refine ⟨?_, Int.ediv_self (Int.ne_of_gt (two_pos k))⟩
  unfold lostB
  rw [Int.emod_self]
  rfl

section
variable {A A2 : Option Addr} {n m c c2 : Nat} {l s : List Int} {w : World} (h : Lv w A n c l) (h2 : Lv w A2 m c2 s)
include h
theorem Shl_long_lv (hn : n ≤ 4096) (j : Nat) (i : Int) (hi : i = (j : Int)) (hj : j ≤ 9223372036854775807) (hv0 : val 18446744073709551616 l ≠ 0) (hv : 2 ^ (64 * 4096) ≤ val 18446744073709551616 l * 2 ^ j) :
    Calls Tryd.prog 31 #[.slice A n c, .int .i64 i] w (Fails 3 w) := by
  subst hi
  have := Shl_long A c l w h.2.1 h.2.2 (norm_le h.1 hn) j hj hv0 hv
  rw [h.1] at this
  exact this
theorem Shl_zero_lv (hn : n ≤ 4096) (i : Int) (hi : 0 ≤ i) (hv0 : val 18446744073709551616 l = 0) :
    Calls Tryd.prog 31 #[.slice A n c, .int .i64 i] w (GoodV 0 w) := by
  have := Shl_zero A c l w h.2.1 h.2.2 (norm_le h.1 hn) i hi hv0
  rw [h.1] at this
  exact this.mono fun e w' q => q.goodV (Int.pow_pos (by omega))
theorem Norm_long_lv (hl : 4096 < (norm l).length) : Calls Tryd.prog 18 #[.slice A n c] w fun e w' => ∃ v, e = .returned (.tuple #[v, .int .i64 2]) ∧ Below w.heap.size w w' := by
  have := norm_long A c l w h.2.1 h.2.2 hl
  rw [h.1] at this
  exact this
theorem Cmp_long_lv (hl : 4096 < (norm l).length) : Calls Tryd.prog 17 #[.slice A n c, .slice none 0 0] w fun e w' => e = .returned (.tuple #[.int .i64 0, .int .i64 2]) ∧ w = w' := by
  have := Cmp_long A c l w h.2.1 h.2.2 hl
  rw [h.1] at this
  exact this
theorem Norm_lv {k : Nat} {r : List Int} (hr : norm l = r) (hk : r.length = k) (hk2 : k ≤ 4096) : Calls Tryd.prog 18 #[.slice A n c] w fun e w' => ∃ A' c', e = .returned (.tuple #[.slice A' k c', .int .i64 0]) ∧ Lv w' A' k c' r ∧ Below w.heap.size w w' := by
  subst hk
  subst hr
  have := norm_any A c l w h.2.1 h.2.2 hk2
  rw [h.1] at this
  refine this.mono ?_
  rintro e w' ⟨A', c', rfl, ho, hb⟩
  exact ⟨A', c', rfl, ⟨rfl, ho.nums, norm_lim h.2.2⟩, hb⟩
include h2
theorem Add_long_lv (hn : n ≤ 4096) (hm : m ≤ 4096) (hv : 18446744073709551616 ^ 4096 ≤ val 18446744073709551616 l + val 18446744073709551616 s) :
    Calls Tryd.prog 23 #[.slice A n c, .slice A2 m c2] w (Fails 3 w) := by
  have := Add_long A c l A2 c2 s w h.2.1 h.2.2 h2.2.1 h2.2.2 (norm_le h.1 hn) (norm_le h2.1 hm) hv
  rw [h.1, h2.1] at this
  exact this
theorem Mul_long_lv (hn : n ≤ 4096) (hm : m ≤ 4096) (hv : 18446744073709551616 ^ 4096 ≤ val 18446744073709551616 l * val 18446744073709551616 s) :
    Calls Tryd.prog 27 #[.slice A n c, .slice A2 m c2] w (Fails 3 w) := by
  have := Mul_long A c l A2 c2 s w h.2.1 h.2.2 h2.2.1 h2.2.2 (norm_le h.1 hn) (norm_le h2.1 hm) hv
  rw [h.1, h2.1] at this
  exact this
end
theorem Of_lv {x : Int} (h0 : 0 ≤ x) (h1 : x < 18446744073709551616) {k : Nat} {r : List Int} (hr : norm [x] = r) (hk : r.length = k) (w : World) : Calls Tryd.prog 47 #[.int .u64 x] w fun e w' => ∃ A c, e = .returned (.slice A k c) ∧ Lv w' A k c r ∧ Below w.heap.size w w' := by
  subst hk
  subst hr
  refine (of_any x w h0 h1).mono ?_
  rintro e w' ⟨A, c, rfl, ho, hb⟩
  exact ⟨A, c, rfl, ⟨rfl, ho.nums, norm_lim fun y hy => by simp at hy; omega⟩, hb⟩
theorem shl_one_big {j : Nat} (hj : 64 * 4096 ≤ j) : (2 : Int) ^ (64 * 4096) ≤ val 18446744073709551616 [1] * 2 ^ j := by
  rw [show val 18446744073709551616 [1] = 1 by decide, Int.one_mul]
  exact pow_le' (by omega) hj
theorem Shl_one_lv {A : Option Addr} {c : Nat} {w : World} (h : Lv w A 1 c [1]) : Calls Tryd.prog 31 #[.slice A 1 c, .int .i64 1099511627776] w (Fails 3 w) := by
  obtain ⟨j, hj⟩ : ∃ j : Nat, j = 1099511627776 := ⟨_, rfl⟩
  exact Shl_long_lv h (by omega) j _ (by omega) (by omega) (by decide) (shl_one_big (by omega))
theorem Pow2_long_lv (j : Nat) (i : Int) (hi : i = (j : Int)) (hj : j ≤ 9223372036854775807) (h : 64 * 4096 ≤ j) (w : World) : Calls Tryd.prog 32 #[.int .i64 i] w (Fails 3 w) := by
  subst hi
  exact Pow2_long j hj (pow_le' (b := 2) (by omega) h) w
theorem Pow2_lv (j : Nat) (i : Int) (hi : i = (j : Int)) (h : j < 64 * 4096) (w : World) : Calls Tryd.prog 32 #[.int .i64 i] w (GoodV (2 ^ j) w) := by
  subst hi
  have h1 := pow_le' (b := 2) (by omega) (show j + 1 ≤ 64 * 4096 by omega)
  have h2 := two_pos j
  rw [Int.pow_succ] at h1
  have h3 : (2 : Int) ^ j < 2 ^ (64 * 4096) := by
    generalize (2 : Int) ^ (64 * 4096) = P at *
    omega
  exact (Pow2_any j h3 w).mono fun e w' q => q.goodV (by rw [pow64]; exact h3)
theorem bigs (q : Nat) {l : List Int} (h : val 18446744073709551616 l = 2 ^ (64 * q + 63)) : 18446744073709551616 ^ (q + 1) ≤ val 18446744073709551616 l + val 18446744073709551616 l ∧ 2 ^ (64 * (q + 1)) ≤ val 18446744073709551616 l * 2 ^ 1 ∧
    18446744073709551616 ^ (q + 1) ≤ val 18446744073709551616 l * val 18446744073709551616 [2] ∧ val 18446744073709551616 l ≠ 0 ∧ IsBits (val 18446744073709551616 l) (64 * q + 63 + 1) ∧ lostB (val 18446744073709551616 l) (64 * q + 63) = false ∧ val 18446744073709551616 l / 2 ^ (64 * q + 63) = val 18446744073709551616 [1] := by
  have e := pow_two_limbs h
  have hp := two_pos (64 * q + 63)
  have h2 := lost_pow (64 * q + 63)
  rw [show val 18446744073709551616 [2] = 2 by decide, show val 18446744073709551616 [1] = 1 by decide]
  refine ⟨by rw [← e.1]; omega, Int.le_of_eq e.2.symm, Int.le_of_eq e.1.symm, by omega, by rw [h]; exact isBits_pow _, by rw [h]; exact h2.1, by rw [h]; exact h2.2⟩
theorem lim_q : Lim 18446744073709551616 [18446744073709551615] := by intro x hx; simp at hx; omega
theorem ok_q : Okl [18446744073709551615] := ⟨lim_q, .inr (by decide), by decide⟩
theorem lim_r : Lim 18446744073709551616 [1, 9223372036854775807] := by intro x hx; simp at hx; omega
theorem ok_r : Okl [1, 9223372036854775807] := ⟨lim_r, .inr (by decide), by decide⟩
theorem lim_d : Lim 18446744073709551616 [1, 9223372036854775808] := by intro x hx; simp at hx; omega
theorem lim_n : Lim 18446744073709551616 [0, 0, 9223372036854775808] := by intro x hx; simp at hx; omega
theorem nrm_n : Normal [0, 0, 9223372036854775808] := .inr (by decide)
theorem lim_00 : Lim 18446744073709551616 [0, 0] := by intro x hx; simp at hx; omega
theorem lim_2 : Lim 18446744073709551616 [2] := by intro x hx; simp at hx; omega
theorem ok_1 : Okl [1] := ⟨lim_one, .inr (by decide), by decide⟩
theorem lim_7 : Lim 18446744073709551616 [7] := by intro x hx; simp at hx; omega

set_option maxRecDepth 1000000 in
set_option maxHeartbeats 16000000 in
theorem bounds_law (w : World) (hT : Tab w) : Calls Tryd.prog 14 #[] w fun e w' => e = .returned (.bool true) ∧ Below w.heap.size w w' := by
  obtain ⟨Z, hZ⟩ : ∃ Z : List Int, List.replicate (4095 + 1) 0 = Z := ⟨_, rfl⟩
  obtain ⟨l, hl⟩ : ∃ l, Z.set 4095 9223372036854775808 = l := ⟨_, rfl⟩
  have f := big_facts 4095 hZ hl
  have fm := more_facts (4095 + 1) hZ
  obtain ⟨M, hM⟩ : ∃ M, Z ++ [1] = M := ⟨_, rfl⟩
  rw [hM] at fm
  have fs := same_facts f.2.1 f.2.2.1
  obtain ⟨U, hU⟩ : ∃ U, l ++ [0, 0] = U := ⟨_, rfl⟩
  rw [hU] at fs
  have hZl : Z.length = 4096 := by rw [← hZ, List.length_replicate]
  have ll : l.length = 4096 := f.1
  have Ml : M.length = 4097 := fm.1
  have hUl : U.length = 4098 := by rw [← hU, List.length_append, ll]; rfl
  have hv := bigs 4095 f.2.2.2
  have hmk : ∀ W : World, (Instr.makeSlice 22 (.int .i64 4096) (.int .i64 4096)).run Tryd.prog W = .ok (.slice (some ⟨W.heap.size, 0, none⟩) 4096 4096) (W.alloc (.cells (L Z).toArray 39)) := fun W => by
    have := run_make 4096 (by omega) W
    rw [show (4096 : Nat) = 4095 + 1 from rfl, hZ] at this
    exact this
  have hrow := Row.new w Z
  have c0 := hrow.cell (k := 4095) (by rw [hZl]; omega)
  have f0 := hrow.frozen 4095
  have m_big : Lv (w.alloc (Obj.cells ((L Z).set 4095 (.int .u64 9223372036854775808)).toArray 39)) (some ⟨w.heap.size, 0, none⟩) 4096 4096 l := Lv.row w l 4096 w.heap.size rfl ll (by omega) f.2.1 (Obj.cells ((L Z).set 4095 (.int .u64 9223372036854775808)).toArray 39) (by rw [← L_set_, hl])
  have r2 : Row (((w.alloc (Obj.cells ((L Z).set 4095 (.int .u64 9223372036854775808)).toArray 39)).alloc (Obj.cells (L Z).toArray 39)).alloc (Obj.cells #[.int .u64 1] 39)) (w.heap.size + 1) Z := by
    have h9 := (Row.new (w.alloc (Obj.cells ((L Z).set 4095 (.int .u64 9223372036854775808)).toArray 39)) Z).alloc (Obj.cells #[.int .u64 1] 39)
    rw [World.size_alloc] at h9
    exact h9
  have hown2 : Own (((w.alloc (Obj.cells ((L Z).set 4095 (.int .u64 9223372036854775808)).toArray 39)).alloc (Obj.cells (L Z).toArray 39)).alloc (Obj.cells #[.int .u64 1] 39)) (w.heap.size + 1) (some ⟨w.heap.size + 1, 0, none⟩) 4096 Z := by
    have h9 := r2.own (B := w.heap.size + 1) 4096 (by omega) (by rw [hZl]; unfold maxLen; omega) (Nat.le_refl _)
    rw [hZl, List.take_of_length_le (by omega)] at h9
    exact h9
  have m_1 := Lv.row ((w.alloc (Obj.cells ((L Z).set 4095 (.int .u64 9223372036854775808)).toArray 39)).alloc (Obj.cells (L Z).toArray 39)) [1] 1 (w.heap.size + 1 + 1) (by simp) rfl (by omega) lim_one (Obj.cells #[.int .u64 1] 39) rfl
  have hsB : (w.alloc (Obj.cells ((L Z).set 4095 (.int .u64 9223372036854775808)).toArray 39)).heap.size = w.heap.size + 1 := by simp
  have hb0 : Below (w.heap.size + 1) (w.alloc (Obj.cells ((L Z).set 4095 (.int .u64 9223372036854775808)).toArray 39)) (((w.alloc (Obj.cells ((L Z).set 4095 (.int .u64 9223372036854775808)).toArray 39)).alloc (Obj.cells (L Z).toArray 39)).alloc (Obj.cells #[.int .u64 1] 39)) := ((Below.refl (w.heap.size + 1) (w.alloc (Obj.cells ((L Z).set 4095 (.int .u64 9223372036854775808)).toArray 39))).alloc (by simp) _).alloc (by simp) _
  have HF := Lib.hid (And.intro f (And.intro fm fs))
  have HZL := Lib.hid hZl
  have HL := Lib.hid (And.intro hl (And.intro hM hU))
  have HLL := Lib.hid (And.intro ll (And.intro Ml hUl))
  have HV := Lib.hid hv
  have bw : Below w.heap.size w w := Below.refl _ w
  replace bw := bel_al bw (Obj.cells ((L Z).set 4095 (.int .u64 9223372036854775808)).toArray 39)
  replace hT := hT.al (Obj.cells ((L Z).set 4095 (.int .u64 9223372036854775808)).toArray 39)
  have HO := Lib.hid (And.intro m_big (And.intro hown2 (And.intro m_1 (And.intro hsB hb0))))
  have hnw : IntKind.u64.wrap 9223372036854775808 = 9223372036854775808 := by decide
  have eM : (Z ++ [1]).length = 4097 := by rw [hM]; exact Ml
  have eM2 : Z.length + 1 = 4097 := by omega
  clear f fm fs hl hM hU hv ll Ml hUl hrow r2 m_big hown2 m_1 hsB hb0
  clear hZ
  go_enter Tryd.func14, Tryd.ntmps14
  go_wp2_with (at_builtin; refine wpList_app _ rfl _ _ rfl (w.heap.size + 1) (some ⟨w.heap.size + 1, 0, none⟩) 4096 Z (by rw [HZL.out]; rfl) HO.out.2.1 _ (some ⟨w.heap.size + 1 + 1, 0, none⟩) 1 [1] rfl HO.out.2.2.1.2.1 (by rw [HZL.out]; decide) (by simp only [World.size_alloc]; omega) ?_; intro A_more c_more w0 hown hg hat)
  have hb : Below (w.alloc (Obj.cells ((L Z).set 4095 (.int .u64 9223372036854775808)).toArray 39)).heap.size (w.alloc (Obj.cells ((L Z).set 4095 (.int .u64 9223372036854775808)).toArray 39)) w0 := by rw [HO.out.2.2.2.1]; exact below_app HO.out.2.2.2.2 HO.out.2.1 hg (by simp only [World.size_alloc]; omega)
  have m_big := HO.out.1
  have m_more : Lv w0 A_more 4097 c_more M := ⟨HLL.out.2.1, by rw [← HL.out.2.1]; exact hown.nums, HF.out.2.1.2.1⟩
  clear hown hg hat HO c0 f0 hmk eM eM2 hZl
  replace m_big := m_big.on hb
  replace hT := hT.on hb
  replace bw := bel_then bw hb
  clear hb
  have p1 := Add_long_lv m_big m_big (by omega) (by omega) HV.out.1
  with_reducible refine p1.mono ?_
  rintro e w1 ⟨rfl, hb⟩
  clear p1
  replace m_big := m_big.on hb
  replace m_more := m_more.on hb
  replace hT := hT.on hb
  replace bw := bel_then bw hb
  clear hb
  go_wp2_with fail
  have p2 := Shl_long_lv m_big (by omega) 1 1 rfl (by omega) HV.out.2.2.2.1 HV.out.2.1
  with_reducible refine p2.mono ?_
  rintro e w2 ⟨rfl, hb⟩
  clear p2
  replace m_big := m_big.on hb
  replace m_more := m_more.on hb
  replace hT := hT.on hb
  replace bw := bel_then bw hb
  clear hb
  go_wp2_with fail
  have m_u := Lv.row w2 [2] 1 (w2.heap.size) (by simp) rfl (by omega) (lim_2) (.cells #[.int .u64 2] 39) rfl
  replace m_big := m_big.alloc (.cells #[.int .u64 2] 39)
  replace m_more := m_more.alloc (.cells #[.int .u64 2] 39)
  replace hT := hT.al (.cells #[.int .u64 2] 39)
  replace bw := bel_al bw (.cells #[.int .u64 2] 39)
  have p3 := Mul_long_lv m_big m_u (by omega) (by omega) HV.out.2.2.1
  with_reducible refine p3.mono ?_
  rintro e w3 ⟨rfl, hb⟩
  clear p3
  replace m_big := m_big.on hb
  replace m_more := m_more.on hb
  replace m_u := m_u.on hb
  replace hT := hT.on hb
  replace bw := bel_then bw hb
  clear hb
  clear m_u
  have hm7 : 4096 < (norm M).length := by rw [HF.out.2.1.2.2, HLL.out.2.1]; omega
  have HM7 := Lib.hid hm7
  clear hm7
  go_wp2_with fail
  have p4 := Norm_long_lv m_more HM7.out
  with_reducible refine p4.mono ?_
  rintro e w4 ⟨vv, rfl, hb⟩
  clear p4
  replace m_big := m_big.on hb
  replace m_more := m_more.on hb
  replace hT := hT.on hb
  replace bw := bel_then bw hb
  clear hb
  go_wp2_with fail
  have p5 := Cmp_long_lv m_more HM7.out
  with_reducible refine p5.mono ?_
  rintro e w5 ⟨rfl, rfl⟩
  clear p5
  clear m_more
  go_wp2_with fail
  have p6 := Pow2_long_lv 262144 262144 rfl (by omega) (by omega) w4
  with_reducible refine p6.mono ?_
  rintro e w6 ⟨rfl, hb⟩
  clear p6
  replace m_big := m_big.on hb
  replace hT := hT.on hb
  replace bw := bel_then bw hb
  clear hb
  go_wp2_with fail
  have p7 := Pow2_lv (64 * 4095 + 63) 262143 rfl (by omega) w6
  with_reducible refine p7.mono ?_
  rintro e w7 ⟨l_p, A_p, c_p, rfl, n_p, v_p, k_p, m_p, hb⟩
  clear p7
  replace m_big := m_big.on hb
  replace hT := hT.on hb
  replace bw := bel_then bw hb
  clear hb
  have ep : l_p = l := nuq m_p.2.2 n_p HF.out.1.2.1 HF.out.1.2.2.1 (by rw [v_p.out]; exact HF.out.1.2.2.2.symm)
  rw [ep] at m_p ⊢
  have e96 : l.length = 4096 := HLL.out.1
  rw [e96] at m_p ⊢
  clear k_p n_p v_p ep
  go_wp2_with fail
  have p8 := Bits_good m_big (by omega) 262144 262144 rfl HV.out.2.2.2.2.1
  with_reducible refine p8.mono ?_
  rintro e w8 ⟨rfl, rfl⟩
  clear p8
  have eU : (l ++ [0, 0]).length = 4098 := by rw [HL.out.2.2]; exact HLL.out.2.2
  have eN : ([] ++ l).length = 4096 := by rw [List.nil_append]; exact HLL.out.1
  have eU2 : l.length + 2 = 4098 := by omega
  go_wp2_with (first | (at_builtin; refine wpList_app _ rfl _ _ rfl w7.heap.size none 0 [] rfl (Own.nil w7 _) w7.heap.size (some ⟨w.heap.size, 0, none⟩) 4096 l (by rw [HLL.out.1]; rfl) m_big.2.1 (by rw [HLL.out.1]; decide) (Nat.le_refl _) ?_; intro A_s c_s wS hownS hgS hatS; have hb : Below w7.heap.size w7 wS := below_app (Below.refl _ _) (Own.nil w7 _) hgS (Nat.le_refl _); replace hownS : Own wS w7.heap.size A_s c_s l := hownS; have hown3 : Own (wS.alloc (Obj.cells #[.int .u64 0, .int .u64 0] 39)) w7.heap.size A_s c_s l := hownS.alloc_ _; have m_00 := Lv.row wS [0, 0] 2 (wS.heap.size) (by simp) rfl (by omega) lim_00 (Obj.cells #[.int .u64 0, .int .u64 0] 39) rfl; have hszS := hb.size; clear hgS hatS) | (at_builtin; refine wpList_app _ rfl _ _ rfl w7.heap.size A_s c_s l (by rw [HLL.out.1]; rfl) hown3 _ (some ⟨wS.heap.size, 0, none⟩) 2 [0, 0] rfl m_00.2.1 (by rw [HLL.out.1]; decide) (by simp only [World.size_alloc]; omega) ?_; intro A_U c_U wU hownU hgU hatU))
  have hb2 : Below w7.heap.size w7 wU := below_app (hb.alloc hszS _) hown3 hgU (by simp only [World.size_alloc]; omega)
  have m_U : Lv wU A_U 4098 c_U U := ⟨HLL.out.2.2, by rw [← HL.out.2.2]; exact hownU.nums, HF.out.2.2.1⟩
  clear hb hownS hown3 m_00 hszS hownU hgU hatU eU eN eU2
  have hb := hb2
  clear hb2
  replace m_big := m_big.on hb
  replace m_p := m_p.on hb
  replace hT := hT.on hb
  replace bw := bel_then bw hb
  clear hb
  have p9 := Norm_lv m_U HF.out.2.2.2 HLL.out.1 (by omega)
  with_reducible refine p9.mono ?_
  rintro e w9 ⟨A_same, c_same, rfl, m_same, hb⟩
  clear p9
  replace m_big := m_big.on hb
  replace m_p := m_p.on hb
  replace m_U := m_U.on hb
  replace hT := hT.on hb
  replace bw := bel_then bw hb
  clear hb
  clear m_U
  go_wp2_with fail
  have p10 := Shl_zero_lv (lv_nil w9) (by omega) 1099511627776 (by omega) rfl
  with_reducible refine p10.mono ?_
  rintro e w10 ⟨l_j, A_j, c_j, rfl, n_j, v_j, k_j, m_j, hb⟩
  clear p10
  replace m_big := m_big.on hb
  replace m_p := m_p.on hb
  replace m_same := m_same.on hb
  replace hT := hT.on hb
  replace bw := bel_then bw hb
  clear hb
  clear n_j v_j k_j m_j
  go_wp2_with fail
  have m_u := Lv.row w10 [1] 1 (w10.heap.size) (by simp) rfl (by omega) (lim_one) (.cells #[.int .u64 1] 39) rfl
  replace m_big := m_big.alloc (.cells #[.int .u64 1] 39)
  replace m_p := m_p.alloc (.cells #[.int .u64 1] 39)
  replace m_same := m_same.alloc (.cells #[.int .u64 1] 39)
  replace hT := hT.al (.cells #[.int .u64 1] 39)
  replace bw := bel_al bw (.cells #[.int .u64 1] 39)
  have p11 := Shl_one_lv m_u
  with_reducible refine p11.mono ?_
  rintro e w11 ⟨rfl, hb⟩
  clear p11
  replace m_big := m_big.on hb
  replace m_p := m_p.on hb
  replace m_same := m_same.on hb
  replace m_u := m_u.on hb
  replace hT := hT.on hb
  replace bw := bel_then bw hb
  clear hb
  clear m_u
  go_wp2_with fail
  have p12 := Shr_good (k := 1) m_big (by omega) ok_1 rfl hT (64 * 4095 + 63) 262143 rfl (by omega) false HV.out.2.2.2.2.2.1 HV.out.2.2.2.2.2.2
  with_reducible refine p12.mono ?_
  rintro e w12 ⟨A_x, c_x, rfl, m_x, hb⟩
  clear p12
  replace m_big := m_big.on hb
  replace m_p := m_p.on hb
  replace m_same := m_same.on hb
  replace hT := hT.on hb
  replace bw := bel_then bw hb
  clear hb
  go_wp2_with fail
  have m_n := Lv.row w12 [0, 0, 9223372036854775808] 3 (w12.heap.size) (by simp) rfl (by omega) (lim_n) (.cells #[.int .u64 0, .int .u64 0, .int .u64 9223372036854775808] 39) rfl
  replace m_big := m_big.alloc (.cells #[.int .u64 0, .int .u64 0, .int .u64 9223372036854775808] 39)
  replace m_p := m_p.alloc (.cells #[.int .u64 0, .int .u64 0, .int .u64 9223372036854775808] 39)
  replace m_same := m_same.alloc (.cells #[.int .u64 0, .int .u64 0, .int .u64 9223372036854775808] 39)
  replace m_x := m_x.alloc (.cells #[.int .u64 0, .int .u64 0, .int .u64 9223372036854775808] 39)
  replace hT := hT.al (.cells #[.int .u64 0, .int .u64 0, .int .u64 9223372036854775808] 39)
  replace bw := bel_al bw (.cells #[.int .u64 0, .int .u64 0, .int .u64 9223372036854775808] 39)
  have m_d := Lv.row (w12.alloc (.cells #[.int .u64 0, .int .u64 0, .int .u64 9223372036854775808] 39)) [1, 9223372036854775808] 2 (w12.heap.size + 1) (by simp) rfl (by omega) (lim_d) (.cells #[.int .u64 1, .int .u64 9223372036854775808] 39) rfl
  replace m_big := m_big.alloc (.cells #[.int .u64 1, .int .u64 9223372036854775808] 39)
  replace m_p := m_p.alloc (.cells #[.int .u64 1, .int .u64 9223372036854775808] 39)
  replace m_same := m_same.alloc (.cells #[.int .u64 1, .int .u64 9223372036854775808] 39)
  replace m_x := m_x.alloc (.cells #[.int .u64 1, .int .u64 9223372036854775808] 39)
  replace m_n := m_n.alloc (.cells #[.int .u64 1, .int .u64 9223372036854775808] 39)
  replace hT := hT.al (.cells #[.int .u64 1, .int .u64 9223372036854775808] 39)
  replace bw := bel_al bw (.cells #[.int .u64 1, .int .u64 9223372036854775808] 39)
  have p13 := Div_good (k := 1) (k2 := 2) m_n m_d (by omega) (by omega) ok_q ok_r rfl rfl (by decide) (by decide)
  with_reducible refine p13.mono ?_
  rintro e w13 ⟨A_q, c_q, A_r, c_r, rfl, m_q, m_r, hb⟩
  clear p13
  replace m_big := m_big.on hb
  replace m_p := m_p.on hb
  replace m_same := m_same.on hb
  replace m_x := m_x.on hb
  replace m_n := m_n.on hb
  replace m_d := m_d.on hb
  replace hT := hT.on hb
  replace bw := bel_then bw hb
  clear hb
  clear m_n
  clear m_d
  go_wp2_with fail
  with_reducible refine (num_any 0 _).mono ?_
  rintro e w14 ⟨rfl, rfl⟩
  go_wp2_with fail
  have m_v := Lv.row w13 [18446744073709551615] 1 (w13.heap.size) (by simp) rfl (by omega) (lim_q) (.cells #[.int .u64 18446744073709551615] 39) rfl
  replace m_big := m_big.alloc (.cells #[.int .u64 18446744073709551615] 39)
  replace m_p := m_p.alloc (.cells #[.int .u64 18446744073709551615] 39)
  replace m_same := m_same.alloc (.cells #[.int .u64 18446744073709551615] 39)
  replace m_x := m_x.alloc (.cells #[.int .u64 18446744073709551615] 39)
  replace m_q := m_q.alloc (.cells #[.int .u64 18446744073709551615] 39)
  replace m_r := m_r.alloc (.cells #[.int .u64 18446744073709551615] 39)
  replace hT := hT.al (.cells #[.int .u64 18446744073709551615] 39)
  replace bw := bel_al bw (.cells #[.int .u64 18446744073709551615] 39)
  have p15 := same_lv m_q m_v
  with_reducible refine p15.mono ?_
  rintro e w15 ⟨rfl, hb⟩
  clear p15
  replace m_big := m_big.on hb
  replace m_p := m_p.on hb
  replace m_same := m_same.on hb
  replace m_x := m_x.on hb
  replace m_q := m_q.on hb
  replace m_r := m_r.on hb
  replace m_v := m_v.on hb
  replace hT := hT.on hb
  replace bw := bel_then bw hb
  clear hb
  clear m_v
  go_wp2_with fail
  have m_d := Lv.row w15 [1, 9223372036854775808] 2 (w15.heap.size) (by simp) rfl (by omega) (lim_d) (.cells #[.int .u64 1, .int .u64 9223372036854775808] 39) rfl
  replace m_big := m_big.alloc (.cells #[.int .u64 1, .int .u64 9223372036854775808] 39)
  replace m_p := m_p.alloc (.cells #[.int .u64 1, .int .u64 9223372036854775808] 39)
  replace m_same := m_same.alloc (.cells #[.int .u64 1, .int .u64 9223372036854775808] 39)
  replace m_x := m_x.alloc (.cells #[.int .u64 1, .int .u64 9223372036854775808] 39)
  replace m_q := m_q.alloc (.cells #[.int .u64 1, .int .u64 9223372036854775808] 39)
  replace m_r := m_r.alloc (.cells #[.int .u64 1, .int .u64 9223372036854775808] 39)
  replace hT := hT.al (.cells #[.int .u64 1, .int .u64 9223372036854775808] 39)
  replace bw := bel_al bw (.cells #[.int .u64 1, .int .u64 9223372036854775808] 39)
  have p16 := refMul_lv m_q m_d (by omega) (by omega)
  with_reducible refine p16.mono ?_
  rintro e w16 ⟨l_y, A_y, c_y, rfl, n_y, v_y, m_y, hb⟩
  clear p16
  replace m_big := m_big.on hb
  replace m_p := m_p.on hb
  replace m_same := m_same.on hb
  replace m_x := m_x.on hb
  replace m_q := m_q.on hb
  replace m_r := m_r.on hb
  replace m_d := m_d.on hb
  replace hT := hT.on hb
  replace bw := bel_then bw hb
  clear hb
  clear m_d
  have k_y : l_y.length ≤ 10 := len_val m_y.2.2 n_y v_y.out (by decide)
  go_wp2_with fail
  have p17 := refAdd_lv m_y m_r (by omega) (by omega)
  with_reducible refine p17.mono ?_
  rintro e w17 ⟨l_z, A_z, c_z, rfl, n_z, v_z, m_z, hb⟩
  clear p17
  replace m_big := m_big.on hb
  replace m_p := m_p.on hb
  replace m_same := m_same.on hb
  replace m_x := m_x.on hb
  replace m_q := m_q.on hb
  replace m_r := m_r.on hb
  replace m_y := m_y.on hb
  replace hT := hT.on hb
  replace bw := bel_then bw hb
  clear hb
  clear m_y
  have ez : l_z = [0, 0, 9223372036854775808] := nuq m_z.2.2 n_z lim_n nrm_n (by rw [v_z.out, v_y.out]; decide)
  rw [ez] at m_z ⊢
  have m_z3 : Lv w17 A_z 3 c_z [0, 0, 9223372036854775808] := m_z
  clear m_z ez n_z v_z v_y n_y k_y
  have m_z := m_z3
  clear m_z3
  go_wp2_with fail
  have m_n := Lv.row w17 [0, 0, 9223372036854775808] 3 (w17.heap.size) (by simp) rfl (by omega) (lim_n) (.cells #[.int .u64 0, .int .u64 0, .int .u64 9223372036854775808] 39) rfl
  replace m_big := m_big.alloc (.cells #[.int .u64 0, .int .u64 0, .int .u64 9223372036854775808] 39)
  replace m_p := m_p.alloc (.cells #[.int .u64 0, .int .u64 0, .int .u64 9223372036854775808] 39)
  replace m_same := m_same.alloc (.cells #[.int .u64 0, .int .u64 0, .int .u64 9223372036854775808] 39)
  replace m_x := m_x.alloc (.cells #[.int .u64 0, .int .u64 0, .int .u64 9223372036854775808] 39)
  replace m_q := m_q.alloc (.cells #[.int .u64 0, .int .u64 0, .int .u64 9223372036854775808] 39)
  replace m_r := m_r.alloc (.cells #[.int .u64 0, .int .u64 0, .int .u64 9223372036854775808] 39)
  replace m_z := m_z.alloc (.cells #[.int .u64 0, .int .u64 0, .int .u64 9223372036854775808] 39)
  replace hT := hT.al (.cells #[.int .u64 0, .int .u64 0, .int .u64 9223372036854775808] 39)
  replace bw := bel_al bw (.cells #[.int .u64 0, .int .u64 0, .int .u64 9223372036854775808] 39)
  have p18 := same_lv m_z m_n
  with_reducible refine p18.mono ?_
  rintro e w18 ⟨rfl, hb⟩
  clear p18
  replace m_big := m_big.on hb
  replace m_p := m_p.on hb
  replace m_same := m_same.on hb
  replace m_x := m_x.on hb
  replace m_q := m_q.on hb
  replace m_r := m_r.on hb
  replace m_z := m_z.on hb
  replace m_n := m_n.on hb
  replace hT := hT.on hb
  replace bw := bel_then bw hb
  clear hb
  clear m_n
  clear m_z
  clear m_q
  clear m_r
  go_wp2_with fail
  with_reducible refine (num_any 3 _).mono ?_
  rintro e w19 ⟨rfl, rfl⟩
  go_wp2_with fail
  with_reducible refine (num_any 3 _).mono ?_
  rintro e w20 ⟨rfl, rfl⟩
  go_wp2_with fail
  with_reducible refine (num_any 3 _).mono ?_
  rintro e w21 ⟨rfl, rfl⟩
  go_wp2_with fail
  with_reducible refine (num_any 2 _).mono ?_
  rintro e w22 ⟨rfl, rfl⟩
  go_wp2_with fail
  with_reducible refine (num_any 2 _).mono ?_
  rintro e w23 ⟨rfl, rfl⟩
  go_wp2_with fail
  with_reducible refine (num_any 3 _).mono ?_
  rintro e w24 ⟨rfl, rfl⟩
  go_wp2_with fail
  have p25 := same_lv m_p m_big
  with_reducible refine p25.mono ?_
  rintro e w25 ⟨rfl, hb⟩
  clear p25
  replace m_big := m_big.on hb
  replace m_p := m_p.on hb
  replace m_same := m_same.on hb
  replace m_x := m_x.on hb
  replace hT := hT.on hb
  replace bw := bel_then bw hb
  clear hb
  clear m_p
  go_wp2_with fail
  with_reducible refine (num_any 0 _).mono ?_
  rintro e w26 ⟨rfl, rfl⟩
  go_wp2_with fail
  with_reducible refine (num_any 0 _).mono ?_
  rintro e w27 ⟨rfl, rfl⟩
  go_wp2_with fail
  with_reducible refine (num_any 0 _).mono ?_
  rintro e w28 ⟨rfl, rfl⟩
  go_wp2_with fail
  with_reducible refine (num_any 0 _).mono ?_
  rintro e w29 ⟨rfl, rfl⟩
  go_wp2_with fail
  with_reducible refine (num_any 0 _).mono ?_
  rintro e w30 ⟨rfl, rfl⟩
  go_wp2_with fail
  have p31 := same_lv m_same m_big
  with_reducible refine p31.mono ?_
  rintro e w31 ⟨rfl, hb⟩
  clear p31
  replace m_big := m_big.on hb
  replace m_same := m_same.on hb
  replace m_x := m_x.on hb
  replace hT := hT.on hb
  replace bw := bel_then bw hb
  clear hb
  clear m_same
  go_wp2_with fail
  with_reducible refine (num_any 3 _).mono ?_
  rintro e w32 ⟨rfl, rfl⟩
  go_wp2_with fail
  have m_u := Lv.row w31 [1] 1 (w31.heap.size) (by simp) rfl (by omega) (lim_one) (.cells #[.int .u64 1] 39) rfl
  replace m_big := m_big.alloc (.cells #[.int .u64 1] 39)
  replace m_x := m_x.alloc (.cells #[.int .u64 1] 39)
  replace hT := hT.al (.cells #[.int .u64 1] 39)
  replace bw := bel_al bw (.cells #[.int .u64 1] 39)
  have p33 := same_lv m_x m_u
  with_reducible refine p33.mono ?_
  rintro e w33 ⟨rfl, hb⟩
  clear p33
  replace m_big := m_big.on hb
  replace m_x := m_x.on hb
  replace m_u := m_u.on hb
  replace hT := hT.on hb
  replace bw := bel_then bw hb
  clear hb
  clear m_u
  clear m_x
  go_wp2_with fail
  have p34 := Of_lv (x := 0) (k := 0) (r := []) (by omega) (by omega) rfl rfl w33
  with_reducible refine p34.mono ?_
  rintro e w34 ⟨A_o, c_o, rfl, m_o, hb⟩
  clear p34
  replace m_big := m_big.on hb
  replace hT := hT.on hb
  replace bw := bel_then bw hb
  clear hb
  clear m_o
  go_wp2_with fail
  have p35 := Of_lv (x := 7) (k := 1) (r := [7]) (by omega) (by omega) rfl rfl w34
  with_reducible refine p35.mono ?_
  rintro e w35 ⟨A_o, c_o, rfl, m_o, hb⟩
  clear p35
  replace m_big := m_big.on hb
  replace hT := hT.on hb
  replace bw := bel_then bw hb
  clear hb
  go_wp2_with fail
  have m_u := Lv.row w35 [7] 1 (w35.heap.size) (by simp) rfl (by omega) (lim_7) (.cells #[.int .u64 7] 39) rfl
  replace m_big := m_big.alloc (.cells #[.int .u64 7] 39)
  replace m_o := m_o.alloc (.cells #[.int .u64 7] 39)
  replace hT := hT.al (.cells #[.int .u64 7] 39)
  replace bw := bel_al bw (.cells #[.int .u64 7] 39)
  have p36 := same_lv m_o m_u
  with_reducible refine p36.mono ?_
  rintro e w36 ⟨rfl, hb⟩
  clear p36
  replace m_big := m_big.on hb
  replace m_o := m_o.on hb
  replace m_u := m_u.on hb
  replace hT := hT.on hb
  replace bw := bel_then bw hb
  clear hb
  go_wp2_with fail
  with_reducible refine (known_any _ hT).mono ?_
  rintro e w37 ⟨rfl, hb⟩
  replace bw := bel_then bw hb
  go_wp2_with fail
  go_ret
  exact ⟨rfl, bw⟩
end Go.Proofs.YtigphbjgodfhpaaDoor
