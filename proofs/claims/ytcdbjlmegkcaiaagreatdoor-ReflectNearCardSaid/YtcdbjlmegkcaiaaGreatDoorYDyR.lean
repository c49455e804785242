/-
  Layer 3: numbers of floats.
-/
import Derived.Test.YtcdbjlmegkcaiaaGreatDoorYDyI
import Derived.Test.YtcdbjlmegkcaiaaGreatDoorZNB2
import Derived.Test.YtcdbjlmegkcaiaaGreatDoorYDyF
namespace Go.Proofs.YtcdbjlmegkcaiaaGreatDoor
open Go.RowKit Go.Bw
set_option linter.unusedVariables false
set_option linter.unusedSimpArgs false

/-- the float that is nearest -/
def fw (d : Nf) : Nat := Ieee.double.nearest d.neg d.man d.exp
theorem fw_zero : fw zeroN = 0 := by decide
theorem fw_rnd {d : Nf} (h0 : d.man ≠ 0) (k : Nat) (hT : d.man / 2 ^ k < 18446744073709551616) (hk : k = 0 ∨ 9223372036854775808 ≤ d.man / 2 ^ k) :
    (fw d : Int) = signW d.neg (rnd ((d.man / 2 ^ k : Nat) : Int) (d.exp + k) (decide (d.man % 2 ^ k ≠ 0))) := nearest_rnd d.neg d.man k d.exp h0 hT hk
section
variable {b : Bool} {A : Option Addr} {n c : Nat} {x : Int} {l : List Int} {w : World}
theorem Shr_at (h : Lv w A n c l) (hn : n ≤ 4096) (hT : Tab w) (j : Nat) (i : Int) (hi : i = (j : Int)) (hj : j ≤ 262144) (L : Bool) (hL : lostB (val 18446744073709551616 l) j = L) : Calls Tryz.prog 58 #[.slice A n c, .int .i64 i] w fun e w' =>
    ∃ s A c, e = .returned (.tuple #[.slice A s.length c, .bool L, .int .i64 0]) ∧ Normal s ∧ Hid (val 18446744073709551616 s = val 18446744073709551616 l / 2 ^ j) ∧ Lv w' A s.length c s ∧ Below w.heap.size w w' := by subst hi; exact Shr_lv h hn hT j (by omega) L hL
/-- one limb -/
theorem one_limb {s : List Int} {T : Int} (h : Lim 18446744073709551616 s) (hn : Normal s) (hv : val 18446744073709551616 s = T) (h0 : 0 < T) (h1 : T < 18446744073709551616) : s = [T] := by
  have : Lim 18446744073709551616 [T] := fun y hy => by simp at hy; omega
  exact normal_unique (b := 18446744073709551616) (by omega) h this hn (.inr (by simp [D]; omega)) (by rw [hv, val_cons, val_nil]; omega)
theorem top_facts {v : Int} {k j : Nat} (hv : 0 < v) (hk : IsBits v k) (hj : j = k - 64) : 0 < v / 2 ^ j ∧ v / 2 ^ j < 18446744073709551616 ∧ (j = 0 ∨ 9223372036854775808 ≤ v / 2 ^ j) := by
  have hp := Int.pow_pos (n := (2 : Int)) (m := j) (by omega)
  have hk0 : 0 < k := by
    rcases Nat.eq_zero_or_pos k with g | g
    · subst g; have := hk.2.1; simp at this; omega
    · exact g
  have h2 := hk.2.2 hk0
  have h1 := hk.2.1
  have a1 : v / 2 ^ j < 18446744073709551616 := by
    rw [Int.ediv_lt_iff_lt_mul hp, show (18446744073709551616 : Int) = 2 ^ 64 from rfl, ← Int.pow_add]
    exact Int.lt_of_lt_of_le h1 (pw_mono (by omega))
  have a2 : j = 0 ∨ 9223372036854775808 ≤ v / 2 ^ j := by
    rcases Nat.eq_zero_or_pos j with g | g
    · exact .inl g
    · right
      rw [Int.le_ediv_iff_mul_le hp, show (9223372036854775808 : Int) = 2 ^ 63 from rfl, ← Int.pow_add]
      exact Int.le_trans (pw_mono (by omega)) h2
  refine ⟨?_, a1, a2⟩
  rcases a2 with g | g
  · subst g; simpa using hv
  · omega

theorem exists_bitsQ (v : Int) (h : 0 ≤ v) : ∃ k, IsBits v k := by
  obtain ⟨n, rfl⟩ := Int.eq_ofNat_of_zero_le h
  by_cases h0 : n = 0
  · subst h0; exact ⟨0, by unfold IsBits; decide⟩
  · refine ⟨n.log2 + 1, by omega, ?_, fun _ => ?_⟩
    · have := @Nat.lt_log2_self n
      exact_mod_cast this
    · rw [Nat.add_sub_cancel]
      have := Nat.log2_self_le h0
      exact_mod_cast this
end
end Go.Proofs.YtcdbjlmegkcaiaaGreatDoor
namespace Go.Proofs.YtcdbjlmegkcaiaaGreatDoor
open Go.RowKit Go.Bw
set_option linter.unusedVariables false
set_option linter.unusedSimpArgs false

section
variable {b : Bool} {A : Option Addr} {n c : Nat} {x : Int} {l : List Int} {w : World}
theorem of_lv (v : Int) (w : World) (h0 : 0 ≤ v) (h1 : v < 18446744073709551616) : Calls Tryz.prog 32 #[.int .u64 v] w (NewV v w) := (ofMade v w h0 h1).mono fun e w' h => h.newV
theorem len_of_val {s : List Int} {v : Int} (h : Lim 18446744073709551616 s) (hn : Normal s) (hv : val 18446744073709551616 s = v) (h1 : v < 18446744073709551616) : s.length ≤ 4096 := by
  have := length_le_of_lt (b := 18446744073709551616) (by omega) h hn (k := 1) (by rw [hv, Int.pow_succ, Int.pow_zero, Int.one_mul]; exact h1)
  omega
set_option maxRecDepth 100000 in
set_option maxHeartbeats 4000000 in
theorem dWhole_neg (k : Int) (hT : Tab w) (k0 : -9223372036854775808 ≤ k) (k1 : k < 0) :
    Calls Tryz.prog 11 #[.int .i64 k] w (DyP (nfl true (-k) 0) w) := by
  have DB := Blk.new w [.bool false, .slice none 0 0, .int .i64 0] 40
  have bw : Below w.heap.size w (w.alloc (.cells #[.bool false, .slice none 0 0, .int .i64 0] 40)) := by go_grown
  have DB_0 := Blk.cell DB 0 rfl
  have DB_1 := Blk.cell DB 1 rfl
  have DB_2 := Blk.cell DB 2 rfl
  have DB_f0 := Blk.free DB 0
  have DB_f1 := Blk.free DB 1
  have DB_f2 := Blk.free DB 2
  have e1 : IntKind.u64.wrap k = k + 18446744073709551616 := by rw [IntKind.wrap_u64]; omega
  have e2 : IntKind.u64.wrap (-(k + 18446744073709551616)) = -k := by rw [IntKind.wrap_u64]; omega
  have k9 : decide (k < 0) = true := by simp; omega
  go_enter Tryz.func11, Tryz.ntmps11
  go_wp2_with fail
  with_reducible refine (of_lv (-k) _ (by omega) (by omega)).mono ?_
  rintro e w1 ⟨s1, A1, c1, rfl, n1, v1, m1, hb⟩
  clear DB_0 DB_1 DB_2 DB_f0 DB_f1 DB_f2
  have hs1 := hb.size
  try simp only [World.size_alloc, World.size_setCell] at hs1
  replace bw : Below w.heap.size w w1 := dy_end (by go_grown) hb
  replace DB := Blk.on DB hb
  clear hb
  have DB_0 := Blk.cell DB 0 rfl
  have DB_1 := Blk.cell DB 1 rfl
  have DB_2 := Blk.cell DB 2 rfl
  have DB_f0 := Blk.free DB 0
  have DB_f1 := Blk.free DB 1
  have DB_f2 := Blk.free DB 2
  go_wp2_with fail
  with_reducible refine (normal_any (b := true) (x := 0) m1 (len_of_val (Lv.lim m1) n1 v1.out (by omega)) (hT.onD (by go_grown)) (by omega) (by omega)).mono ?_
  rintro e w2 ⟨b2, q2, A2, c2, x2, rfl, hd2, m2, hb⟩
  clear DB_0 DB_1 DB_2 DB_f0 DB_f1 DB_f2
  have hs2 := hb.size
  try simp only [World.size_alloc, World.size_setCell] at hs2
  replace bw : Below w.heap.size w w2 := dy_end (by go_grown) hb
  replace m1 := Lv.on m1 hb
  replace DB := Blk.on DB hb
  clear hb
  have DB_0 := Blk.cell DB 0 rfl
  have DB_1 := Blk.cell DB 1 rfl
  have DB_2 := Blk.cell DB 2 rfl
  have DB_f0 := Blk.free DB 0
  have DB_f1 := Blk.free DB 1
  have DB_f2 := Blk.free DB 2
  rw [v1.out] at hd2
  go_wp2_with fail
  refine bodyPost_ret (v := dyV b2 A2 q2.length c2 x2) (by simp [results, Tryz.results11, go_sem, DB_0, DB_1, DB_2]) rfl ?_
  exact ⟨b2, q2, A2, c2, x2, rfl, hd2, m2.put DB _ _ _ _ _, by go_grown⟩

set_option maxRecDepth 100000 in
set_option maxHeartbeats 4000000 in
theorem dWhole_pos (k : Int) (hT : Tab w) (k0 : 0 ≤ k) (k1 : k ≤ 9223372036854775807) :
    Calls Tryz.prog 11 #[.int .i64 k] w (DyP (nfl false k 0) w) := by
  have DB := Blk.new w [.bool false, .slice none 0 0, .int .i64 0] 40
  have bw : Below w.heap.size w (w.alloc (.cells #[.bool false, .slice none 0 0, .int .i64 0] 40)) := by go_grown
  have DB_0 := Blk.cell DB 0 rfl
  have DB_1 := Blk.cell DB 1 rfl
  have DB_2 := Blk.cell DB 2 rfl
  have DB_f0 := Blk.free DB 0
  have DB_f1 := Blk.free DB 1
  have DB_f2 := Blk.free DB 2
  have k9 : decide (k < 0) = false := by simp; omega
  go_enter Tryz.func11, Tryz.ntmps11
  go_wp2_with fail
  with_reducible refine (of_lv k _ (by omega) (by omega)).mono ?_
  rintro e w1 ⟨s1, A1, c1, rfl, n1, v1, m1, hb⟩
  clear DB_0 DB_1 DB_2 DB_f0 DB_f1 DB_f2
  have hs1 := hb.size
  try simp only [World.size_alloc, World.size_setCell] at hs1
  replace bw : Below w.heap.size w w1 := dy_end (by go_grown) hb
  replace DB := Blk.on DB hb
  clear hb
  have DB_0 := Blk.cell DB 0 rfl
  have DB_1 := Blk.cell DB 1 rfl
  have DB_2 := Blk.cell DB 2 rfl
  have DB_f0 := Blk.free DB 0
  have DB_f1 := Blk.free DB 1
  have DB_f2 := Blk.free DB 2
  go_wp2_with fail
  with_reducible refine (normal_any (b := false) (x := 0) m1 (len_of_val (Lv.lim m1) n1 v1.out (by omega)) (hT.onD (by go_grown)) (by omega) (by omega)).mono ?_
  rintro e w2 ⟨b2, q2, A2, c2, x2, rfl, hd2, m2, hb⟩
  clear DB_0 DB_1 DB_2 DB_f0 DB_f1 DB_f2
  have hs2 := hb.size
  try simp only [World.size_alloc, World.size_setCell] at hs2
  replace bw : Below w.heap.size w w2 := dy_end (by go_grown) hb
  replace m1 := Lv.on m1 hb
  replace DB := Blk.on DB hb
  clear hb
  have DB_0 := Blk.cell DB 0 rfl
  have DB_1 := Blk.cell DB 1 rfl
  have DB_2 := Blk.cell DB 2 rfl
  have DB_f0 := Blk.free DB 0
  have DB_f1 := Blk.free DB 1
  have DB_f2 := Blk.free DB 2
  rw [v1.out] at hd2
  go_wp2_with fail
  refine bodyPost_ret (v := dyV b2 A2 q2.length c2 x2) (by simp [results, Tryz.results11, go_sem, DB_0, DB_1, DB_2]) rfl ?_
  exact ⟨b2, q2, A2, c2, x2, rfl, hd2, m2.put DB _ _ _ _ _, by go_grown⟩


theorem dWhole_any (k : Int) (hT : Tab w) (k0 : -9223372036854775808 ≤ k) (k1 : k ≤ 9223372036854775807) :
    Calls Tryz.prog 11 #[.int .i64 k] w (DyP (nf k 0) w) := by
  by_cases h : k < 0
  · have := dWhole_neg k hT k0 h
    unfold nfl at this
    simpa using this
  · have := dWhole_pos k hT (by omega) k1
    unfold nfl at this
    simpa using this

theorem dparts_yes (y : Int) (h0 : 0 ≤ y) (h1 : y ≤ 18446744073709551615) (hc : cls y ≤ 3) (w : World) : Calls Tryz.prog 50 #[.int .u64 y] w fun e w' => e = .returned (.tuple #[partsV (pneg y) (pman y) (pexp y), .int .i64 0]) ∧ Below w.heap.size w w' := by
  refine (parts_any y h0 h1 w).mono ?_
  rintro e w' ⟨rfl, hb⟩
  exact ⟨by unfold partsR; rw [if_pos hc], hb⟩
theorem dparts_no (y : Int) (h0 : 0 ≤ y) (h1 : y ≤ 18446744073709551615) (hc : 3 < cls y) (w : World) : Calls Tryz.prog 50 #[.int .u64 y] w fun e w' => e = .returned (.tuple #[partsV false 0 0, .int .i64 2]) ∧ Below w.heap.size w w' := by
  refine (parts_any y h0 h1 w).mono ?_
  rintro e w' ⟨rfl, hb⟩
  exact ⟨by unfold partsR; rw [if_neg (by omega)], hb⟩
theorem of_fin (y : Nat) (hn : y ≤ 18446744073709551615) (hc : cls (y : Int) ≤ 3) (w : World) :
    Calls Tryz.prog 51 #[.float .f64 y] w fun e w' => e = .returned (.int .u64 (y : Int)) ∧ w = w' := by
  have := ofBany y hn w
  unfold one at this
  rw [if_neg (by omega)] at this
  exact this
theorem one_inf (y : Int) (h : 3 < cls y) : 3 < cls (one y) := by
  unfold one
  split
  · decide
  · exact h
theorem one_bd (y : Nat) (hn : y ≤ 18446744073709551615) : 0 ≤ one (y : Int) ∧ one (y : Int) ≤ 18446744073709551615 := by
  unfold one
  split
  · decide
  · omega
theorem dpman_bd (y : Int) : 0 ≤ pman y ∧ pman y < 18446744073709551616 := by
  have := frc_bd y
  unfold pman
  split <;> omega
theorem dpexp_bd (y : Int) : -1100 ≤ pexp y ∧ pexp y ≤ 1100 := by
  have := fld_bd y
  unfold pexp
  repeat' split
  all_goals omega
set_option maxRecDepth 100000 in
set_option maxHeartbeats 4000000 in
theorem dOf_no (y : Nat) (hn : y ≤ 18446744073709551615) (hc : 3 < cls (y : Int)) (w : World) :
    Calls Tryz.prog 24 #[.float .f64 y] w (DyK zeroN 2 w) := by
  have DB := Blk.new w [.bool false, .slice none 0 0, .int .i64 0] 40
  have bw : Below w.heap.size w (w.alloc (.cells #[.bool false, .slice none 0 0, .int .i64 0] 40)) := by go_grown
  have DB_0 := Blk.cell DB 0 rfl
  have DB_1 := Blk.cell DB 1 rfl
  have DB_2 := Blk.cell DB 2 rfl
  have DB_f0 := Blk.free DB 0
  have DB_f1 := Blk.free DB 1
  have DB_f2 := Blk.free DB 2
  obtain ⟨i0, i1⟩ := one_bd y hn
  have I9 := one_inf (y : Int) hc
  go_enter Tryz.func24, Tryz.ntmps24
  go_wp2_with fail
  with_reducible refine (ofBany y hn _).mono ?_
  rintro e w0 ⟨rfl, rfl⟩
  go_wp2_with fail
  with_reducible refine (dparts_no _ i0 i1 I9 _).mono ?_
  rintro e w1 ⟨rfl, hb⟩
  clear DB_0 DB_1 DB_2 DB_f0 DB_f1 DB_f2
  have hs1 := hb.size
  try simp only [World.size_alloc, World.size_setCell] at hs1
  replace bw : Below w.heap.size w w1 := dy_end (by go_grown) hb
  replace DB := Blk.on DB hb
  clear hb
  have DB_0 := Blk.cell DB 0 rfl
  have DB_1 := Blk.cell DB 1 rfl
  have DB_2 := Blk.cell DB 2 rfl
  have DB_f0 := Blk.free DB 0
  have DB_f1 := Blk.free DB 1
  have DB_f2 := Blk.free DB 2
  replace DB := Blk.alloc DB (.cells #[.bool false, .int .u64 0, .int .i64 0] 79)
  have RB := Blk.new w1 [.bool false, .int .u64 0, .int .i64 0] 79
  have DB_v0_0 := Blk.cell DB 0 rfl
  have DB_v0_1 := Blk.cell DB 1 rfl
  have DB_v0_2 := Blk.cell DB 2 rfl
  have DB_v0_f0 := Blk.free DB 0
  have DB_v0_f1 := Blk.free DB 1
  have DB_v0_f2 := Blk.free DB 2
  have RB_0 := Blk.cell RB 0 rfl
  have RB_1 := Blk.cell RB 1 rfl
  have RB_2 := Blk.cell RB 2 rfl
  have RB_f0 := Blk.free RB 0
  have RB_f1 := Blk.free RB 1
  have RB_f2 := Blk.free RB 2
  go_wp2_with fail
  refine bodyPost_ret (v := .tuple #[dyV false none 0 0 0, .int .i64 2]) (by simp [results, Tryz.results24, go_sem, DB_0, DB_1, DB_2, DB_f0, DB_f1, DB_f2, DB_v0_0, DB_v0_1, DB_v0_2, DB_v0_f0, DB_v0_f1, DB_v0_f2]) rfl ?_
  exact ⟨false, [], none, 0, 0, rfl, Dn.zero, lv_nil _, by go_grown⟩

set_option maxRecDepth 100000 in
set_option maxHeartbeats 4000000 in
theorem dOf_yes (y : Nat) (hn : y ≤ 18446744073709551615) (hc : cls (y : Int) ≤ 3) (hT : Tab w) :
    Calls Tryz.prog 24 #[.float .f64 y] w (DyK (nfl (pneg y) (pman y) (pexp y)) 0 w) := by
  have DB := Blk.new w [.bool false, .slice none 0 0, .int .i64 0] 40
  have bw : Below w.heap.size w (w.alloc (.cells #[.bool false, .slice none 0 0, .int .i64 0] 40)) := by go_grown
  have DB_0 := Blk.cell DB 0 rfl
  have DB_1 := Blk.cell DB 1 rfl
  have DB_2 := Blk.cell DB 2 rfl
  have DB_f0 := Blk.free DB 0
  have DB_f1 := Blk.free DB 1
  have DB_f2 := Blk.free DB 2
  have B9 := dpman_bd (y : Int)
  have C9 := dpexp_bd (y : Int)
  have PY := fun W => dparts_yes (y : Int) (by omega) (by omega) hc W
  generalize pneg (y : Int) = pn, pman (y : Int) = pm, pexp (y : Int) = pe at B9 C9 PY ⊢
  go_enter Tryz.func24, Tryz.ntmps24
  go_wp2_with fail
  with_reducible refine (of_fin y hn hc _).mono ?_
  rintro e w0 ⟨rfl, rfl⟩
  go_wp2_with fail
  with_reducible refine (PY _).mono ?_
  rintro e w1 ⟨rfl, hb⟩
  clear DB_0 DB_1 DB_2 DB_f0 DB_f1 DB_f2
  have hs1 := hb.size
  try simp only [World.size_alloc, World.size_setCell] at hs1
  replace bw : Below w.heap.size w w1 := dy_end (by go_grown) hb
  replace DB := Blk.on DB hb
  clear hb
  have DB_0 := Blk.cell DB 0 rfl
  have DB_1 := Blk.cell DB 1 rfl
  have DB_2 := Blk.cell DB 2 rfl
  have DB_f0 := Blk.free DB 0
  have DB_f1 := Blk.free DB 1
  have DB_f2 := Blk.free DB 2
  replace DB := Blk.alloc DB (.cells #[.bool pn, .int .u64 pm, .int .i64 pe] 79)
  have RB := Blk.new w1 [.bool pn, .int .u64 pm, .int .i64 pe] 79
  have DB_v0_0 := Blk.cell DB 0 rfl
  have DB_v0_1 := Blk.cell DB 1 rfl
  have DB_v0_2 := Blk.cell DB 2 rfl
  have DB_v0_f0 := Blk.free DB 0
  have DB_v0_f1 := Blk.free DB 1
  have DB_v0_f2 := Blk.free DB 2
  have RB_0 := Blk.cell RB 0 rfl
  have RB_1 := Blk.cell RB 1 rfl
  have RB_2 := Blk.cell RB 2 rfl
  have RB_f0 := Blk.free RB 0
  have RB_f1 := Blk.free RB 1
  have RB_f2 := Blk.free RB 2
  go_wp2_with fail
  obtain ⟨r, hr⟩ : ∃ r, r = w1.heap.size := ⟨_, rfl⟩
  refine wp_region_held_drew (S := fun w' : World => w'.cell? ⟨w1.heap.size, 0, none⟩ = some (.bool pn) ∧ w'.cell? ⟨w1.heap.size, 1, none⟩ = some (.int .u64 pm) ∧ w'.cell? ⟨w1.heap.size, 2, none⟩ = some (.int .i64 pe)) (by kernel_rfl) ⟨RB_0, RB_1, RB_2⟩ (fun hHeld => ?_)
  refine wpAnyH_take (i := 0) (v := ?v0) rfl (by kernel_rfl) (by kernel_rfl) (by kernel_rfl) (fun _ _ _ h => h) (Or.inl ⟨by rfl, ?hy0⟩) (by assumption) ?rest0
  case hy0 => (intro w hSw; (try dsimp only at hSw); go_simp; try with_reducible rfl)
  simp only [Act.put, List.setIfInBounds_toArray, List.set_cons_zero, List.set_cons_succ, List.getElem_toArray, List.getElem_cons_zero, List.getElem_cons_succ]
  refine wpAnyH_take (i := 1) (v := ?v1) rfl (by kernel_rfl) (by kernel_rfl) (by kernel_rfl) (fun _ _ _ h => h) (Or.inl ⟨by rfl, ?hy1⟩) (by assumption) ?rest1
  case hy1 => (intro w hSw; (try dsimp only at hSw); go_simp; try with_reducible rfl)
  simp only [Act.put, List.setIfInBounds_toArray, List.set_cons_zero, List.set_cons_succ, List.getElem_toArray, List.getElem_cons_zero, List.getElem_cons_succ]
  refine wpAnyH_take (i := 2) (v := ?v2) rfl (by kernel_rfl) (by kernel_rfl) (by kernel_rfl) (fun _ _ _ h => h) (Or.inl ⟨by rfl, ?hy2⟩) (by assumption) ?rest2
  case hy2 => (intro w hSw; (try dsimp only at hSw); go_simp; try with_reducible rfl)
  simp only [Act.put, List.setIfInBounds_toArray, List.set_cons_zero, List.set_cons_succ, List.getElem_toArray, List.getElem_cons_zero, List.getElem_cons_succ]
  refine wpAnyH_take (i := 3) (v := ?v3) rfl (by kernel_rfl) (by kernel_rfl) (by kernel_rfl) (fun _ _ _ h => h) (Or.inl ⟨by rfl, ?hy3⟩) (by assumption) ?rest3
  case hy3 => (intro w hSw; (try dsimp only at hSw); go_simp; try with_reducible rfl)
  simp only [Act.put, List.setIfInBounds_toArray, List.set_cons_zero, List.set_cons_succ, List.getElem_toArray, List.getElem_cons_zero, List.getElem_cons_succ]
  refine wpAnyH_take (i := 5) (v := ?v5) rfl (by kernel_rfl) (by kernel_rfl) (by kernel_rfl) (fun _ _ _ h => h) (Or.inl ⟨by rfl, ?hy5⟩) (by assumption) ?rest5
  case hy5 => (intro w hSw; (try dsimp only at hSw); go_simp; try with_reducible rfl)
  simp only [Act.put, List.setIfInBounds_toArray, List.set_cons_zero, List.set_cons_succ, List.getElem_toArray, List.getElem_cons_zero, List.getElem_cons_succ]
  refine wpAnyH_take (i := 6) (v := ?v6) rfl (by kernel_rfl) (by kernel_rfl) (by kernel_rfl) (fun _ _ _ h => h) (Or.inl ⟨by rfl, ?hy6⟩) (by assumption) ?rest6
  case hy6 => (intro w hSw; (try dsimp only at hSw); go_simp; try with_reducible rfl)
  simp only [Act.put, List.setIfInBounds_toArray, List.set_cons_zero, List.set_cons_succ, List.getElem_toArray, List.getElem_cons_zero, List.getElem_cons_succ]
  refine wpAnyH_ready (rs := [4]) (by kernel_rfl) (by simp) ?_
  refine AllReadyH.cons rfl (fun K hK => ?_) AllReadyH.nil
  go_simp
  with_reducible refine (of_lv pm _ B9.1 B9.2).mono ?_
  rintro e w2 ⟨s2, A2, c2, rfl, n2, v2, m2, hb2⟩
  have hs2 := hb2.size
  simp only [World.size_alloc, World.size_drew] at hs2
  replace bw : Below w.heap.size w w2 := dy_end (by go_grown) hb2
  replace DB := (Blk.drew DB).on hb2
  replace hT := hT.onD bw
  refine hK.out _ _ (⟨(hb2.cell (p := ⟨w1.heap.size, 0, none⟩) (by first | omega | (dsimp only; omega) | (simp; omega) | (simp; done))).trans hHeld.1, (hb2.cell (p := ⟨w1.heap.size, 1, none⟩) (by first | omega | (dsimp only; omega) | (simp; omega) | (simp; done))).trans hHeld.2.1, (hb2.cell (p := ⟨w1.heap.size, 2, none⟩) (by first | omega | (dsimp only; omega) | (simp; omega) | (simp; done))).trans hHeld.2.2⟩) (fun hHeld => ?_)
  clear hK K
  try simp only [Act.put, List.setIfInBounds_toArray, List.set_cons_zero, List.set_cons_succ, List.getElem_toArray, List.getElem_cons_zero, List.getElem_cons_succ]
  refine wpAnyH_take (i := 7) (v := ?v7) rfl (by kernel_rfl) (by kernel_rfl) (by kernel_rfl) (fun _ _ _ h => h) (Or.inl ⟨by rfl, ?hy7⟩) (by assumption) ?rest7
  case hy7 => (intro w hSw; (try dsimp only at hSw); go_simp; try with_reducible rfl)
  simp only [Act.put, List.setIfInBounds_toArray, List.set_cons_zero, List.set_cons_succ, List.getElem_toArray, List.getElem_cons_zero, List.getElem_cons_succ]
  refine wpAnyH_ready (rs := [8]) (by kernel_rfl) (by simp) ?_
  refine AllReadyH.cons rfl (fun K hK => ?_) AllReadyH.nil
  go_simp
  with_reducible refine (normal_any (b := pn) (x := pe) m2 (len_of_val (Lv.lim m2) n2 v2.out B9.2) hT (by omega) (by omega)).mono ?_
  rintro e w3 ⟨b3, q3, A3, c3, x3, rfl, hd3, m3, hb3⟩
  have hs3 := hb3.size
  replace bw : Below w.heap.size w w3 := dy_end bw hb3
  replace DB := Blk.on DB hb3
  rw [v2.out] at hd3
  refine hK.out _ _ (⟨(hb3.cell (p := ⟨w1.heap.size, 0, none⟩) (by first | omega | (dsimp only; omega) | (simp; omega) | (simp; done))).trans hHeld.1, (hb3.cell (p := ⟨w1.heap.size, 1, none⟩) (by first | omega | (dsimp only; omega) | (simp; omega) | (simp; done))).trans hHeld.2.1, (hb3.cell (p := ⟨w1.heap.size, 2, none⟩) (by first | omega | (dsimp only; omega) | (simp; omega) | (simp; done))).trans hHeld.2.2⟩) (fun hHeld => ?_)
  clear hK K
  try simp only [Act.put, List.setIfInBounds_toArray, List.set_cons_zero, List.set_cons_succ, List.getElem_toArray, List.getElem_cons_zero, List.getElem_cons_succ]
  clear hb2 hb3
  clear DB_0 DB_1 DB_2 DB_f0 DB_f1 DB_f2 DB_v0_0 DB_v0_1 DB_v0_2 DB_v0_f0 DB_v0_f1 DB_v0_f2
  clear RB_0 RB_1 RB_2 RB_f0 RB_f1 RB_f2
  have DB_0 := Blk.cell DB 0 rfl
  have DB_1 := Blk.cell DB 1 rfl
  have DB_2 := Blk.cell DB 2 rfl
  have DB_f0 := Blk.free DB 0
  have DB_f1 := Blk.free DB 1
  have DB_f2 := Blk.free DB 2
  refine wpAnyH_ready (rs := [9]) (by kernel_rfl) (by simp) ?_
  refine AllReadyH.cons rfl (fun K hK => ?_) AllReadyH.nil
  go_simp
  refine hK.out _ _ (⟨put_cell hHeld.1 (by dsimp only; omega) _ _ _, put_cell hHeld.2.1 (by dsimp only; omega) _ _ _, put_cell hHeld.2.2 (by dsimp only; omega) _ _ _⟩) (fun hHeld => ?_)
  clear hK K
  try simp only [Act.put, List.setIfInBounds_toArray, List.set_cons_zero, List.set_cons_succ, List.getElem_toArray, List.getElem_cons_zero, List.getElem_cons_succ]
  refine wpAnyH_take (i := 10) (v := ?v10) rfl (by kernel_rfl) (by kernel_rfl) (by kernel_rfl) (fun _ _ _ h => h) (Or.inl ⟨by rfl, ?hy10⟩) (by assumption) ?rest10
  case hy10 => (intro w hSw; (try dsimp only at hSw); go_simp; try with_reducible rfl)
  simp only [Act.put, List.setIfInBounds_toArray, List.set_cons_zero, List.set_cons_succ, List.getElem_toArray, List.getElem_cons_zero, List.getElem_cons_succ]
  refine wpAnyH_done (by kernel_rfl) ?_ _
  replace m3 := m3.put DB b3 A3 q3.length c3 x3
  clear DB_0 DB_1 DB_2 DB_f0 DB_f1 DB_f2
  replace DB := Dbx.put DB b3 A3 q3.length c3 x3
  clear hHeld
  have DB_0 := Blk.cell DB 0 rfl
  have DB_1 := Blk.cell DB 1 rfl
  have DB_2 := Blk.cell DB 2 rfl
  have DB_f0 := Blk.free DB 0
  have DB_f1 := Blk.free DB 1
  have DB_f2 := Blk.free DB 2
  go_wp2_with fail
  refine bodyPost_ret (v := .tuple #[dyV b3 A3 q3.length c3 x3, .int .i64 0]) (by simp [results, Tryz.results24, go_sem, DB_0, DB_1, DB_2]) rfl ?_
  exact ⟨b3, q3, A3, c3, x3, rfl, hd3, m3, by go_grown⟩

end
end Go.Proofs.YtcdbjlmegkcaiaaGreatDoor
