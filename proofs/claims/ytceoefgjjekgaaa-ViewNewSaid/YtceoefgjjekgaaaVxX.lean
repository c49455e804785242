/-
  Layer 7: the law ViewNew. (Written by wip/tools/gen_vxx.py.)
-/
import Derived.Test.YtceoefgjjekgaaaVxQ
namespace Go.Proofs.Ytceoefgjjekgaaa
open Go.RowKit Go.Bw Go.Sort Go.Shelf
set_option linter.unusedVariables false
set_option linter.unusedSimpArgs false

theorem setTo_D (v : Vu) (c : Nat) (x : Int) (l : List Int) : ∀ (k q : Nat), q < l.length → (∀ j, j < k → ∃ p : Nat, v.ix c (v.ei j) (v.ej j) = p) →
    ((∃ j, j < k ∧ v.ix c (v.ei j) (v.ej j) = q) → D (setTo v c (fun _ => x) l k) q = x) ∧ ((∀ j, j < k → v.ix c (v.ei j) (v.ej j) ≠ q) → D (setTo v c (fun _ => x) l k) q = D l q) := by
  intro k
  induction k with
  | zero => exact fun q _ _ => ⟨fun ⟨j, hj, _⟩ => by omega, fun _ => rfl⟩
  | succ k ih =>
    intro q hq hp
    obtain ⟨ih1, ih2⟩ := ih q hq (fun j hj => hp j (by omega))
    obtain ⟨p, hpk⟩ := hp k (by omega)
    rw [setTo_succ, hpk, Int.toNat_natCast]
    have hlen : (setTo v c (fun _ => x) l k).length = l.length := setTo_len _ _ _ _ _
    by_cases hpq : p = q
    · subst hpq
      rw [D_set _ _ (by rw [hlen]; exact hq), if_pos rfl]
      exact ⟨fun _ => rfl, fun h => absurd hpk (h k (by omega))⟩
    · have e : D ((setTo v c (fun _ => x) l k).set p x) q = D (setTo v c (fun _ => x) l k) q := by
        unfold D
        rw [List.getD_eq_getElem?_getD, List.getD_eq_getElem?_getD, List.getElem?_set_ne hpq]
      rw [e]
      refine ⟨fun ⟨j, hj, hje⟩ => ih1 ⟨j, ?_, hje⟩, fun h => ih2 (fun j hj => h j (by omega))⟩
      rcases Nat.lt_or_ge j k with g | g
      · exact g
      · obtain rfl : j = k := by omega
        rw [hpk] at hje
        omega
theorem eye_at (s : Nat) {n : Nat} (hn : n ≤ 40) {i j : Nat} (hi : i < n) (hj : j < n) : (Vu.all s n n).at_ n (eyeL n) i j = if i = j then 4607182418800017408 else 0 := by
  have hh : (Vu.all s n n).has i j = true := decide_eq_true (by show (0 : Int) ≤ i ∧ (i : Int) < n ∧ (0 : Int) ≤ j ∧ (j : Int) < n; omega)
  unfold Vu.at_
  rw [hh, if_pos rfl, all_ix]
  have e1 : ((i : Int) * (n : Int) + j).toNat = i * n + j := by
    have : ((i : Int) * (n : Int) + j) = ((i * n + j : Nat) : Int) := by push_cast; rfl
    rw [this]; rfl
  rw [e1]
  unfold eyeL Vu.fillL
  have eR : ((Vu.all 0 (n : Int) n).diag.R * (Vu.all 0 (n : Int) n).diag.C).toNat = n := by
    show (min (n : Int) n * 1).toNat = n
    omega
  have eN : ((n : Int) * n).toNat = n * n := by rw [Int.toNat_mul (by omega) (by omega)]; rfl
  rw [eR, eN]
  have hix : ∀ a : Nat, (Vu.all 0 (n : Int) n).diag.ix n ((Vu.all 0 (n : Int) n).diag.ei a) ((Vu.all 0 (n : Int) n).diag.ej a) = ((a * n + a : Nat) : Int) := fun a => by
    have e2 : (Vu.all 0 (n : Int) n).diag.ei a = a := by unfold Vu.ei Vu.diag; simp
    have e3 : (Vu.all 0 (n : Int) n).diag.ej a = 0 := by unfold Vu.ej Vu.diag; simp [Nat.mod_one]
    rw [e2, e3, D_ix, all_ix]
    push_cast
    rfl
  have hq : i * n + j < (List.replicate (n * n) (0 : Int)).length := by
    rw [List.length_replicate]
    have := Nat.mul_le_mul_right n (show i + 1 ≤ n by omega)
    rw [Nat.succ_mul] at this
    omega
  have htn : ((n : Int)).toNat = n := Int.toNat_natCast n
  rw [htn]
  obtain ⟨k1, k2⟩ := setTo_D (Vu.all 0 (n : Int) n).diag n 4607182418800017408 (List.replicate (n * n) 0) n (i * n + j) hq (fun a _ => ⟨_, hix a⟩)
  by_cases hij : i = j
  · subst hij
    rw [if_pos rfl]
    exact k1 ⟨i, hi, hix i⟩
  · rw [if_neg hij, k2 (fun a ha e => ?_)]
    · unfold D
      rw [List.getD_eq_getElem?_getD]
      rw [List.length_replicate] at hq
      rw [List.getElem?_replicate, if_pos hq]
      rfl
    · rw [hix] at e
      have e9 : a * n + a = i * n + j := by exact_mod_cast e
      have q1 : (a * n + a) / n = (i * n + j) / n := by rw [e9]
      have q2 : (a * n + a) % n = (i * n + j) % n := by rw [e9]
      rw [Nat.mul_comm a, Nat.mul_comm i, Nat.mul_add_div (by omega), Nat.mul_add_div (by omega), Nat.div_eq_of_lt ha, Nat.div_eq_of_lt hj] at q1
      rw [Nat.mul_comm a, Nat.mul_comm i, Nat.mul_add_mod, Nat.mul_add_mod, Nat.mod_eq_of_lt ha, Nat.mod_eq_of_lt hj] at q2
      omega
theorem o_one : (FloatKind.f64.format.order 4607182418800017408 4607182418800017408 == some .eq) = true := by decide +kernel
theorem o_zero : (FloatKind.f64.format.order 0 4607182418800017408 == some .eq) = false := by decide +kernel
theorem one_zero : one 0 = 0 := by decide +kernel
section
variable {w : World} {R C : Int}
def BI (x : Int) : Prop := -9223372036854775808 ≤ x ∧ x ≤ 9223372036854775807
set_option maxRecDepth 100000 in
set_option maxHeartbeats 8000000 in
theorem new_1 (bR : -9223372036854775808 ≤ R ∧ R ≤ 9223372036854775807) (bC : -9223372036854775808 ≤ C ∧ C ≤ 9223372036854775807) (h1 : R < 0) :
    Calls Try.prog 4 #[.int .i64 R, .int .i64 C] w (Ans w (.bool true)) := by
  have p1 := fun W => New_no (R := R) (C := C) (decide_eq_false (by omega)) W
  have p2 := fun W => Eye_no (n := R) (decide_eq_false (by omega)) W
  have d1 : decide (0 ≤ R) = false := decide_eq_false (by omega)
  have bz := Below.refl w.heap.size w
  go_enter Try.func4, Try.ntmps4
  go_wp2_with fail
  with_reducible refine (p1 _).mono ?_
  rintro e w1 ⟨rfl, hb⟩
  replace bz := bz.trans (hb.mono bz.size)
  clear hb
  have D5 := Blk.new w1 (Vu.zero).L 30
  obtain ⟨HD5, eHD5⟩ : ∃ H, w1.heap.size = H := ⟨_, rfl⟩
  rw [eHD5] at D5
  replace bz := bz.alloc bz.size (.cells (Vu.zero).L.toArray 30)
  have HHD5 := Lib.hid eHD5
  go_wp2_with fail
  with_reducible refine (p2 _).mono ?_
  rintro e w2 ⟨rfl, hb⟩
  replace D5 := D5.on hb
  replace bz := bz.trans (hb.mono bz.size)
  clear hb
  have D7 := Blk.new w2 (Vu.zero).L 30
  obtain ⟨HD7, eHD7⟩ : ∃ H, w2.heap.size = H := ⟨_, rfl⟩
  rw [eHD7] at D7
  replace D5 := D5.on ((Below.refl _ _).alloc (Nat.le_refl _) (.cells (Vu.zero).L.toArray 30))
  replace bz := bz.alloc bz.size (.cells (Vu.zero).L.toArray 30)
  have HHD7 := Lib.hid eHD7
  go_wp2_with fail
  with_reducible refine (num_any _ _).mono ?_
  rintro e v3 ⟨rfl, rfl⟩
  go_wp2_with fail
  with_reducible refine (num_any _ _).mono ?_
  rintro e v4 ⟨rfl, rfl⟩
  go_wp2_with fail
  with_reducible refine (num_any _ _).mono ?_
  rintro e v5 ⟨rfl, rfl⟩
  go_wp2_with fail
  with_reducible refine (num_any _ _).mono ?_
  rintro e v6 ⟨rfl, rfl⟩
  go_wp2_with fail
  with_reducible refine (known_any _).mono ?_
  rintro e w7 ⟨rfl, hb⟩
  replace D5 := D5.on hb
  replace D7 := D7.on hb
  replace bz := bz.trans (hb.mono bz.size)
  go_wp2_with fail
  go_ret
  exact ⟨rfl, bz⟩
set_option maxRecDepth 100000 in
set_option maxHeartbeats 8000000 in
theorem new_2 (bR : -9223372036854775808 ≤ R ∧ R ≤ 9223372036854775807) (bC : -9223372036854775808 ≤ C ∧ C ≤ 9223372036854775807) (h0 : 0 ≤ R) (h1 : 512 < R) :
    Calls Try.prog 4 #[.int .i64 R, .int .i64 C] w (Ans w (.bool true)) := by
  have p1 := fun W => New_no (R := R) (C := C) (decide_eq_false (by omega)) W
  have p2 := fun W => Eye_no (n := R) (decide_eq_false (by omega)) W
  have d1 : decide (R ≤ 512) = false := decide_eq_false (by omega)
  have bz := Below.refl w.heap.size w
  go_enter Try.func4, Try.ntmps4
  go_wp2_with fail
  with_reducible refine (p1 _).mono ?_
  rintro e w1 ⟨rfl, hb⟩
  replace bz := bz.trans (hb.mono bz.size)
  clear hb
  have D5 := Blk.new w1 (Vu.zero).L 30
  obtain ⟨HD5, eHD5⟩ : ∃ H, w1.heap.size = H := ⟨_, rfl⟩
  rw [eHD5] at D5
  replace bz := bz.alloc bz.size (.cells (Vu.zero).L.toArray 30)
  have HHD5 := Lib.hid eHD5
  go_wp2_with fail
  with_reducible refine (p2 _).mono ?_
  rintro e w2 ⟨rfl, hb⟩
  replace D5 := D5.on hb
  replace bz := bz.trans (hb.mono bz.size)
  clear hb
  have D7 := Blk.new w2 (Vu.zero).L 30
  obtain ⟨HD7, eHD7⟩ : ∃ H, w2.heap.size = H := ⟨_, rfl⟩
  rw [eHD7] at D7
  replace D5 := D5.on ((Below.refl _ _).alloc (Nat.le_refl _) (.cells (Vu.zero).L.toArray 30))
  replace bz := bz.alloc bz.size (.cells (Vu.zero).L.toArray 30)
  have HHD7 := Lib.hid eHD7
  go_wp2_with fail
  with_reducible refine (num_any _ _).mono ?_
  rintro e v3 ⟨rfl, rfl⟩
  go_wp2_with fail
  with_reducible refine (num_any _ _).mono ?_
  rintro e v4 ⟨rfl, rfl⟩
  go_wp2_with fail
  with_reducible refine (num_any _ _).mono ?_
  rintro e v5 ⟨rfl, rfl⟩
  go_wp2_with fail
  with_reducible refine (num_any _ _).mono ?_
  rintro e v6 ⟨rfl, rfl⟩
  go_wp2_with fail
  with_reducible refine (known_any _).mono ?_
  rintro e w7 ⟨rfl, hb⟩
  replace D5 := D5.on hb
  replace D7 := D7.on hb
  replace bz := bz.trans (hb.mono bz.size)
  go_wp2_with fail
  go_ret
  exact ⟨rfl, bz⟩
set_option maxRecDepth 100000 in
set_option maxHeartbeats 8000000 in
theorem new_3 (bR : -9223372036854775808 ≤ R ∧ R ≤ 9223372036854775807) (bC : -9223372036854775808 ≤ C ∧ C ≤ 9223372036854775807) (h0 : 0 ≤ R) (h1 : R ≤ 512) (h2 : C < 0) (h3 : R ≤ 40) :
    Calls Try.prog 4 #[.int .i64 R, .int .i64 C] w (Ans w (.bool true)) := by
  have p1 := fun W => New_no (R := R) (C := C) (decide_eq_false (by omega)) W
  have p2 := fun W => Eye_yes (n := R) (decide_eq_true (by omega)) W
  have d1 : decide (0 ≤ C) = false := decide_eq_false (by omega)
  have d2 : decide (40 < R) = false := decide_eq_false (by omega)
  have bz := Below.refl w.heap.size w
  go_enter Try.func4, Try.ntmps4
  go_wp2_with fail
  with_reducible refine (p1 _).mono ?_
  rintro e w1 ⟨rfl, hb⟩
  replace bz := bz.trans (hb.mono bz.size)
  clear hb
  have D5 := Blk.new w1 (Vu.zero).L 30
  obtain ⟨HD5, eHD5⟩ : ∃ H, w1.heap.size = H := ⟨_, rfl⟩
  rw [eHD5] at D5
  replace bz := bz.alloc bz.size (.cells (Vu.zero).L.toArray 30)
  have HHD5 := Lib.hid eHD5
  have hqD7 := bz.size
  go_wp2_with fail
  with_reducible refine (p2 _).mono ?_
  rintro e w2 ⟨s, g, cap, rfl, hst, hb⟩
  replace D5 := D5.on hb
  replace bz := bz.trans (hb.mono bz.size)
  clear hb
  have D7 := Blk.new w2 (Vu.all s R R).L 30
  obtain ⟨HD7, eHD7⟩ : ∃ H, w2.heap.size = H := ⟨_, rfl⟩
  rw [eHD7] at D7
  replace D5 := D5.on ((Below.refl _ _).alloc (Nat.le_refl _) (.cells (Vu.all s R R).L.toArray 30))
  replace hst := hst.on ((Below.refl _ _).alloc (Nat.le_refl _) (.cells (Vu.all s R R).L.toArray 30))
  replace bz := bz.alloc bz.size (.cells (Vu.all s R R).L.toArray 30)
  have HHD7 := Lib.hid eHD7
  go_wp2_with fail
  with_reducible refine (num_any _ _).mono ?_
  rintro e v3 ⟨rfl, rfl⟩
  go_wp2_with fail
  with_reducible refine (num_any _ _).mono ?_
  rintro e v4 ⟨rfl, rfl⟩
  go_wp2_with fail
  with_reducible refine (num_any _ _).mono ?_
  rintro e v5 ⟨rfl, rfl⟩
  go_wp2_with fail
  with_reducible refine (num_any _ _).mono ?_
  rintro e v6 ⟨rfl, rfl⟩
  go_wp2_with fail
  with_reducible refine (known_any _).mono ?_
  rintro e w7 ⟨rfl, hb⟩
  replace D5 := D5.on hb
  replace hst := hst.on hb
  replace D7 := D7.on hb
  replace bz := bz.trans (hb.mono bz.size)
  go_wp2_with fail
  go_ret
  exact ⟨rfl, bz⟩
set_option maxRecDepth 100000 in
set_option maxHeartbeats 8000000 in
theorem new_4 (bR : -9223372036854775808 ≤ R ∧ R ≤ 9223372036854775807) (bC : -9223372036854775808 ≤ C ∧ C ≤ 9223372036854775807) (h0 : 0 ≤ R) (h1 : R ≤ 512) (h2 : C < 0) (h3 : 40 < R) :
    Calls Try.prog 4 #[.int .i64 R, .int .i64 C] w (Ans w (.bool true)) := by
  have p1 := fun W => New_no (R := R) (C := C) (decide_eq_false (by omega)) W
  have p2 := fun W => Eye_yes (n := R) (decide_eq_true (by omega)) W
  have d1 : decide (0 ≤ C) = false := decide_eq_false (by omega)
  have bz := Below.refl w.heap.size w
  go_enter Try.func4, Try.ntmps4
  go_wp2_with fail
  with_reducible refine (p1 _).mono ?_
  rintro e w1 ⟨rfl, hb⟩
  replace bz := bz.trans (hb.mono bz.size)
  clear hb
  have D5 := Blk.new w1 (Vu.zero).L 30
  obtain ⟨HD5, eHD5⟩ : ∃ H, w1.heap.size = H := ⟨_, rfl⟩
  rw [eHD5] at D5
  replace bz := bz.alloc bz.size (.cells (Vu.zero).L.toArray 30)
  have HHD5 := Lib.hid eHD5
  have hqD7 := bz.size
  go_wp2_with fail
  with_reducible refine (p2 _).mono ?_
  rintro e w2 ⟨s, g, cap, rfl, hst, hb⟩
  replace D5 := D5.on hb
  replace bz := bz.trans (hb.mono bz.size)
  clear hb
  have D7 := Blk.new w2 (Vu.all s R R).L 30
  obtain ⟨HD7, eHD7⟩ : ∃ H, w2.heap.size = H := ⟨_, rfl⟩
  rw [eHD7] at D7
  replace D5 := D5.on ((Below.refl _ _).alloc (Nat.le_refl _) (.cells (Vu.all s R R).L.toArray 30))
  replace hst := hst.on ((Below.refl _ _).alloc (Nat.le_refl _) (.cells (Vu.all s R R).L.toArray 30))
  replace bz := bz.alloc bz.size (.cells (Vu.all s R R).L.toArray 30)
  have HHD7 := Lib.hid eHD7
  go_wp2_with fail
  with_reducible refine (num_any _ _).mono ?_
  rintro e v3 ⟨rfl, rfl⟩
  go_wp2_with fail
  with_reducible refine (num_any _ _).mono ?_
  rintro e v4 ⟨rfl, rfl⟩
  go_wp2_with fail
  with_reducible refine (num_any _ _).mono ?_
  rintro e v5 ⟨rfl, rfl⟩
  go_wp2_with fail
  with_reducible refine (num_any _ _).mono ?_
  rintro e v6 ⟨rfl, rfl⟩
  go_wp2_with fail
  with_reducible refine (known_any _).mono ?_
  rintro e w7 ⟨rfl, hb⟩
  replace D5 := D5.on hb
  replace hst := hst.on hb
  replace D7 := D7.on hb
  replace bz := bz.trans (hb.mono bz.size)
  go_wp2_with fail
  go_ret
  exact ⟨rfl, bz⟩
set_option maxRecDepth 100000 in
set_option maxHeartbeats 8000000 in
theorem new_5 (bR : -9223372036854775808 ≤ R ∧ R ≤ 9223372036854775807) (bC : -9223372036854775808 ≤ C ∧ C ≤ 9223372036854775807) (h0 : 0 ≤ R) (h1 : R ≤ 512) (h4 : 0 ≤ C) (h2 : 512 < C) (h3 : R ≤ 40) :
    Calls Try.prog 4 #[.int .i64 R, .int .i64 C] w (Ans w (.bool true)) := by
  have p1 := fun W => New_no (R := R) (C := C) (decide_eq_false (by omega)) W
  have p2 := fun W => Eye_yes (n := R) (decide_eq_true (by omega)) W
  have d1 : decide (C ≤ 512) = false := decide_eq_false (by omega)
  have d2 : decide (40 < R) = false := decide_eq_false (by omega)
  have d3 : decide (C < 0) = false := decide_eq_false (by omega)
  have bz := Below.refl w.heap.size w
  go_enter Try.func4, Try.ntmps4
  go_wp2_with fail
  with_reducible refine (p1 _).mono ?_
  rintro e w1 ⟨rfl, hb⟩
  replace bz := bz.trans (hb.mono bz.size)
  clear hb
  have D5 := Blk.new w1 (Vu.zero).L 30
  obtain ⟨HD5, eHD5⟩ : ∃ H, w1.heap.size = H := ⟨_, rfl⟩
  rw [eHD5] at D5
  replace bz := bz.alloc bz.size (.cells (Vu.zero).L.toArray 30)
  have HHD5 := Lib.hid eHD5
  have hqD7 := bz.size
  go_wp2_with fail
  with_reducible refine (p2 _).mono ?_
  rintro e w2 ⟨s, g, cap, rfl, hst, hb⟩
  replace D5 := D5.on hb
  replace bz := bz.trans (hb.mono bz.size)
  clear hb
  have D7 := Blk.new w2 (Vu.all s R R).L 30
  obtain ⟨HD7, eHD7⟩ : ∃ H, w2.heap.size = H := ⟨_, rfl⟩
  rw [eHD7] at D7
  replace D5 := D5.on ((Below.refl _ _).alloc (Nat.le_refl _) (.cells (Vu.all s R R).L.toArray 30))
  replace hst := hst.on ((Below.refl _ _).alloc (Nat.le_refl _) (.cells (Vu.all s R R).L.toArray 30))
  replace bz := bz.alloc bz.size (.cells (Vu.all s R R).L.toArray 30)
  have HHD7 := Lib.hid eHD7
  go_wp2_with fail
  with_reducible refine (num_any _ _).mono ?_
  rintro e v3 ⟨rfl, rfl⟩
  go_wp2_with fail
  with_reducible refine (num_any _ _).mono ?_
  rintro e v4 ⟨rfl, rfl⟩
  go_wp2_with fail
  with_reducible refine (num_any _ _).mono ?_
  rintro e v5 ⟨rfl, rfl⟩
  go_wp2_with fail
  with_reducible refine (num_any _ _).mono ?_
  rintro e v6 ⟨rfl, rfl⟩
  go_wp2_with fail
  with_reducible refine (known_any _).mono ?_
  rintro e w7 ⟨rfl, hb⟩
  replace D5 := D5.on hb
  replace hst := hst.on hb
  replace D7 := D7.on hb
  replace bz := bz.trans (hb.mono bz.size)
  go_wp2_with fail
  go_ret
  exact ⟨rfl, bz⟩
set_option maxRecDepth 100000 in
set_option maxHeartbeats 8000000 in
theorem new_6 (bR : -9223372036854775808 ≤ R ∧ R ≤ 9223372036854775807) (bC : -9223372036854775808 ≤ C ∧ C ≤ 9223372036854775807) (h0 : 0 ≤ R) (h1 : R ≤ 512) (h4 : 0 ≤ C) (h2 : 512 < C) (h3 : 40 < R) :
    Calls Try.prog 4 #[.int .i64 R, .int .i64 C] w (Ans w (.bool true)) := by
  have p1 := fun W => New_no (R := R) (C := C) (decide_eq_false (by omega)) W
  have p2 := fun W => Eye_yes (n := R) (decide_eq_true (by omega)) W
  have d1 : decide (C ≤ 512) = false := decide_eq_false (by omega)
  have d2 : decide (C < 0) = false := decide_eq_false (by omega)
  have bz := Below.refl w.heap.size w
  go_enter Try.func4, Try.ntmps4
  go_wp2_with fail
  with_reducible refine (p1 _).mono ?_
  rintro e w1 ⟨rfl, hb⟩
  replace bz := bz.trans (hb.mono bz.size)
  clear hb
  have D5 := Blk.new w1 (Vu.zero).L 30
  obtain ⟨HD5, eHD5⟩ : ∃ H, w1.heap.size = H := ⟨_, rfl⟩
  rw [eHD5] at D5
  replace bz := bz.alloc bz.size (.cells (Vu.zero).L.toArray 30)
  have HHD5 := Lib.hid eHD5
  have hqD7 := bz.size
  go_wp2_with fail
  with_reducible refine (p2 _).mono ?_
  rintro e w2 ⟨s, g, cap, rfl, hst, hb⟩
  replace D5 := D5.on hb
  replace bz := bz.trans (hb.mono bz.size)
  clear hb
  have D7 := Blk.new w2 (Vu.all s R R).L 30
  obtain ⟨HD7, eHD7⟩ : ∃ H, w2.heap.size = H := ⟨_, rfl⟩
  rw [eHD7] at D7
  replace D5 := D5.on ((Below.refl _ _).alloc (Nat.le_refl _) (.cells (Vu.all s R R).L.toArray 30))
  replace hst := hst.on ((Below.refl _ _).alloc (Nat.le_refl _) (.cells (Vu.all s R R).L.toArray 30))
  replace bz := bz.alloc bz.size (.cells (Vu.all s R R).L.toArray 30)
  have HHD7 := Lib.hid eHD7
  go_wp2_with fail
  with_reducible refine (num_any _ _).mono ?_
  rintro e v3 ⟨rfl, rfl⟩
  go_wp2_with fail
  with_reducible refine (num_any _ _).mono ?_
  rintro e v4 ⟨rfl, rfl⟩
  go_wp2_with fail
  with_reducible refine (num_any _ _).mono ?_
  rintro e v5 ⟨rfl, rfl⟩
  go_wp2_with fail
  with_reducible refine (num_any _ _).mono ?_
  rintro e v6 ⟨rfl, rfl⟩
  go_wp2_with fail
  with_reducible refine (known_any _).mono ?_
  rintro e w7 ⟨rfl, hb⟩
  replace D5 := D5.on hb
  replace hst := hst.on hb
  replace D7 := D7.on hb
  replace bz := bz.trans (hb.mono bz.size)
  go_wp2_with fail
  go_ret
  exact ⟨rfl, bz⟩
set_option maxRecDepth 100000 in
set_option maxHeartbeats 8000000 in
theorem new_7 (bR : -9223372036854775808 ≤ R ∧ R ≤ 9223372036854775807) (bC : -9223372036854775808 ≤ C ∧ C ≤ 9223372036854775807) (h0 : 0 ≤ R) (h1 : R ≤ 512) (h2 : 0 ≤ C) (h3 : C ≤ 512) (h4 : 40 < R) :
    Calls Try.prog 4 #[.int .i64 R, .int .i64 C] w (Ans w (.bool true)) := by
  have p1 := fun W => New_yes (R := R) (C := C) (decide_eq_true (by omega)) W
  have p2 := fun W => Eye_yes (n := R) (decide_eq_true (by omega)) W
  have d1 : decide (C < 0) = false := decide_eq_false (by omega)
  have d2 : decide (512 < C) = false := decide_eq_false (by omega)
  have bz := Below.refl w.heap.size w
  go_enter Try.func4, Try.ntmps4
  have hqD5 := bz.size
  go_wp2_with fail
  with_reducible refine (p1 _).mono ?_
  rintro e w1 ⟨s0, g0, cap0, rfl, hst0, hb⟩
  replace bz := bz.trans (hb.mono bz.size)
  clear hb
  have D5 := Blk.new w1 (Vu.all s0 R C).L 30
  obtain ⟨HD5, eHD5⟩ : ∃ H, w1.heap.size = H := ⟨_, rfl⟩
  rw [eHD5] at D5
  replace hst0 := hst0.on ((Below.refl _ _).alloc (Nat.le_refl _) (.cells (Vu.all s0 R C).L.toArray 30))
  replace bz := bz.alloc bz.size (.cells (Vu.all s0 R C).L.toArray 30)
  have HHD5 := Lib.hid eHD5
  have hqD7 := bz.size
  go_wp2_with fail
  with_reducible refine (p2 _).mono ?_
  rintro e w2 ⟨s, g, cap, rfl, hst, hb⟩
  replace hst0 := hst0.on hb
  replace D5 := D5.on hb
  replace bz := bz.trans (hb.mono bz.size)
  clear hb
  have D7 := Blk.new w2 (Vu.all s R R).L 30
  obtain ⟨HD7, eHD7⟩ : ∃ H, w2.heap.size = H := ⟨_, rfl⟩
  rw [eHD7] at D7
  replace hst0 := hst0.on ((Below.refl _ _).alloc (Nat.le_refl _) (.cells (Vu.all s R R).L.toArray 30))
  replace D5 := D5.on ((Below.refl _ _).alloc (Nat.le_refl _) (.cells (Vu.all s R R).L.toArray 30))
  replace hst := hst.on ((Below.refl _ _).alloc (Nat.le_refl _) (.cells (Vu.all s R R).L.toArray 30))
  replace bz := bz.alloc bz.size (.cells (Vu.all s R R).L.toArray 30)
  have HHD7 := Lib.hid eHD7
  go_wp2_with fail
  with_reducible refine (num_any _ _).mono ?_
  rintro e v3 ⟨rfl, rfl⟩
  go_wp2_with fail
  with_reducible refine (num_any _ _).mono ?_
  rintro e v4 ⟨rfl, rfl⟩
  go_wp2_with fail
  with_reducible refine (num_any _ _).mono ?_
  rintro e v5 ⟨rfl, rfl⟩
  go_wp2_with fail
  with_reducible refine (num_any _ _).mono ?_
  rintro e v6 ⟨rfl, rfl⟩
  go_wp2_with fail
  with_reducible refine (known_any _).mono ?_
  rintro e w7 ⟨rfl, hb⟩
  replace hst0 := hst0.on hb
  replace D5 := D5.on hb
  replace hst := hst.on hb
  replace D7 := D7.on hb
  replace bz := bz.trans (hb.mono bz.size)
  go_wp2_with fail
  go_ret
  exact ⟨rfl, bz⟩
set_option maxRecDepth 100000 in
set_option maxHeartbeats 8000000 in
theorem new_8 (bR : -9223372036854775808 ≤ R ∧ R ≤ 9223372036854775807) (bC : -9223372036854775808 ≤ C ∧ C ≤ 9223372036854775807) (h0 : 0 ≤ R) (h1 : R ≤ 512) (h2 : 0 ≤ C) (h3 : C ≤ 512) (h4 : R ≤ 40) (h5 : 40 < C) :
    Calls Try.prog 4 #[.int .i64 R, .int .i64 C] w (Ans w (.bool true)) := by
  have p1 := fun W => New_yes (R := R) (C := C) (decide_eq_true (by omega)) W
  have p2 := fun W => Eye_yes (n := R) (decide_eq_true (by omega)) W
  have d1 : decide (40 < R) = false := decide_eq_false (by omega)
  have d2 : decide (C < 0) = false := decide_eq_false (by omega)
  have d3 : decide (512 < C) = false := decide_eq_false (by omega)
  have bz := Below.refl w.heap.size w
  go_enter Try.func4, Try.ntmps4
  have hqD5 := bz.size
  go_wp2_with fail
  with_reducible refine (p1 _).mono ?_
  rintro e w1 ⟨s0, g0, cap0, rfl, hst0, hb⟩
  replace bz := bz.trans (hb.mono bz.size)
  clear hb
  have D5 := Blk.new w1 (Vu.all s0 R C).L 30
  obtain ⟨HD5, eHD5⟩ : ∃ H, w1.heap.size = H := ⟨_, rfl⟩
  rw [eHD5] at D5
  replace hst0 := hst0.on ((Below.refl _ _).alloc (Nat.le_refl _) (.cells (Vu.all s0 R C).L.toArray 30))
  replace bz := bz.alloc bz.size (.cells (Vu.all s0 R C).L.toArray 30)
  have HHD5 := Lib.hid eHD5
  have hqD7 := bz.size
  go_wp2_with fail
  with_reducible refine (p2 _).mono ?_
  rintro e w2 ⟨s, g, cap, rfl, hst, hb⟩
  replace hst0 := hst0.on hb
  replace D5 := D5.on hb
  replace bz := bz.trans (hb.mono bz.size)
  clear hb
  have D7 := Blk.new w2 (Vu.all s R R).L 30
  obtain ⟨HD7, eHD7⟩ : ∃ H, w2.heap.size = H := ⟨_, rfl⟩
  rw [eHD7] at D7
  replace hst0 := hst0.on ((Below.refl _ _).alloc (Nat.le_refl _) (.cells (Vu.all s R R).L.toArray 30))
  replace D5 := D5.on ((Below.refl _ _).alloc (Nat.le_refl _) (.cells (Vu.all s R R).L.toArray 30))
  replace hst := hst.on ((Below.refl _ _).alloc (Nat.le_refl _) (.cells (Vu.all s R R).L.toArray 30))
  replace bz := bz.alloc bz.size (.cells (Vu.all s R R).L.toArray 30)
  have HHD7 := Lib.hid eHD7
  go_wp2_with fail
  with_reducible refine (num_any _ _).mono ?_
  rintro e v3 ⟨rfl, rfl⟩
  go_wp2_with fail
  with_reducible refine (num_any _ _).mono ?_
  rintro e v4 ⟨rfl, rfl⟩
  go_wp2_with fail
  with_reducible refine (num_any _ _).mono ?_
  rintro e v5 ⟨rfl, rfl⟩
  go_wp2_with fail
  with_reducible refine (num_any _ _).mono ?_
  rintro e v6 ⟨rfl, rfl⟩
  go_wp2_with fail
  with_reducible refine (known_any _).mono ?_
  rintro e w7 ⟨rfl, hb⟩
  replace hst0 := hst0.on hb
  replace D5 := D5.on hb
  replace hst := hst.on hb
  replace D7 := D7.on hb
  replace bz := bz.trans (hb.mono bz.size)
  go_wp2_with fail
  go_ret
  exact ⟨rfl, bz⟩
set_option maxRecDepth 100000 in
set_option maxHeartbeats 8000000 in
theorem new_9 (bR : -9223372036854775808 ≤ R ∧ R ≤ 9223372036854775807) (bC : -9223372036854775808 ≤ C ∧ C ≤ 9223372036854775807) (h0 : 0 ≤ R) (h1 : R ≤ 512) (h2 : 0 ≤ C) (h3 : C ≤ 512) (h4 : R ≤ 40) (h5 : C ≤ 40) :
    Calls Try.prog 4 #[.int .i64 R, .int .i64 C] w (Ans w (.bool true)) := by
  have p1 := fun W => New_yes (R := R) (C := C) (decide_eq_true (by omega)) W
  have p2 := fun W => Eye_yes (n := R) (decide_eq_true (by omega)) W
  have d1 : decide (40 < R) = false := decide_eq_false (by omega)
  have d2 : decide (C < 0) = false := decide_eq_false (by omega)
  have d3 : decide (512 < C) = false := decide_eq_false (by omega)
  have d4 : decide (40 < C) = false := decide_eq_false (by omega)
  have bz := Below.refl w.heap.size w
  go_enter Try.func4, Try.ntmps4
  have hqD5 := bz.size
  go_wp2_with fail
  with_reducible refine (p1 _).mono ?_
  rintro e w1 ⟨s0, g0, cap0, rfl, hst0, hb⟩
  replace bz := bz.trans (hb.mono bz.size)
  clear hb
  have D5 := Blk.new w1 (Vu.all s0 R C).L 30
  obtain ⟨HD5, eHD5⟩ : ∃ H, w1.heap.size = H := ⟨_, rfl⟩
  rw [eHD5] at D5
  replace hst0 := hst0.on ((Below.refl _ _).alloc (Nat.le_refl _) (.cells (Vu.all s0 R C).L.toArray 30))
  replace bz := bz.alloc bz.size (.cells (Vu.all s0 R C).L.toArray 30)
  have HHD5 := Lib.hid eHD5
  have hqD7 := bz.size
  go_wp2_with fail
  with_reducible refine (p2 _).mono ?_
  rintro e w2 ⟨s, g, cap, rfl, hst, hb⟩
  replace hst0 := hst0.on hb
  replace D5 := D5.on hb
  replace bz := bz.trans (hb.mono bz.size)
  clear hb
  have D7 := Blk.new w2 (Vu.all s R R).L 30
  obtain ⟨HD7, eHD7⟩ : ∃ H, w2.heap.size = H := ⟨_, rfl⟩
  rw [eHD7] at D7
  replace hst0 := hst0.on ((Below.refl _ _).alloc (Nat.le_refl _) (.cells (Vu.all s R R).L.toArray 30))
  replace D5 := D5.on ((Below.refl _ _).alloc (Nat.le_refl _) (.cells (Vu.all s R R).L.toArray 30))
  replace hst := hst.on ((Below.refl _ _).alloc (Nat.le_refl _) (.cells (Vu.all s R R).L.toArray 30))
  replace bz := bz.alloc bz.size (.cells (Vu.all s R R).L.toArray 30)
  have HHD7 := Lib.hid eHD7
  go_wp2_with fail
  with_reducible refine (num_any _ _).mono ?_
  rintro e v3 ⟨rfl, rfl⟩
  go_wp2_with fail
  with_reducible refine (num_any _ _).mono ?_
  rintro e v4 ⟨rfl, rfl⟩
  go_wp2_with fail
  with_reducible refine (num_any _ _).mono ?_
  rintro e v5 ⟨rfl, rfl⟩
  go_wp2_with fail
  with_reducible refine (num_any _ _).mono ?_
  rintro e v6 ⟨rfl, rfl⟩
  obtain ⟨B0, hsn0⟩ : ∃ B, St _ B s0 g0 cap0 _ _ := ⟨_, hst0⟩
  obtain ⟨B1, hsn⟩ : ∃ B, St _ B s g cap _ _ := ⟨_, hst⟩
  clear hst0 hst
  have hst0 := hsn0
  have hst := hsn
  clear hsn0 hsn
  obtain ⟨n, rfl⟩ : ∃ n : Nat, R = (n : Int) := ⟨R.toNat, by omega⟩
  have hn : n ≤ 40 := by omega
  have P0 : 0 ≤ (n : Int) * C := Int.mul_nonneg (by omega) h2
  have P1 : (n : Int) * C ≤ 40 * 40 := Int.mul_le_mul (by omega) (by omega) (by omega) (by omega)
  obtain ⟨N, hN⟩ : ∃ N : Nat, (n : Int) * C = (N : Int) := ⟨((n : Int) * C).toNat, by omega⟩
  rw [hN] at P0 P1
  rw [hN, Int.toNat_natCast] at hst0
  have hV0 := Lib.hid (show Vk (Vu.all s0 n C) s0 C.toNat N 1 from all_vk s0 (by omega) (by omega) h2 (by omega) hN.symm)
  have hfl0 := Lib.hid (show (Vu.all s0 n C).fl C.toNat (List.replicate N 0) = List.replicate N 0 from all_fl s0 (by omega) (by omega) h2 (by omega) (by rw [List.length_replicate]; exact hN.symm))
  have hEl : (eyeL n).length = n * n := by unfold eyeL Vu.fillL; rw [setTo_len, List.length_replicate, Int.toNat_mul (by omega) (by omega)]; rfl
  have hVE : Vk (Vu.all s n n) s (n : Int).toNat (eyeL n).length 1 := by rw [hEl]; exact all_vk s (by omega) (by omega) (by omega) (by omega) (by push_cast; rfl)
  obtain ⟨EL, hELe⟩ : ∃ L, eyeL n = L := ⟨_, rfl⟩
  have HAT := Lib.hid (show ∀ i j : Nat, i < n → j < n → (Vu.all s n n).at_ n EL i j = if i = j then 4607182418800017408 else 0 from fun i j hi hj => by rw [← hELe]; exact eye_at s hn hi hj)
  rw [hELe] at hst hVE
  clear hELe hEl
  have HVE := Lib.hid hVE
  clear hVE
  have HN := Lib.hid hN
  clear hN
  have o1 := o_one
  have o0 := o_zero
  have H0 := Lib.hid (And.intro P0 P1)
  clear P0 P1
  rw [Int.toNat_natCast] at hst
  go_wp2_with fail
  go_loopw [10] (fun i wr => ∃ a : Nat, a ≤ n ∧ i = .int .i64 a ∧ Vbx wr HD5 (Vu.all s0 n C) ∧ Vbx wr HD7 (Vu.all s n n) ∧ St wr B0 s0 g0 cap0 C.toNat (List.replicate N 0) ∧ St wr B1 s g cap n EL ∧ Below w.heap.size w wr) (fun i _ => n - (intOf i).toNat)
  case atStart => exact ⟨0, Nat.zero_le _, rfl, D5, D7, hst0, hst, bz⟩
  case round =>
    clear D5 D7 hst0 hst bz
    obtain ⟨a, ha, rfl, D5, D7, hst0, hst, bz⟩ := hrel
    by_cases hla : a < n
    · go_wp2_with fail
      go_loopw [11] (fun j wr => ∃ b : Nat, b ≤ n ∧ j = .int .i64 b ∧ Vbx wr HD5 (Vu.all s0 n C) ∧ Vbx wr HD7 (Vu.all s n n) ∧ St wr B0 s0 g0 cap0 C.toNat (List.replicate N 0) ∧ St wr B1 s g cap n EL ∧ Below w.heap.size w wr) (fun j _ => n - (intOf j).toNat)
      case atStart => exact ⟨0, Nat.zero_le _, rfl, D5, D7, hst0, hst, bz⟩
      case round =>
        clear D5 D7 hst0 hst bz
        obtain ⟨b, hb9, rfl, D5, D7, hst0, hst, bz⟩ := hrel
        by_cases hlb : b < n
        · by_cases hab : a = b
          · subst hab
            have pA : ∀ (W : World) (h : St W B1 s g cap n EL), Calls Try.prog 25 #[(Vu.all s n n).V, .int .i64 (a : Int), .int .i64 (a : Int)] W (Ans W (.float .f64 4607182418800017408)) := fun W h => by have := At_any h (by have h9 := HVE.out; rwa [Int.toNat_natCast] at h9) (a : Int) (a : Int); rw [HAT.out a a hla (by omega), if_pos rfl] at this; exact this
            obtain ⟨cD7_0, cD7_1, cD7_2, cD7_3, cD7_4, cD7_5, cD7_6, cD7_7, cD7_8⟩ := Vbx.cells D7
            go_wp2_with fail
            with_reducible refine (pA _ hst).mono ?_
            rintro e w7 ⟨rfl, hb⟩
            replace hst0 := hst0.on hb
            replace D5 := D5.on hb
            replace hst := hst.on hb
            replace D7 := D7.on hb
            replace bz := bz.trans (hb.mono bz.size)
            clear hb cD7_0 cD7_1 cD7_2 cD7_3 cD7_4 cD7_5 cD7_6 cD7_7 cD7_8
            go_wp2_with fail
            go_roundw
            case rel => exact ⟨a + 1, by omega, by go_num, D5, D7, hst0, hst, bz⟩
            case measure => simp [intOf]; omega
          · have pA : ∀ (W : World) (h : St W B1 s g cap n EL), Calls Try.prog 25 #[(Vu.all s n n).V, .int .i64 (a : Int), .int .i64 (b : Int)] W (Ans W (.float .f64 0)) := fun W h => by have := At_any h (by have h9 := HVE.out; rwa [Int.toNat_natCast] at h9) (a : Int) (b : Int); rw [HAT.out a b hla (by omega), if_neg hab] at this; exact this
            have e1 : ((a : Int) == (b : Int)) = false := by simp; omega
            have e2 : ((a : Int) != (b : Int)) = true := by simp; omega
            have pB : ∀ W, Calls Try.prog 26 #[.float .f64 0] W fun e w' => e = .returned (.int .u64 0) ∧ W = w' := fun W => by have := rbits_any (x := 0) (by omega) (by omega) W; rw [one_zero] at this; exact this
            clear hab
            obtain ⟨cD7_0, cD7_1, cD7_2, cD7_3, cD7_4, cD7_5, cD7_6, cD7_7, cD7_8⟩ := Vbx.cells D7
            go_wp2_with fail
            with_reducible refine (pA _ hst).mono ?_
            rintro e w7 ⟨rfl, hb⟩
            replace hst0 := hst0.on hb
            replace D5 := D5.on hb
            replace hst := hst.on hb
            replace D7 := D7.on hb
            replace bz := bz.trans (hb.mono bz.size)
            clear hb cD7_0 cD7_1 cD7_2 cD7_3 cD7_4 cD7_5 cD7_6 cD7_7 cD7_8
            obtain ⟨cD7_0, cD7_1, cD7_2, cD7_3, cD7_4, cD7_5, cD7_6, cD7_7, cD7_8⟩ := Vbx.cells D7
            go_wp2_with fail
            with_reducible refine (pA _ hst).mono ?_
            rintro e w8 ⟨rfl, hb⟩
            replace hst0 := hst0.on hb
            replace D5 := D5.on hb
            replace hst := hst.on hb
            replace D7 := D7.on hb
            replace bz := bz.trans (hb.mono bz.size)
            clear hb cD7_0 cD7_1 cD7_2 cD7_3 cD7_4 cD7_5 cD7_6 cD7_7 cD7_8
            go_wp2_with fail
            with_reducible refine (pB _).mono ?_
            rintro e v7 ⟨rfl, rfl⟩
            go_wp2_with fail
            go_roundw
            case rel => exact ⟨b + 1, by omega, by go_num, D5, D7, hst0, hst, bz⟩
            case measure => simp [intOf]; omega
        · obtain rfl : b = n := by omega
          go_wp2_with fail
          go_roundw
          case rel => exact ⟨a + 1, by omega, by go_num, D5, D7, hst0, hst, bz⟩
          case measure => simp [intOf]; omega
    · obtain rfl : a = n := by omega
      obtain ⟨P0, P1⟩ := H0.out
      have hN := HN.out
      have hwN : IntKind.i64.wrap (N : Int) = N := (IntWalk.i64_left _).trans (IntWalk.wrap64_in _ (by omega))
      have hmk := run_makeF N (by omega)
      have hNb : N ≤ 1600 := by omega
      go_wp2_with fail
      replace D5 := D5.drew
      replace D7 := D7.drew
      replace hst0 := hst0.drew
      replace hst := hst.drew
      replace bz := bz.drew
      refine wp_region_held_drew (S := fun w9 : World => Vbx w9 HD5 (Vu.all s0 a C) ∧ Vbx w9 HD7 (Vu.all s a a)) (by kernel_rfl) ⟨D5, D7⟩ (fun hS => ?_)
      generalize wr.drew = W1 at hS D5 D7 hst0 hst  bz ⊢
      refine wpAnyH_take (i := 0) (v := ?v0_1) rfl (by kernel_rfl) (by kernel_rfl) (by kernel_rfl) (fun _ _ _ h => h) (Or.inl ⟨by rfl, ?hy0_1⟩) (by assumption) ?rest0_1
      case hy0_1 => (intro w9 hSw; obtain ⟨sv, sw⟩ := hSw; obtain ⟨k0, k1, k2, k3, k4, k5, k6, k7, k8⟩ := Vbx.cells sv; obtain ⟨q0, q1, q2, q3, q4, q5, q6, q7, q8⟩ := Vbx.cells sw; go_simp; try with_reducible rfl)
      try simp only [Act.put, List.setIfInBounds_toArray, List.set_cons_zero, List.set_cons_succ, List.getElem_toArray, List.getElem_cons_zero, List.getElem_cons_succ]
      refine wpAnyH_take (i := 2) (v := ?v2_2) rfl (by kernel_rfl) (by kernel_rfl) (by kernel_rfl) (fun _ _ _ h => h) (Or.inl ⟨by rfl, ?hy2_2⟩) (by assumption) ?rest2_2
      case hy2_2 => (intro w9 hSw; clear hSw; go_simp; try with_reducible rfl)
      try simp only [Act.put, List.setIfInBounds_toArray, List.set_cons_zero, List.set_cons_succ, List.getElem_toArray, List.getElem_cons_zero, List.getElem_cons_succ]
      refine wpAnyH_take (i := 3) (v := ?v3_3) rfl (by kernel_rfl) (by kernel_rfl) (by kernel_rfl) (fun _ _ _ h => h) (Or.inl ⟨by rfl, ?hy3_3⟩) (by assumption) ?rest3_3
      case hy3_3 => (intro w9 hSw; clear hSw; go_simp; try with_reducible rfl)
      try simp only [Act.put, List.setIfInBounds_toArray, List.set_cons_zero, List.set_cons_succ, List.getElem_toArray, List.getElem_cons_zero, List.getElem_cons_succ]
      refine wpAnyH_take (i := 4) (v := ?v4_4) rfl (by kernel_rfl) (by kernel_rfl) (by kernel_rfl) (fun _ _ _ h => h) (Or.inl ⟨by rfl, ?hy4_4⟩) (by assumption) ?rest4_4
      case hy4_4 => (intro w9 hSw; clear hSw; go_simp; try with_reducible rfl)
      try simp only [Act.put, List.setIfInBounds_toArray, List.set_cons_zero, List.set_cons_succ, List.getElem_toArray, List.getElem_cons_zero, List.getElem_cons_succ]
      refine wpAnyH_take (i := 5) (v := ?v5_5) rfl (by kernel_rfl) (by kernel_rfl) (by kernel_rfl) (fun _ _ _ h => h) (Or.inl ⟨by rfl, ?hy5_5⟩) (by assumption) ?rest5_5
      case hy5_5 => (intro w9 hSw; clear hSw; go_simp; try with_reducible rfl)
      try simp only [Act.put, List.setIfInBounds_toArray, List.set_cons_zero, List.set_cons_succ, List.getElem_toArray, List.getElem_cons_zero, List.getElem_cons_succ]
      refine wpAnyH_take (i := 6) (v := ?v6_6) rfl (by kernel_rfl) (by kernel_rfl) (by kernel_rfl) (fun _ _ _ h => h) (Or.inl ⟨by rfl, ?hy6_6⟩) (by assumption) ?rest6_6
      case hy6_6 => (intro w9 hSw; clear hSw; go_simp; try with_reducible rfl)
      try simp only [Act.put, List.setIfInBounds_toArray, List.set_cons_zero, List.set_cons_succ, List.getElem_toArray, List.getElem_cons_zero, List.getElem_cons_succ]
      refine wpAnyH_ready (rs := [1, 7]) (by kernel_rfl) (by simp) ?_
      refine (AllReadyH.cons rfl (fun K hK => ?_) (AllReadyH.cons rfl (fun K hK => ?_) AllReadyH.nil))
      · go_simp
        with_reducible refine (Matrix_fl hV0.out (fun _ => ⟨hst0, List.length_replicate⟩)).mono ?_
        rintro e w7 ⟨A7, c7, rfl, hX, hb⟩
        replace D5 := D5.on hb
        replace D7 := D7.on hb
        replace hst0 := hst0.on hb
        replace hst := hst.on hb
        replace bz := bz.trans (hb.mono bz.size)
        clear hb
        simp only [hfl0.out, List.length_replicate] at hX ⊢
        refine hK.out _ _ ⟨D5, D7⟩ (fun hH => ?_)
        clear hK K hS
        have hS := hH
        clear hH
        try simp only [Act.put, List.setIfInBounds_toArray, List.set_cons_zero, List.set_cons_succ, List.getElem_toArray, List.getElem_cons_zero, List.getElem_cons_succ]
        refine wpAnyH_ready (rs := [7]) (by kernel_rfl) (by simp) ?_
        refine AllReadyH.cons rfl (fun K hK => ?_) AllReadyH.nil
        go_simp
        have hY : FL (w7.alloc (.cells (LF (List.replicate N 0)).toArray 37)) (some ⟨w7.heap.size, 0, none⟩) N N (List.replicate N 0) := ⟨List.length_replicate, by have h9 := own_new w7 (List.replicate N 0) (by rw [List.length_replicate]; omega) (B := 0) (Nat.zero_le _); rw [List.length_replicate] at h9; exact h9.nums, wd_zeros N⟩
        replace D5 := D5.on ((Below.refl _ _).alloc (Nat.le_refl _) (.cells (LF (List.replicate N 0)).toArray 37))
        replace D7 := D7.on ((Below.refl _ _).alloc (Nat.le_refl _) (.cells (LF (List.replicate N 0)).toArray 37))
        replace hst0 := hst0.on ((Below.refl _ _).alloc (Nat.le_refl _) (.cells (LF (List.replicate N 0)).toArray 37))
        replace hst := hst.on ((Below.refl _ _).alloc (Nat.le_refl _) (.cells (LF (List.replicate N 0)).toArray 37))
        replace hX := hX.on ((Below.refl _ _).alloc (Nat.le_refl _) (.cells (LF (List.replicate N 0)).toArray 37))
        replace bz := bz.alloc bz.size (.cells (LF (List.replicate N 0)).toArray 37)
        refine hK.out _ _ ⟨D5, D7⟩ (fun hH => ?_)
        clear hK K hS
        have hS := hH
        clear hH
        try simp only [Act.put, List.setIfInBounds_toArray, List.set_cons_zero, List.set_cons_succ, List.getElem_toArray, List.getElem_cons_zero, List.getElem_cons_succ]
        refine wpAnyH_take (i := 8) (v := ?v8_7) rfl (by kernel_rfl) (by kernel_rfl) (by kernel_rfl) (fun _ _ _ h => h) (Or.inl ⟨by rfl, ?hy8_7⟩) (by assumption) ?rest8_7
        case hy8_7 => (intro w9 hSw; clear hSw; go_simp; try with_reducible rfl)
        try simp only [Act.put, List.setIfInBounds_toArray, List.set_cons_zero, List.set_cons_succ, List.getElem_toArray, List.getElem_cons_zero, List.getElem_cons_succ]
        refine wpAnyH_ready (rs := [9]) (by kernel_rfl) (by simp) ?_
        refine AllReadyH.cons rfl (fun K hK => ?_) AllReadyH.nil
        go_simp
        with_reducible refine (SameM_true hX hY).mono ?_
        rintro e w9 ⟨rfl, hb⟩
        replace D5 := D5.on hb
        replace D7 := D7.on hb
        replace hst0 := hst0.on hb
        replace hst := hst.on hb
        replace hX := hX.on hb
        replace hY := hY.on hb
        replace bz := bz.trans (hb.mono bz.size)
        clear hb hX hY
        refine hK.out _ _ ⟨D5, D7⟩ (fun hH => ?_)
        clear hK K hS
        have hS := hH
        clear hH
        try simp only [Act.put, List.setIfInBounds_toArray, List.set_cons_zero, List.set_cons_succ, List.getElem_toArray, List.getElem_cons_zero, List.getElem_cons_succ]
        refine wpAnyH_take (i := 10) (v := ?v10_8) rfl (by kernel_rfl) (by kernel_rfl) (by kernel_rfl) (fun _ _ _ h => h) (Or.inl ⟨by rfl, ?hy10_8⟩) (by assumption) ?rest10_8
        case hy10_8 => (intro w9 hSw; clear hSw; go_simp; try with_reducible rfl)
        try simp only [Act.put, List.setIfInBounds_toArray, List.set_cons_zero, List.set_cons_succ, List.getElem_toArray, List.getElem_cons_zero, List.getElem_cons_succ]
        refine wpAnyH_take (i := 11) (v := ?v11_9) rfl (by kernel_rfl) (by kernel_rfl) (by kernel_rfl) (fun _ _ _ h => h) (Or.inl ⟨by rfl, ?hy11_9⟩) (by assumption) ?rest11_9
        case hy11_9 => (intro w9 hSw; obtain ⟨sv, sw⟩ := hSw; obtain ⟨k0, k1, k2, k3, k4, k5, k6, k7, k8⟩ := Vbx.cells sv; obtain ⟨q0, q1, q2, q3, q4, q5, q6, q7, q8⟩ := Vbx.cells sw; go_simp; try with_reducible rfl)
        try simp only [Act.put, List.setIfInBounds_toArray, List.set_cons_zero, List.set_cons_succ, List.getElem_toArray, List.getElem_cons_zero, List.getElem_cons_succ]
        refine wpAnyH_take (i := 13) (v := ?v13_10) rfl (by kernel_rfl) (by kernel_rfl) (by kernel_rfl) (fun _ _ _ h => h) (Or.inl ⟨by rfl, ?hy13_10⟩) (by assumption) ?rest13_10
        case hy13_10 => (intro w9 hSw; clear hSw; go_simp; try with_reducible rfl)
        try simp only [Act.put, List.setIfInBounds_toArray, List.set_cons_zero, List.set_cons_succ, List.getElem_toArray, List.getElem_cons_zero, List.getElem_cons_succ]
        refine wpAnyH_ready (rs := [12]) (by kernel_rfl) (by simp) ?_
        refine AllReadyH.cons rfl (fun K hK => ?_) AllReadyH.nil
        go_simp
        with_reducible refine (Rows_any (Vu.all s a a) _).mono ?_
        rintro e w10 ⟨rfl, hb⟩
        replace D5 := D5.on hb
        replace D7 := D7.on hb
        replace hst0 := hst0.on hb
        replace hst := hst.on hb
        replace bz := bz.trans (hb.mono bz.size)
        clear hb
        refine hK.out _ _ ⟨D5, D7⟩ (fun hH => ?_)
        clear hK K hS
        have hS := hH
        clear hH
        try simp only [Act.put, List.setIfInBounds_toArray, List.set_cons_zero, List.set_cons_succ, List.getElem_toArray, List.getElem_cons_zero, List.getElem_cons_succ]
        refine wpAnyH_take (i := 14) (v := ?v14_11) rfl (by kernel_rfl) (by kernel_rfl) (by kernel_rfl) (fun _ _ _ h => h) (Or.inl ⟨by rfl, ?hy14_11⟩) (by assumption) ?rest14_11
        case hy14_11 => (intro w9 hSw; clear hSw; go_simp; try with_reducible rfl)
        try simp only [Act.put, List.setIfInBounds_toArray, List.set_cons_zero, List.set_cons_succ, List.getElem_toArray, List.getElem_cons_zero, List.getElem_cons_succ]
        refine wpAnyH_take (i := 15) (v := ?v15_12) rfl (by kernel_rfl) (by kernel_rfl) (by kernel_rfl) (fun _ _ _ h => h) (Or.inl ⟨by rfl, ?hy15_12⟩) (by assumption) ?rest15_12
        case hy15_12 => (intro w9 hSw; clear hSw; go_simp; try with_reducible rfl)
        try simp only [Act.put, List.setIfInBounds_toArray, List.set_cons_zero, List.set_cons_succ, List.getElem_toArray, List.getElem_cons_zero, List.getElem_cons_succ]
        refine wpAnyH_take (i := 16) (v := ?v16_13) rfl (by kernel_rfl) (by kernel_rfl) (by kernel_rfl) (fun _ _ _ h => h) (Or.inl ⟨by rfl, ?hy16_13⟩) (by assumption) ?rest16_13
        case hy16_13 => (intro w9 hSw; clear hSw; go_simp; try with_reducible rfl)
        try simp only [Act.put, List.setIfInBounds_toArray, List.set_cons_zero, List.set_cons_succ, List.getElem_toArray, List.getElem_cons_zero, List.getElem_cons_succ]
        refine wpAnyH_take (i := 17) (v := ?v17_14) rfl (by kernel_rfl) (by kernel_rfl) (by kernel_rfl) (fun _ _ _ h => h) (Or.inl ⟨by rfl, ?hy17_14⟩) (by assumption) ?rest17_14
        case hy17_14 => (intro w9 hSw; obtain ⟨sv, sw⟩ := hSw; obtain ⟨k0, k1, k2, k3, k4, k5, k6, k7, k8⟩ := Vbx.cells sv; obtain ⟨q0, q1, q2, q3, q4, q5, q6, q7, q8⟩ := Vbx.cells sw; go_simp; try with_reducible rfl)
        try simp only [Act.put, List.setIfInBounds_toArray, List.set_cons_zero, List.set_cons_succ, List.getElem_toArray, List.getElem_cons_zero, List.getElem_cons_succ]
        refine wpAnyH_take (i := 19) (v := ?v19_15) rfl (by kernel_rfl) (by kernel_rfl) (by kernel_rfl) (fun _ _ _ h => h) (Or.inl ⟨by rfl, ?hy19_15⟩) (by assumption) ?rest19_15
        case hy19_15 => (intro w9 hSw; clear hSw; go_simp; try with_reducible rfl)
        try simp only [Act.put, List.setIfInBounds_toArray, List.set_cons_zero, List.set_cons_succ, List.getElem_toArray, List.getElem_cons_zero, List.getElem_cons_succ]
        refine wpAnyH_ready (rs := [18]) (by kernel_rfl) (by simp) ?_
        refine AllReadyH.cons rfl (fun K hK => ?_) AllReadyH.nil
        go_simp
        with_reducible refine (Cols_any (Vu.all s a a) _).mono ?_
        rintro e w11 ⟨rfl, hb⟩
        replace D5 := D5.on hb
        replace D7 := D7.on hb
        replace hst0 := hst0.on hb
        replace hst := hst.on hb
        replace bz := bz.trans (hb.mono bz.size)
        clear hb
        refine hK.out _ _ ⟨D5, D7⟩ (fun hH => ?_)
        clear hK K hS
        have hS := hH
        clear hH
        try simp only [Act.put, List.setIfInBounds_toArray, List.set_cons_zero, List.set_cons_succ, List.getElem_toArray, List.getElem_cons_zero, List.getElem_cons_succ]
        refine wpAnyH_take (i := 20) (v := ?v20_16) rfl (by kernel_rfl) (by kernel_rfl) (by kernel_rfl) (fun _ _ _ h => h) (Or.inl ⟨by rfl, ?hy20_16⟩) (by assumption) ?rest20_16
        case hy20_16 => (intro w9 hSw; clear hSw; go_simp; try with_reducible rfl)
        try simp only [Act.put, List.setIfInBounds_toArray, List.set_cons_zero, List.set_cons_succ, List.getElem_toArray, List.getElem_cons_zero, List.getElem_cons_succ]
        refine wpAnyH_take (i := 21) (v := ?v21_17) rfl (by kernel_rfl) (by kernel_rfl) (by kernel_rfl) (fun _ _ _ h => h) (Or.inl ⟨by rfl, ?hy21_17⟩) (by assumption) ?rest21_17
        case hy21_17 => (intro w9 hSw; clear hSw; go_simp; try with_reducible rfl)
        try simp only [Act.put, List.setIfInBounds_toArray, List.set_cons_zero, List.set_cons_succ, List.getElem_toArray, List.getElem_cons_zero, List.getElem_cons_succ]
        refine wpAnyH_take (i := 22) (v := ?v22_18) rfl (by kernel_rfl) (by kernel_rfl) (by kernel_rfl) (fun _ _ _ h => h) (Or.inl ⟨by rfl, ?hy22_18⟩) (by assumption) ?rest22_18
        case hy22_18 => (intro w9 hSw; clear hSw; go_simp; try with_reducible rfl)
        try simp only [Act.put, List.setIfInBounds_toArray, List.set_cons_zero, List.set_cons_succ, List.getElem_toArray, List.getElem_cons_zero, List.getElem_cons_succ]
        refine wpAnyH_ready (rs := [23]) (by kernel_rfl) (by simp) ?_
        refine AllReadyH.cons rfl (fun K hK => ?_) AllReadyH.nil
        go_simp
        with_reducible refine (known_any _).mono ?_
        rintro e w12 ⟨rfl, hb⟩
        replace D5 := D5.on hb
        replace D7 := D7.on hb
        replace hst0 := hst0.on hb
        replace hst := hst.on hb
        replace bz := bz.trans (hb.mono bz.size)
        clear hb
        refine hK.out _ _ ⟨D5, D7⟩ (fun hH => ?_)
        clear hK K hS
        have hS := hH
        clear hH
        try simp only [Act.put, List.setIfInBounds_toArray, List.set_cons_zero, List.set_cons_succ, List.getElem_toArray, List.getElem_cons_zero, List.getElem_cons_succ]
        refine wpAnyH_take (i := 24) (v := ?v24_19) rfl (by kernel_rfl) (by kernel_rfl) (by kernel_rfl) (fun _ _ _ h => h) (Or.inl ⟨by rfl, ?hy24_19⟩) (by assumption) ?rest24_19
        case hy24_19 => (intro w9 hSw; clear hSw; go_simp; try with_reducible rfl)
        try simp only [Act.put, List.setIfInBounds_toArray, List.set_cons_zero, List.set_cons_succ, List.getElem_toArray, List.getElem_cons_zero, List.getElem_cons_succ]
        refine wpAnyH_take (i := 25) (v := ?v25_20) rfl (by kernel_rfl) (by kernel_rfl) (by kernel_rfl) (fun _ _ _ h => h) (Or.inl ⟨by rfl, ?hy25_20⟩) (by assumption) ?rest25_20
        case hy25_20 => (intro w9 hSw; clear hSw; go_simp; try with_reducible rfl)
        try simp only [Act.put, List.setIfInBounds_toArray, List.set_cons_zero, List.set_cons_succ, List.getElem_toArray, List.getElem_cons_zero, List.getElem_cons_succ]
        refine wpAnyH_done (by kernel_rfl) ?_ _
        go_wp2_with fail
        go_ret
        exact ⟨rfl, bz⟩
      · go_simp
        have hY : FL (W1.alloc (.cells (LF (List.replicate N 0)).toArray 37)) (some ⟨W1.heap.size, 0, none⟩) N N (List.replicate N 0) := ⟨List.length_replicate, by have h9 := own_new W1 (List.replicate N 0) (by rw [List.length_replicate]; omega) (B := 0) (Nat.zero_le _); rw [List.length_replicate] at h9; exact h9.nums, wd_zeros N⟩
        replace D5 := D5.on ((Below.refl _ _).alloc (Nat.le_refl _) (.cells (LF (List.replicate N 0)).toArray 37))
        replace D7 := D7.on ((Below.refl _ _).alloc (Nat.le_refl _) (.cells (LF (List.replicate N 0)).toArray 37))
        replace hst0 := hst0.on ((Below.refl _ _).alloc (Nat.le_refl _) (.cells (LF (List.replicate N 0)).toArray 37))
        replace hst := hst.on ((Below.refl _ _).alloc (Nat.le_refl _) (.cells (LF (List.replicate N 0)).toArray 37))
        replace bz := bz.alloc bz.size (.cells (LF (List.replicate N 0)).toArray 37)
        refine hK.out _ _ ⟨D5, D7⟩ (fun hH => ?_)
        clear hK K hS
        have hS := hH
        clear hH
        try simp only [Act.put, List.setIfInBounds_toArray, List.set_cons_zero, List.set_cons_succ, List.getElem_toArray, List.getElem_cons_zero, List.getElem_cons_succ]
        refine wpAnyH_take (i := 8) (v := ?v8_21) rfl (by kernel_rfl) (by kernel_rfl) (by kernel_rfl) (fun _ _ _ h => h) (Or.inl ⟨by rfl, ?hy8_21⟩) (by assumption) ?rest8_21
        case hy8_21 => (intro w9 hSw; clear hSw; go_simp; try with_reducible rfl)
        try simp only [Act.put, List.setIfInBounds_toArray, List.set_cons_zero, List.set_cons_succ, List.getElem_toArray, List.getElem_cons_zero, List.getElem_cons_succ]
        refine wpAnyH_ready (rs := [1]) (by kernel_rfl) (by simp) ?_
        refine AllReadyH.cons rfl (fun K hK => ?_) AllReadyH.nil
        go_simp
        with_reducible refine (Matrix_fl hV0.out (fun _ => ⟨hst0, List.length_replicate⟩)).mono ?_
        rintro e w8 ⟨A7, c7, rfl, hX, hb⟩
        replace D5 := D5.on hb
        replace D7 := D7.on hb
        replace hst0 := hst0.on hb
        replace hst := hst.on hb
        replace hY := hY.on hb
        replace bz := bz.trans (hb.mono bz.size)
        clear hb
        simp only [hfl0.out, List.length_replicate] at hX ⊢
        refine hK.out _ _ ⟨D5, D7⟩ (fun hH => ?_)
        clear hK K hS
        have hS := hH
        clear hH
        try simp only [Act.put, List.setIfInBounds_toArray, List.set_cons_zero, List.set_cons_succ, List.getElem_toArray, List.getElem_cons_zero, List.getElem_cons_succ]
        refine wpAnyH_ready (rs := [9]) (by kernel_rfl) (by simp) ?_
        refine AllReadyH.cons rfl (fun K hK => ?_) AllReadyH.nil
        go_simp
        with_reducible refine (SameM_true hX hY).mono ?_
        rintro e w9 ⟨rfl, hb⟩
        replace D5 := D5.on hb
        replace D7 := D7.on hb
        replace hst0 := hst0.on hb
        replace hst := hst.on hb
        replace hY := hY.on hb
        replace hX := hX.on hb
        replace bz := bz.trans (hb.mono bz.size)
        clear hb hX hY
        refine hK.out _ _ ⟨D5, D7⟩ (fun hH => ?_)
        clear hK K hS
        have hS := hH
        clear hH
        try simp only [Act.put, List.setIfInBounds_toArray, List.set_cons_zero, List.set_cons_succ, List.getElem_toArray, List.getElem_cons_zero, List.getElem_cons_succ]
        refine wpAnyH_take (i := 10) (v := ?v10_22) rfl (by kernel_rfl) (by kernel_rfl) (by kernel_rfl) (fun _ _ _ h => h) (Or.inl ⟨by rfl, ?hy10_22⟩) (by assumption) ?rest10_22
        case hy10_22 => (intro w9 hSw; clear hSw; go_simp; try with_reducible rfl)
        try simp only [Act.put, List.setIfInBounds_toArray, List.set_cons_zero, List.set_cons_succ, List.getElem_toArray, List.getElem_cons_zero, List.getElem_cons_succ]
        refine wpAnyH_take (i := 11) (v := ?v11_23) rfl (by kernel_rfl) (by kernel_rfl) (by kernel_rfl) (fun _ _ _ h => h) (Or.inl ⟨by rfl, ?hy11_23⟩) (by assumption) ?rest11_23
        case hy11_23 => (intro w9 hSw; obtain ⟨sv, sw⟩ := hSw; obtain ⟨k0, k1, k2, k3, k4, k5, k6, k7, k8⟩ := Vbx.cells sv; obtain ⟨q0, q1, q2, q3, q4, q5, q6, q7, q8⟩ := Vbx.cells sw; go_simp; try with_reducible rfl)
        try simp only [Act.put, List.setIfInBounds_toArray, List.set_cons_zero, List.set_cons_succ, List.getElem_toArray, List.getElem_cons_zero, List.getElem_cons_succ]
        refine wpAnyH_take (i := 13) (v := ?v13_24) rfl (by kernel_rfl) (by kernel_rfl) (by kernel_rfl) (fun _ _ _ h => h) (Or.inl ⟨by rfl, ?hy13_24⟩) (by assumption) ?rest13_24
        case hy13_24 => (intro w9 hSw; clear hSw; go_simp; try with_reducible rfl)
        try simp only [Act.put, List.setIfInBounds_toArray, List.set_cons_zero, List.set_cons_succ, List.getElem_toArray, List.getElem_cons_zero, List.getElem_cons_succ]
        refine wpAnyH_ready (rs := [12]) (by kernel_rfl) (by simp) ?_
        refine AllReadyH.cons rfl (fun K hK => ?_) AllReadyH.nil
        go_simp
        with_reducible refine (Rows_any (Vu.all s a a) _).mono ?_
        rintro e w10 ⟨rfl, hb⟩
        replace D5 := D5.on hb
        replace D7 := D7.on hb
        replace hst0 := hst0.on hb
        replace hst := hst.on hb
        replace bz := bz.trans (hb.mono bz.size)
        clear hb
        refine hK.out _ _ ⟨D5, D7⟩ (fun hH => ?_)
        clear hK K hS
        have hS := hH
        clear hH
        try simp only [Act.put, List.setIfInBounds_toArray, List.set_cons_zero, List.set_cons_succ, List.getElem_toArray, List.getElem_cons_zero, List.getElem_cons_succ]
        refine wpAnyH_take (i := 14) (v := ?v14_25) rfl (by kernel_rfl) (by kernel_rfl) (by kernel_rfl) (fun _ _ _ h => h) (Or.inl ⟨by rfl, ?hy14_25⟩) (by assumption) ?rest14_25
        case hy14_25 => (intro w9 hSw; clear hSw; go_simp; try with_reducible rfl)
        try simp only [Act.put, List.setIfInBounds_toArray, List.set_cons_zero, List.set_cons_succ, List.getElem_toArray, List.getElem_cons_zero, List.getElem_cons_succ]
        refine wpAnyH_take (i := 15) (v := ?v15_26) rfl (by kernel_rfl) (by kernel_rfl) (by kernel_rfl) (fun _ _ _ h => h) (Or.inl ⟨by rfl, ?hy15_26⟩) (by assumption) ?rest15_26
        case hy15_26 => (intro w9 hSw; clear hSw; go_simp; try with_reducible rfl)
        try simp only [Act.put, List.setIfInBounds_toArray, List.set_cons_zero, List.set_cons_succ, List.getElem_toArray, List.getElem_cons_zero, List.getElem_cons_succ]
        refine wpAnyH_take (i := 16) (v := ?v16_27) rfl (by kernel_rfl) (by kernel_rfl) (by kernel_rfl) (fun _ _ _ h => h) (Or.inl ⟨by rfl, ?hy16_27⟩) (by assumption) ?rest16_27
        case hy16_27 => (intro w9 hSw; clear hSw; go_simp; try with_reducible rfl)
        try simp only [Act.put, List.setIfInBounds_toArray, List.set_cons_zero, List.set_cons_succ, List.getElem_toArray, List.getElem_cons_zero, List.getElem_cons_succ]
        refine wpAnyH_take (i := 17) (v := ?v17_28) rfl (by kernel_rfl) (by kernel_rfl) (by kernel_rfl) (fun _ _ _ h => h) (Or.inl ⟨by rfl, ?hy17_28⟩) (by assumption) ?rest17_28
        case hy17_28 => (intro w9 hSw; obtain ⟨sv, sw⟩ := hSw; obtain ⟨k0, k1, k2, k3, k4, k5, k6, k7, k8⟩ := Vbx.cells sv; obtain ⟨q0, q1, q2, q3, q4, q5, q6, q7, q8⟩ := Vbx.cells sw; go_simp; try with_reducible rfl)
        try simp only [Act.put, List.setIfInBounds_toArray, List.set_cons_zero, List.set_cons_succ, List.getElem_toArray, List.getElem_cons_zero, List.getElem_cons_succ]
        refine wpAnyH_take (i := 19) (v := ?v19_29) rfl (by kernel_rfl) (by kernel_rfl) (by kernel_rfl) (fun _ _ _ h => h) (Or.inl ⟨by rfl, ?hy19_29⟩) (by assumption) ?rest19_29
        case hy19_29 => (intro w9 hSw; clear hSw; go_simp; try with_reducible rfl)
        try simp only [Act.put, List.setIfInBounds_toArray, List.set_cons_zero, List.set_cons_succ, List.getElem_toArray, List.getElem_cons_zero, List.getElem_cons_succ]
        refine wpAnyH_ready (rs := [18]) (by kernel_rfl) (by simp) ?_
        refine AllReadyH.cons rfl (fun K hK => ?_) AllReadyH.nil
        go_simp
        with_reducible refine (Cols_any (Vu.all s a a) _).mono ?_
        rintro e w11 ⟨rfl, hb⟩
        replace D5 := D5.on hb
        replace D7 := D7.on hb
        replace hst0 := hst0.on hb
        replace hst := hst.on hb
        replace bz := bz.trans (hb.mono bz.size)
        clear hb
        refine hK.out _ _ ⟨D5, D7⟩ (fun hH => ?_)
        clear hK K hS
        have hS := hH
        clear hH
        try simp only [Act.put, List.setIfInBounds_toArray, List.set_cons_zero, List.set_cons_succ, List.getElem_toArray, List.getElem_cons_zero, List.getElem_cons_succ]
        refine wpAnyH_take (i := 20) (v := ?v20_30) rfl (by kernel_rfl) (by kernel_rfl) (by kernel_rfl) (fun _ _ _ h => h) (Or.inl ⟨by rfl, ?hy20_30⟩) (by assumption) ?rest20_30
        case hy20_30 => (intro w9 hSw; clear hSw; go_simp; try with_reducible rfl)
        try simp only [Act.put, List.setIfInBounds_toArray, List.set_cons_zero, List.set_cons_succ, List.getElem_toArray, List.getElem_cons_zero, List.getElem_cons_succ]
        refine wpAnyH_take (i := 21) (v := ?v21_31) rfl (by kernel_rfl) (by kernel_rfl) (by kernel_rfl) (fun _ _ _ h => h) (Or.inl ⟨by rfl, ?hy21_31⟩) (by assumption) ?rest21_31
        case hy21_31 => (intro w9 hSw; clear hSw; go_simp; try with_reducible rfl)
        try simp only [Act.put, List.setIfInBounds_toArray, List.set_cons_zero, List.set_cons_succ, List.getElem_toArray, List.getElem_cons_zero, List.getElem_cons_succ]
        refine wpAnyH_take (i := 22) (v := ?v22_32) rfl (by kernel_rfl) (by kernel_rfl) (by kernel_rfl) (fun _ _ _ h => h) (Or.inl ⟨by rfl, ?hy22_32⟩) (by assumption) ?rest22_32
        case hy22_32 => (intro w9 hSw; clear hSw; go_simp; try with_reducible rfl)
        try simp only [Act.put, List.setIfInBounds_toArray, List.set_cons_zero, List.set_cons_succ, List.getElem_toArray, List.getElem_cons_zero, List.getElem_cons_succ]
        refine wpAnyH_ready (rs := [23]) (by kernel_rfl) (by simp) ?_
        refine AllReadyH.cons rfl (fun K hK => ?_) AllReadyH.nil
        go_simp
        with_reducible refine (known_any _).mono ?_
        rintro e w12 ⟨rfl, hb⟩
        replace D5 := D5.on hb
        replace D7 := D7.on hb
        replace hst0 := hst0.on hb
        replace hst := hst.on hb
        replace bz := bz.trans (hb.mono bz.size)
        clear hb
        refine hK.out _ _ ⟨D5, D7⟩ (fun hH => ?_)
        clear hK K hS
        have hS := hH
        clear hH
        try simp only [Act.put, List.setIfInBounds_toArray, List.set_cons_zero, List.set_cons_succ, List.getElem_toArray, List.getElem_cons_zero, List.getElem_cons_succ]
        refine wpAnyH_take (i := 24) (v := ?v24_33) rfl (by kernel_rfl) (by kernel_rfl) (by kernel_rfl) (fun _ _ _ h => h) (Or.inl ⟨by rfl, ?hy24_33⟩) (by assumption) ?rest24_33
        case hy24_33 => (intro w9 hSw; clear hSw; go_simp; try with_reducible rfl)
        try simp only [Act.put, List.setIfInBounds_toArray, List.set_cons_zero, List.set_cons_succ, List.getElem_toArray, List.getElem_cons_zero, List.getElem_cons_succ]
        refine wpAnyH_take (i := 25) (v := ?v25_34) rfl (by kernel_rfl) (by kernel_rfl) (by kernel_rfl) (fun _ _ _ h => h) (Or.inl ⟨by rfl, ?hy25_34⟩) (by assumption) ?rest25_34
        case hy25_34 => (intro w9 hSw; clear hSw; go_simp; try with_reducible rfl)
        try simp only [Act.put, List.setIfInBounds_toArray, List.set_cons_zero, List.set_cons_succ, List.getElem_toArray, List.getElem_cons_zero, List.getElem_cons_succ]
        refine wpAnyH_done (by kernel_rfl) ?_ _
        go_wp2_with fail
        go_ret
        exact ⟨rfl, bz⟩
theorem law_new (bR : -9223372036854775808 ≤ R ∧ R ≤ 9223372036854775807) (bC : -9223372036854775808 ≤ C ∧ C ≤ 9223372036854775807) :
    Calls Try.prog 4 #[.int .i64 R, .int .i64 C] w (Ans w (.bool true)) := by
  rcases Int.lt_or_le R 0 with h0 | h0
  · exact new_1 bR bC h0
  · rcases Int.lt_or_le 512 R with h1 | h1
    · exact new_2 bR bC h0 h1
    · rcases Int.lt_or_le C 0 with h2 | h2
      · rcases Int.lt_or_le 40 R with h3 | h3
        · exact new_4 bR bC h0 h1 h2 h3
        · exact new_3 bR bC h0 h1 h2 h3
      · rcases Int.lt_or_le 512 C with h3 | h3
        · rcases Int.lt_or_le 40 R with h4 | h4
          · exact new_6 bR bC h0 h1 h2 h3 h4
          · exact new_5 bR bC h0 h1 h2 h3 h4
        · rcases Int.lt_or_le 40 R with h4 | h4
          · exact new_7 bR bC h0 h1 h2 h3 h4
          · rcases Int.lt_or_le 40 C with h5 | h5
            · exact new_8 bR bC h0 h1 h2 h3 h4 h5
            · exact new_9 bR bC h0 h1 h2 h3 h4 h5
end
end Go.Proofs.Ytceoefgjjekgaaa
