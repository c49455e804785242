/-
  Layer 4, walks, part eight: quotients of exact numbers: how many bits, brought to enough of them, rounded. Layer 4, walks, part nine: quotients of exact numbers. Layer 4, walks, part ten: roots of exact numbers.
-/
import Derived.Test.YtfjellhbcjnjkaaGreatDoorSDyU
import Derived.Test.YtfjellhbcjnjkaaGreatDoorSgA
import Derived.Deep.RegionHeld
import Derived.IntWalk
import Derived.Laws.Bits128
namespace Go.Proofs.YtfjellhbcjnjkaaGreatDoor
open Go.RowKit Go.Sort Go.Bw
set_option linter.unusedVariables false
set_option linter.unusedSimpArgs false

section
variable {b : Bool} {A : Option Addr} {n c : Nat} {x : Int} {l : List Int} {w : World}
set_option maxRecDepth 100000 in
set_option maxHeartbeats 4000000 in
theorem bitsOf_is (h : Lv w A n c l) (hn : n ≤ 4096) {k : Nat} (HK : Hid (IsBits (val 18446744073709551616 l) k)) :
    Calls Tryz.prog 47 #[dyV b A n c x] w fun e w' => e = .returned (.int .i64 k) ∧ Below w.heap.size w w' := by
  have PB := Blk.new w [.bool b, .slice A n c, .int .i64 x] 35
  have bw : Below w.heap.size w (w.alloc (.cells #[.bool b, .slice A n c, .int .i64 x] 35)) := by go_grown
  have PB_0 := Blk.cell PB 0 rfl
  have PB_1 := Blk.cell PB 1 rfl
  have PB_2 := Blk.cell PB 2 rfl
  have PB_f0 := Blk.free PB 0
  have PB_f1 := Blk.free PB 1
  have PB_f2 := Blk.free PB 2
  go_enter Tryz.func47, Tryz.ntmps47
  go_wp2_with fail
  with_reducible refine (Bits_is (h.on (by go_grown)) hn HK.out).mono ?_
  rintro e w0 ⟨rfl, rfl⟩
  go_wp2_with fail
  go_ret
  exact ⟨rfl, by go_grown⟩

/-- brought to enough bits, cut off below 1; what is lost -/
def bro (v up : Int) : Int := if up < 0 then v / 2 ^ (-up).toNat else v * 2 ^ up.toNat
def broL (v up : Int) : Bool := if up < 0 then lostB v (-up).toNat else false
def BroP (v up : Int) (w : World) (e : Ending) (w' : World) : Prop :=
  ∃ s A c, e = .returned (.tuple #[.slice A s.length c, .bool (broL v up)]) ∧ Normal s ∧ Hid (val 18446744073709551616 s = bro v up) ∧ Lv w' A s.length c s ∧ Below w.heap.size w w'
set_option maxRecDepth 100000 in
set_option maxHeartbeats 4000000 in
theorem brought_neg (h : Lv w A n c l) (hn : n ≤ 4096) (hT : Tab w) (up : Int) (hu : up < 0) (hu2 : -262144 ≤ up) :
    Calls Tryz.prog 48 #[.slice A n c, .int .i64 up] w (BroP (val 18446744073709551616 l) up w) := by
  have bw : Below w.heap.size w w := Below.refl _ _
  have e1 : -up = (((-up).toNat : Nat) : Int) := by omega
  obtain ⟨L9, hL⟩ : ∃ L, lostB (val 18446744073709551616 l) (-up).toNat = L := ⟨_, rfl⟩
  have e2 : broL (val 18446744073709551616 l) up = L9 := by unfold broL; rw [if_pos hu]; exact hL
  have e3 : bro (val 18446744073709551616 l) up = val 18446744073709551616 l / 2 ^ (-up).toNat := by unfold bro; rw [if_pos hu]
  have d0 : decide (up < 0) = true := by simp; omega
  unfold BroP
  rw [e2, e3]
  have ps := Shr_at h hn hT (-up).toNat _ rfl (by omega) L9 hL
  generalize (-up).toNat = j at *
  clear hL e2 e3
  go_enter Tryz.func48, Tryz.ntmps48
  go_wp2_with fail
  with_reducible refine (ps).mono ?_
  rintro e w1 ⟨s2, A2, c2, rfl, n2, v2, m2, hb⟩
  have hs1 := hb.size
  try simp only [World.size_alloc, World.size_setCell] at hs1
  replace bw : Below w.heap.size w w1 := dy_end (by go_grown) hb
  clear hb
  go_wp2_with fail
  go_ret2
  exact ⟨s2, A2, c2, rfl, n2, v2, m2, by go_grown⟩

set_option maxRecDepth 100000 in
set_option maxHeartbeats 4000000 in
theorem brought_pos (h : Lv w A n c l) (hn : n ≤ 60) (up : Int) (hu : 0 ≤ up) (hu2 : up ≤ 5000) :
    Calls Tryz.prog 48 #[.slice A n c, .int .i64 up] w (BroP (val 18446744073709551616 l) up w) := by
  have bw : Below w.heap.size w w := Below.refl _ _
  obtain ⟨j, rfl⟩ := Int.eq_ofNat_of_zero_le hu
  have e2 : broL (val 18446744073709551616 l) (j : Int) = false := by unfold broL; rw [if_neg (by omega)]
  have e3 : bro (val 18446744073709551616 l) (j : Int) = val 18446744073709551616 l * 2 ^ j := by unfold bro; rw [if_neg (by omega), Int.toNat_natCast]
  unfold BroP
  rw [e2, e3]
  have ps := Shl_val h hn j (by omega)
  clear e2 e3
  go_enter Tryz.func48, Tryz.ntmps48
  go_wp2_with fail
  with_reducible refine (ps).mono ?_
  rintro e w1 ⟨s2, A2, c2, rfl, n2, v2, ln2, m2, hb⟩
  have hs1 := hb.size
  try simp only [World.size_alloc, World.size_setCell] at hs1
  replace bw : Below w.heap.size w w1 := dy_end (by go_grown) hb
  clear hb
  go_wp2_with fail
  go_ret2
  exact ⟨s2, A2, c2, rfl, n2, v2, m2, by go_grown⟩

theorem brought_any (h : Lv w A n c l) (hn : n ≤ 60) (hT : Tab w) (up : Int) (hu : -262144 ≤ up) (hu2 : up ≤ 5000) :
    Calls Tryz.prog 48 #[.slice A n c, .int .i64 up] w (BroP (val 18446744073709551616 l) up w) := by
  rcases Int.lt_or_le up 0 with g | g
  · exact brought_neg h (by omega) hT up g hu
  · exact brought_pos h hn up g hu2
set_option maxRecDepth 100000 in
set_option maxHeartbeats 4000000 in
theorem srounded_any {T at_ : Int} {more : Bool} (h : Lv w A 1 c [T]) (t0 : 9007199254740992 ≤ T) (t1 : T < 18446744073709551616) :
    Calls Tryz.prog 50 #[.bool b, .slice A 1 c, .int .i64 at_, .bool more] w fun e w' => e = .returned (.tuple #[.float .f64 (signW b (rnd T at_ more)).toNat, .int .i64 0]) ∧ Below w.heap.size w w' := by
  have bw : Below w.heap.size w w := Below.refl _ _
  obtain ⟨ad, rfl, _, hcell⟩ := h.2.1.2.2 (by simp)
  have hc0 := hcell 0 (by simp)
  rw [show ad.add 0 = ad by simp [Addr.add], D_cons_zero] at hc0
  have hlt := World.block_lt_of_cell? _ _ hc0
  clear hcell h
  have hM : roundMay T at_ more = true := by unfold roundMay; rw [decide_eq_false (show ¬ T < 9007199254740992 by omega)]; simp
  have hB : 0 ≤ signW b (rnd T at_ more) := by have := rnd_bd T at_ more (by omega) (by omega); unfold signW; split <;> omega
  have p3 := fun W => round_yes b T at_ more (by omega) (by omega) hM W
  obtain ⟨z, hz⟩ : ∃ z, signW b (rnd T at_ more) = z := ⟨_, rfl⟩
  rw [hz] at p3 hB ⊢
  clear hz hM
  have p4 := fun W9 => float_any z W9
  go_enter Tryz.func50, Tryz.ntmps50
  go_wp2_with fail
  with_reducible refine (p3 _).mono ?_
  rintro e w1 ⟨rfl, hb⟩
  have hs1 := hb.size
  try simp only [World.size_alloc, World.size_setCell] at hs1
  replace bw : Below w.heap.size w w1 := dy_end (by go_grown) hb
  clear hb
  go_wp2_with fail
  with_reducible refine (p4 _).mono ?_
  rintro e w4 ⟨rfl, rfl⟩
  go_wp2_with fail
  go_ret2
  exact ⟨rfl, by go_grown⟩

end
end Go.Proofs.YtfjellhbcjnjkaaGreatDoor
namespace Go.Proofs.YtfjellhbcjnjkaaGreatDoor
open Go.RowKit Go.Sort Go.Bw
set_option linter.unusedVariables false
set_option linter.unusedSimpArgs false

theorem below_cell {W w : World} {p : Addr} {v : Value} (h : W.cell? p = some v) (hb : Below W.heap.size W w) : w.cell? p = some v := (hb.cell (World.block_lt_of_cell? _ _ h)).trans h
theorem quot_up (neg : Bool) (a b k1 k2 u : Nat) (E : Int) (hu : k1 + u = k2 + 63) (a1 : 2 ^ (k1 - 1) ≤ a) (a2 : a < 2 ^ k1) (b1 : 2 ^ (k2 - 1) ≤ b) (b2 : b < 2 ^ k2) (ha : 0 < k1) (hb : 0 < k2) :
    4611686018427387904 ≤ a * 2 ^ u / b ∧ a * 2 ^ u / b < 18446744073709551616 ∧ (signW neg (rnd ((a * 2 ^ u / b : Nat) : Int) (E - u) (decide (a * 2 ^ u % b ≠ 0)))).toNat = quotW neg a b E := by
  have pb : 0 < b := Nat.lt_of_lt_of_le (Nat.two_pow_pos _) b1
  have pa : 0 < a := Nat.lt_of_lt_of_le (Nat.two_pow_pos _) a1
  have t0 : 4611686018427387904 ≤ a * 2 ^ u / b := by
    rw [Nat.le_div_iff_mul_le pb]
    have h1 : 2 ^ (k1 - 1) * 2 ^ u ≤ a * 2 ^ u := Nat.mul_le_mul_right _ a1
    rw [← Nat.pow_add, show k1 - 1 + u = 62 + k2 by omega, Nat.pow_add] at h1
    exact Nat.le_trans (Nat.mul_le_mul_left _ (Nat.le_of_lt b2)) h1
  have t1 : a * 2 ^ u / b < 18446744073709551616 := by
    rw [Nat.div_lt_iff_lt_mul pb]
    have h1 : a * 2 ^ u < 2 ^ k1 * 2 ^ u := Nat.mul_lt_mul_of_pos_right a2 (Nat.two_pow_pos _)
    rw [← Nat.pow_add, show k1 + u = 64 + (k2 - 1) by omega, Nat.pow_add] at h1
    exact Nat.lt_of_lt_of_le h1 (Nat.mul_le_mul_left _ b1)
  refine ⟨t0, t1, ?_⟩
  have e := limb_rnd neg (a * 2 ^ u / b) (E - u) (decide (a * 2 ^ u % b ≠ 0)) (by omega) t1
  have q := quotW_is neg a b u 0 E pa pb (by rw [Nat.pow_zero, Nat.mul_one]; omega)
  rw [Nat.pow_zero, Nat.mul_one] at q
  rw [← e, ← q]
  unfold ratio
  rw [Int.toNat_natCast, show E - (u : Int) + ((0 : Nat) : Int) = E - u by omega]
  congr 2
  by_cases h : a * 2 ^ u % b = 0
  · simp [h]
  · simp [h]
theorem quot_down (neg : Bool) (a b k1 k2 j : Nat) (E : Int) (hu : k1 = k2 + 63 + j) (a1 : 2 ^ (k1 - 1) ≤ a) (a2 : a < 2 ^ k1) (b1 : 2 ^ (k2 - 1) ≤ b) (b2 : b < 2 ^ k2) (ha : 0 < k1) (hb : 0 < k2) :
    4611686018427387904 ≤ a / 2 ^ j / b ∧ a / 2 ^ j / b < 18446744073709551616 ∧ (signW neg (rnd ((a / 2 ^ j / b : Nat) : Int) (E + j) (decide (a % 2 ^ j ≠ 0) || decide (a / 2 ^ j % b ≠ 0)))).toNat = quotW neg a b E := by
  have pb : 0 < b := Nat.lt_of_lt_of_le (Nat.two_pow_pos _) b1
  have pa : 0 < a := Nat.lt_of_lt_of_le (Nat.two_pow_pos _) a1
  have pj := Nat.two_pow_pos j
  have pD : 0 < b * 2 ^ j := Nat.mul_pos pb pj
  have ed : a / 2 ^ j / b = a / (b * 2 ^ j) := by rw [Nat.div_div_eq_div_mul, Nat.mul_comm]
  have em : (decide (a % 2 ^ j ≠ 0) || decide (a / 2 ^ j % b ≠ 0)) = decide (a % (b * 2 ^ j) ≠ 0) := by
    rw [Nat.mul_comm b, Nat.mod_mul]
    generalize a / 2 ^ j % b = u
    generalize a % 2 ^ j = v
    rw [Bool.eq_iff_iff]
    simp only [Bool.or_eq_true, decide_eq_true_iff]
    constructor
    · rintro (h | h)
      · omega
      · intro h0
        have := Nat.mul_pos pj (Nat.pos_of_ne_zero h)
        omega
    · intro h
      by_cases hv : v = 0
      · right
        intro hu0
        apply h
        rw [hv, hu0]
        simp
      · exact .inl hv
  rw [em, ed]
  have t0 : 4611686018427387904 ≤ a / (b * 2 ^ j) := by
    rw [Nat.le_div_iff_mul_le pD]
    have h1 : b * 2 ^ j ≤ 2 ^ k2 * 2 ^ j := Nat.mul_le_mul_right _ (Nat.le_of_lt b2)
    rw [← Nat.pow_add] at h1
    have h2 : 4611686018427387904 * (b * 2 ^ j) ≤ 2 ^ 62 * 2 ^ (k2 + j) := Nat.mul_le_mul_left _ h1
    rw [← Nat.pow_add, show 62 + (k2 + j) = k1 - 1 by omega] at h2
    exact Nat.le_trans h2 a1
  have t1 : a / (b * 2 ^ j) < 18446744073709551616 := by
    rw [Nat.div_lt_iff_lt_mul pD]
    have h1 : 2 ^ (k2 - 1) * 2 ^ j ≤ b * 2 ^ j := Nat.mul_le_mul_right _ b1
    rw [← Nat.pow_add] at h1
    have h2 : 2 ^ 64 * 2 ^ (k2 - 1 + j) ≤ 18446744073709551616 * (b * 2 ^ j) := Nat.mul_le_mul_left _ h1
    rw [← Nat.pow_add, show 64 + (k2 - 1 + j) = k1 by omega] at h2
    exact Nat.lt_of_lt_of_le a2 h2
  refine ⟨t0, t1, ?_⟩
  have e := limb_rnd neg (a / (b * 2 ^ j)) (E + j) (decide (a % (b * 2 ^ j) ≠ 0)) (by omega) t1
  have q := quotW_is neg a b 0 j E pa pb (by rw [Nat.pow_zero, Nat.mul_one]; omega)
  rw [Nat.pow_zero, Nat.mul_one] at q
  rw [← e, ← q]
  unfold ratio
  rw [Int.toNat_natCast, show E - ((0 : Nat) : Int) + (j : Int) = E + j by omega]
  congr 2
  by_cases h : a % (b * 2 ^ j) = 0
  · simp [h]
  · simp [h]
theorem bits_nat {v : Int} {k : Nat} (h : IsBits v k) (hv : 0 < v) : ∃ a : Nat, v = a ∧ 2 ^ (k - 1) ≤ a ∧ a < 2 ^ k ∧ 0 < k := by
  obtain ⟨a, rfl⟩ := Int.eq_ofNat_of_zero_le (Int.le_of_lt hv)
  obtain ⟨_, h1, h2⟩ := h
  have hk : 0 < k := by
    rcases Nat.eq_zero_or_pos k with g | g
    · subst g; simp at h1; omega
    · exact g
  exact ⟨a, rfl, by exact_mod_cast h2 hk, by exact_mod_cast h1, hk⟩
theorem div_uniq {s q v r : Int} (hv : 0 < v) (hd : s = q * v + r) (r0 : 0 ≤ r) (r1 : r < v) : q = s / v ∧ r = s % v := by
  have h1 : s / v = q := by
    rw [hd, Int.add_comm, Int.add_mul_ediv_right _ _ (by omega), Int.ediv_eq_zero_of_lt r0 r1]
    omega
  have h2 : s % v = r := by
    rw [hd, Int.add_comm, Int.add_mul_emod_self_right, Int.emod_eq_of_lt r0 r1]
  exact ⟨h1.symm, h2.symm⟩
/-- the limb that the program divides to, rounded, is the quotient, rounded -/
theorem quot_word {v1 v2 q r s up : Int} {k1 k2 : Nat} (h1 : IsBits v1 k1) (h2 : IsBits v2 k2) (p1 : 0 < v1) (p2 : 0 < v2) (hup : up = k2 + 63 - k1) (hs : s = bro v1 up) (hd : s = q * v2 + r) (r0 : 0 ≤ r) (r1 : r < v2) :
    4611686018427387904 ≤ q ∧ q < 18446744073709551616 ∧ ∀ (neg : Bool) (E : Int), (signW neg (rnd q (E - up) (broL v1 up || decide (0 < r)))).toNat = quotW neg v1.toNat v2.toNat E := by
  obtain ⟨a, rfl, a1, a2, hk1⟩ := bits_nat h1 p1
  obtain ⟨b, rfl, b1, b2, hk2⟩ := bits_nat h2 p2
  obtain ⟨hq, hr⟩ := div_uniq p2 hd r0 r1
  rw [Int.toNat_natCast, Int.toNat_natCast]
  rcases Int.lt_or_le up 0 with g | g
  · obtain ⟨j, hj⟩ : ∃ j : Nat, (-up).toNat = j := ⟨_, rfl⟩
    have hs2 : s = ((a / 2 ^ j : Nat) : Int) := by rw [hs]; unfold bro; rw [if_pos g, hj]; push_cast; rfl
    have e := fun neg E => quot_down neg a b k1 k2 j E (by omega) a1 a2 b1 b2 hk1 hk2
    have hq2 : q = ((a / 2 ^ j / b : Nat) : Int) := by rw [hq, hs2]; push_cast; rfl
    have hr2 : r = ((a / 2 ^ j % b : Nat) : Int) := by rw [hr, hs2]; push_cast; rfl
    have e0 := e false 0
    refine ⟨by omega, by omega, fun neg E => ?_⟩
    rw [← (e neg E).2.2, ← hq2, show E - up = E + (j : Int) by omega]
    congr 3
    unfold broL lostB
    rw [if_pos g, hj, hr2]
    congr 1
    · refine decide_eq_decide.2 ?_
      have : ((a : Int) % 2 ^ j) = ((a % 2 ^ j : Nat) : Int) := by push_cast; rfl
      rw [this]
      omega
    · exact decide_eq_decide.2 (by omega)
  · obtain ⟨u, hu⟩ : ∃ u : Nat, up.toNat = u := ⟨_, rfl⟩
    have hs2 : s = ((a * 2 ^ u : Nat) : Int) := by rw [hs]; unfold bro; rw [if_neg (by omega), hu]; push_cast; rfl
    have e := fun neg E => quot_up neg a b k1 k2 u E (by omega) a1 a2 b1 b2 hk1 hk2
    have hq2 : q = ((a * 2 ^ u / b : Nat) : Int) := by rw [hq, hs2]; push_cast; rfl
    have hr2 : r = ((a * 2 ^ u % b : Nat) : Int) := by rw [hr, hs2]; push_cast; rfl
    have e0 := e false 0
    refine ⟨by omega, by omega, fun neg E => ?_⟩
    rw [← (e neg E).2.2, ← hq2, show E - up = E - (u : Int) by omega]
    congr 3
    unfold broL
    rw [if_neg (by omega), hr2, Bool.false_or]
    exact decide_eq_decide.2 (by omega)
theorem sgn_nz {d : Nf} (h : d.man ≠ 0) : (sgn d == 0) = false := by unfold sgn; rw [if_neg h]; split <;> decide
theorem rest_len {r : List Int} (hl : Lim 18446744073709551616 r) (hn : Normal r) : decide (0 < r.length) = decide (0 < val 18446744073709551616 r) := by
  refine decide_eq_decide.2 ⟨fun h => ?_, fun h => ?_⟩
  · have h0 := lim_val hl
    rcases Int.lt_or_le 0 (val 18446744073709551616 r) with g | g
    · exact g
    · have := val_eq_zero (b := 18446744073709551616) (by omega) hl hn (by omega)
      rw [this] at h
      simp at h
  · have := val_pos_len (l := r) (by omega)
    omega
theorem bro_len {s : List Int} {v1 v2 up : Int} {k1 k2 : Nat} (hl : Lim 18446744073709551616 s) (hn : Normal s) (hv : val 18446744073709551616 s = bro v1 up) (h1 : IsBits v1 k1) (h2 : IsBits v2 k2) (hup : up = k2 + 63 - k1) (hk : k2 ≤ 131072) : s.length ≤ 4096 := by
  refine length_le_of_lt (b := 18446744073709551616) (by omega) hl hn ?_
  rw [hv, pow64]
  have e1 := h1.1
  have e2 := h1.2.1
  unfold bro
  split
  · rename_i g
    have hp := Int.pow_pos (n := (2 : Int)) (m := (-up).toNat) (by omega)
    rw [Int.ediv_lt_iff_lt_mul hp, ← Int.pow_add]
    exact Int.lt_of_lt_of_le e2 (pw_mono (by omega))
  · rename_i g
    have hp := Int.pow_pos (n := (2 : Int)) (m := up.toNat) (by omega)
    have := Int.mul_lt_mul_of_pos_right e2 hp
    rw [← Int.pow_add] at this
    exact Int.lt_of_lt_of_le this (pw_mono (by omega))
section
variable {b : Bool} {A : Option Addr} {n c : Nat} {x : Int} {l : List Int} {w : World}
variable {b2 : Bool} {A2 : Option Addr} {n2 c2 : Nat} {x2 : Int} {l2 : List Int}
set_option maxRecDepth 100000 in
set_option maxHeartbeats 4000000 in
theorem quot_a (h : Lv w A n c l) (hn : n ≤ 4096) (h2 : Lv w A2 n2 c2 l2) (hn2 : n2 ≤ 4096) (hT : Tab w) (ho : okE x = false) :
    Calls Tryz.prog 24 #[dyV b A n c x, dyV b2 A2 n2 c2 x2] w fun e w' => e = .returned (.tuple #[.float .f64 0, .int .i64 2]) ∧ Below w.heap.size w w' := by
  have PB := Blk.new w [.bool b, .slice A n c, .int .i64 x] 35
  have QB := Blk.new (w.alloc (.cells #[.bool b, .slice A n c, .int .i64 x] 35)) [.bool b2, .slice A2 n2 c2, .int .i64 x2] 35
  simp only [World.size_alloc] at QB
  replace PB := Blk.alloc PB (.cells #[.bool b2, .slice A2 n2 c2, .int .i64 x2] 35)
  have bw : Below w.heap.size w ((w.alloc (.cells #[.bool b, .slice A n c, .int .i64 x] 35)).alloc (.cells #[.bool b2, .slice A2 n2 c2, .int .i64 x2] 35)) := by go_grown
  have PB_0 := Blk.cell PB 0 rfl
  have PB_1 := Blk.cell PB 1 rfl
  have PB_2 := Blk.cell PB 2 rfl
  have PB_f0 := Blk.free PB 0
  have PB_f1 := Blk.free PB 1
  have PB_f2 := Blk.free PB 2
  have QB_0 := Blk.cell QB 0 rfl
  have QB_1 := Blk.cell QB 1 rfl
  have QB_2 := Blk.cell QB 2 rfl
  have QB_f0 := Blk.free QB 0
  have QB_f1 := Blk.free QB 1
  have QB_f2 := Blk.free QB 2
  replace h := h.on bw
  replace h2 := h2.on bw
  go_enter Tryz.func24, Tryz.ntmps24
  go_wp2_with fail
  with_reducible refine (dyMay_no (b := b) (x := x) h hn ho).mono ?_
  rintro e w1 ⟨rfl, hb⟩
  clear PB_0 PB_1 PB_2 PB_f0 PB_f1 PB_f2
  clear QB_0 QB_1 QB_2 QB_f0 QB_f1 QB_f2
  have hs1 := hb.size
  try simp only [World.size_alloc, World.size_setCell] at hs1
  replace bw : Below w.heap.size w w1 := dy_end (by go_grown) hb
  replace h := Lv.on h hb
  replace h2 := Lv.on h2 hb
  replace PB := Blk.on PB hb
  replace QB := Blk.on QB hb
  clear hb
  have PB_0 := Blk.cell PB 0 rfl
  have PB_1 := Blk.cell PB 1 rfl
  have PB_2 := Blk.cell PB 2 rfl
  have PB_f0 := Blk.free PB 0
  have PB_f1 := Blk.free PB 1
  have PB_f2 := Blk.free PB 2
  have QB_0 := Blk.cell QB 0 rfl
  have QB_1 := Blk.cell QB 1 rfl
  have QB_2 := Blk.cell QB 2 rfl
  have QB_f0 := Blk.free QB 0
  have QB_f1 := Blk.free QB 1
  have QB_f2 := Blk.free QB 2
  go_wp2_with fail
  go_ret2
  exact ⟨rfl, by go_grown⟩

set_option maxRecDepth 100000 in
set_option maxHeartbeats 4000000 in
theorem quot_b (h : Lv w A n c l) (hn : n ≤ 4096) (h2 : Lv w A2 n2 c2 l2) (hn2 : n2 ≤ 4096) (hT : Tab w) (ho : okE x = true) (ho2 : okE x2 = false) :
    Calls Tryz.prog 24 #[dyV b A n c x, dyV b2 A2 n2 c2 x2] w fun e w' => e = .returned (.tuple #[.float .f64 0, .int .i64 2]) ∧ Below w.heap.size w w' := by
  have PB := Blk.new w [.bool b, .slice A n c, .int .i64 x] 35
  have QB := Blk.new (w.alloc (.cells #[.bool b, .slice A n c, .int .i64 x] 35)) [.bool b2, .slice A2 n2 c2, .int .i64 x2] 35
  simp only [World.size_alloc] at QB
  replace PB := Blk.alloc PB (.cells #[.bool b2, .slice A2 n2 c2, .int .i64 x2] 35)
  have bw : Below w.heap.size w ((w.alloc (.cells #[.bool b, .slice A n c, .int .i64 x] 35)).alloc (.cells #[.bool b2, .slice A2 n2 c2, .int .i64 x2] 35)) := by go_grown
  have PB_0 := Blk.cell PB 0 rfl
  have PB_1 := Blk.cell PB 1 rfl
  have PB_2 := Blk.cell PB 2 rfl
  have PB_f0 := Blk.free PB 0
  have PB_f1 := Blk.free PB 1
  have PB_f2 := Blk.free PB 2
  have QB_0 := Blk.cell QB 0 rfl
  have QB_1 := Blk.cell QB 1 rfl
  have QB_2 := Blk.cell QB 2 rfl
  have QB_f0 := Blk.free QB 0
  have QB_f1 := Blk.free QB 1
  have QB_f2 := Blk.free QB 2
  replace h := h.on bw
  replace h2 := h2.on bw
  go_enter Tryz.func24, Tryz.ntmps24
  go_wp2_with fail
  with_reducible refine (dyMay_yes (b := b) (x := x) h hn ho).mono ?_
  rintro e w1 ⟨rfl, hb⟩
  clear PB_0 PB_1 PB_2 PB_f0 PB_f1 PB_f2
  clear QB_0 QB_1 QB_2 QB_f0 QB_f1 QB_f2
  have hs1 := hb.size
  try simp only [World.size_alloc, World.size_setCell] at hs1
  replace bw : Below w.heap.size w w1 := dy_end (by go_grown) hb
  replace h := Lv.on h hb
  replace h2 := Lv.on h2 hb
  replace PB := Blk.on PB hb
  replace QB := Blk.on QB hb
  clear hb
  have PB_0 := Blk.cell PB 0 rfl
  have PB_1 := Blk.cell PB 1 rfl
  have PB_2 := Blk.cell PB 2 rfl
  have PB_f0 := Blk.free PB 0
  have PB_f1 := Blk.free PB 1
  have PB_f2 := Blk.free PB 2
  have QB_0 := Blk.cell QB 0 rfl
  have QB_1 := Blk.cell QB 1 rfl
  have QB_2 := Blk.cell QB 2 rfl
  have QB_f0 := Blk.free QB 0
  have QB_f1 := Blk.free QB 1
  have QB_f2 := Blk.free QB 2
  go_wp2_with fail
  with_reducible refine (dyMay_no (b := b2) (x := x2) h2 hn2 ho2).mono ?_
  rintro e w2 ⟨rfl, hb⟩
  clear PB_0 PB_1 PB_2 PB_f0 PB_f1 PB_f2
  clear QB_0 QB_1 QB_2 QB_f0 QB_f1 QB_f2
  have hs2 := hb.size
  try simp only [World.size_alloc, World.size_setCell] at hs2
  replace bw : Below w.heap.size w w2 := dy_end (by go_grown) hb
  replace h := Lv.on h hb
  replace h2 := Lv.on h2 hb
  replace PB := Blk.on PB hb
  replace QB := Blk.on QB hb
  clear hb
  have PB_0 := Blk.cell PB 0 rfl
  have PB_1 := Blk.cell PB 1 rfl
  have PB_2 := Blk.cell PB 2 rfl
  have PB_f0 := Blk.free PB 0
  have PB_f1 := Blk.free PB 1
  have PB_f2 := Blk.free PB 2
  have QB_0 := Blk.cell QB 0 rfl
  have QB_1 := Blk.cell QB 1 rfl
  have QB_2 := Blk.cell QB 2 rfl
  have QB_f0 := Blk.free QB 0
  have QB_f1 := Blk.free QB 1
  have QB_f2 := Blk.free QB 2
  go_wp2_with fail
  go_ret2
  exact ⟨rfl, by go_grown⟩

set_option maxRecDepth 100000 in
set_option maxHeartbeats 4000000 in
theorem quot_z (h : Lv w A n c l) (hn : n ≤ 4096) (h2 : Lv w A2 n2 c2 l2) (hn2 : n2 ≤ 4096) (hT : Tab w) (ho : okE x = true) (ho2 : okE x2 = true) (hz : val 18446744073709551616 l2 = 0) :
    Calls Tryz.prog 24 #[dyV b A n c x, dyV b2 A2 n2 c2 x2] w fun e w' => e = .returned (.tuple #[.float .f64 0, .int .i64 9]) ∧ Below w.heap.size w w' := by
  have ps := fun W (hh : Lv W A2 n2 c2 l2) (tt : Tab W) => dSign_yes (b := b2) (x := x2) hh hn2 tt ho2
  rw [hz, nfl_zero, show sgn zeroN = 0 from rfl] at ps
  have PB := Blk.new w [.bool b, .slice A n c, .int .i64 x] 35
  have QB := Blk.new (w.alloc (.cells #[.bool b, .slice A n c, .int .i64 x] 35)) [.bool b2, .slice A2 n2 c2, .int .i64 x2] 35
  simp only [World.size_alloc] at QB
  replace PB := Blk.alloc PB (.cells #[.bool b2, .slice A2 n2 c2, .int .i64 x2] 35)
  have bw : Below w.heap.size w ((w.alloc (.cells #[.bool b, .slice A n c, .int .i64 x] 35)).alloc (.cells #[.bool b2, .slice A2 n2 c2, .int .i64 x2] 35)) := by go_grown
  have PB_0 := Blk.cell PB 0 rfl
  have PB_1 := Blk.cell PB 1 rfl
  have PB_2 := Blk.cell PB 2 rfl
  have PB_f0 := Blk.free PB 0
  have PB_f1 := Blk.free PB 1
  have PB_f2 := Blk.free PB 2
  have QB_0 := Blk.cell QB 0 rfl
  have QB_1 := Blk.cell QB 1 rfl
  have QB_2 := Blk.cell QB 2 rfl
  have QB_f0 := Blk.free QB 0
  have QB_f1 := Blk.free QB 1
  have QB_f2 := Blk.free QB 2
  replace h := h.on bw
  replace h2 := h2.on bw
  go_enter Tryz.func24, Tryz.ntmps24
  go_wp2_with fail
  with_reducible refine (dyMay_yes (b := b) (x := x) h hn ho).mono ?_
  rintro e w1 ⟨rfl, hb⟩
  clear PB_0 PB_1 PB_2 PB_f0 PB_f1 PB_f2
  clear QB_0 QB_1 QB_2 QB_f0 QB_f1 QB_f2
  have hs1 := hb.size
  try simp only [World.size_alloc, World.size_setCell] at hs1
  replace bw : Below w.heap.size w w1 := dy_end (by go_grown) hb
  replace h := Lv.on h hb
  replace h2 := Lv.on h2 hb
  replace PB := Blk.on PB hb
  replace QB := Blk.on QB hb
  clear hb
  have PB_0 := Blk.cell PB 0 rfl
  have PB_1 := Blk.cell PB 1 rfl
  have PB_2 := Blk.cell PB 2 rfl
  have PB_f0 := Blk.free PB 0
  have PB_f1 := Blk.free PB 1
  have PB_f2 := Blk.free PB 2
  have QB_0 := Blk.cell QB 0 rfl
  have QB_1 := Blk.cell QB 1 rfl
  have QB_2 := Blk.cell QB 2 rfl
  have QB_f0 := Blk.free QB 0
  have QB_f1 := Blk.free QB 1
  have QB_f2 := Blk.free QB 2
  go_wp2_with fail
  with_reducible refine (dyMay_yes (b := b2) (x := x2) h2 hn2 ho2).mono ?_
  rintro e w2 ⟨rfl, hb⟩
  clear PB_0 PB_1 PB_2 PB_f0 PB_f1 PB_f2
  clear QB_0 QB_1 QB_2 QB_f0 QB_f1 QB_f2
  have hs2 := hb.size
  try simp only [World.size_alloc, World.size_setCell] at hs2
  replace bw : Below w.heap.size w w2 := dy_end (by go_grown) hb
  replace h := Lv.on h hb
  replace h2 := Lv.on h2 hb
  replace PB := Blk.on PB hb
  replace QB := Blk.on QB hb
  clear hb
  have PB_0 := Blk.cell PB 0 rfl
  have PB_1 := Blk.cell PB 1 rfl
  have PB_2 := Blk.cell PB 2 rfl
  have PB_f0 := Blk.free PB 0
  have PB_f1 := Blk.free PB 1
  have PB_f2 := Blk.free PB 2
  have QB_0 := Blk.cell QB 0 rfl
  have QB_1 := Blk.cell QB 1 rfl
  have QB_2 := Blk.cell QB 2 rfl
  have QB_f0 := Blk.free QB 0
  have QB_f1 := Blk.free QB 1
  have QB_f2 := Blk.free QB 2
  go_wp2_with fail
  with_reducible refine (ps _ h2 (hT.onD (by go_grown))).mono ?_
  rintro e w3 ⟨rfl, hb⟩
  clear PB_0 PB_1 PB_2 PB_f0 PB_f1 PB_f2
  clear QB_0 QB_1 QB_2 QB_f0 QB_f1 QB_f2
  have hs3 := hb.size
  try simp only [World.size_alloc, World.size_setCell] at hs3
  replace bw : Below w.heap.size w w3 := dy_end (by go_grown) hb
  replace h := Lv.on h hb
  replace h2 := Lv.on h2 hb
  replace PB := Blk.on PB hb
  replace QB := Blk.on QB hb
  clear hb
  have PB_0 := Blk.cell PB 0 rfl
  have PB_1 := Blk.cell PB 1 rfl
  have PB_2 := Blk.cell PB 2 rfl
  have PB_f0 := Blk.free PB 0
  have PB_f1 := Blk.free PB 1
  have PB_f2 := Blk.free PB 2
  have QB_0 := Blk.cell QB 0 rfl
  have QB_1 := Blk.cell QB 1 rfl
  have QB_2 := Blk.cell QB 2 rfl
  have QB_f0 := Blk.free QB 0
  have QB_f1 := Blk.free QB 1
  have QB_f2 := Blk.free QB 2
  go_wp2_with fail
  go_ret2
  exact ⟨rfl, by go_grown⟩

set_option maxRecDepth 100000 in
set_option maxHeartbeats 4000000 in
theorem quot_l (h : Lv w A n c l) (hn : n ≤ 4096) (h2 : Lv w A2 n2 c2 l2) (hn2 : n2 ≤ 4096) (hT : Tab w) (ho : okE x = true) (ho2 : okE x2 = true) (hz : 0 < val 18446744073709551616 l2) {k1 : Nat} (HK1 : Hid (IsBits (val 18446744073709551616 l) k1)) (hk1 : 131072 < k1) :
    Calls Tryz.prog 24 #[dyV b A n c x, dyV b2 A2 n2 c2 x2] w fun e w' => e = .returned (.tuple #[.float .f64 0, .int .i64 3]) ∧ Below w.heap.size w w' := by
  have p2 : (nfl b2 (val 18446744073709551616 l2) x2).man ≠ 0 := by rw [Ne, nfl_man0 (by omega)]; omega
  have z2 := sgn_nz p2
  have ps2 := fun W (hh : Lv W A2 n2 c2 l2) (tt : Tab W) => dSign_yes (b := b2) (x := x2) hh hn2 tt ho2
  generalize sgn (nfl b2 (val 18446744073709551616 l2) x2) = y2 at z2 ps2
  have d1 : decide ((131072 : Int) < (k1 : Int)) = true := by simp; omega
  have PB := Blk.new w [.bool b, .slice A n c, .int .i64 x] 35
  have QB := Blk.new (w.alloc (.cells #[.bool b, .slice A n c, .int .i64 x] 35)) [.bool b2, .slice A2 n2 c2, .int .i64 x2] 35
  simp only [World.size_alloc] at QB
  replace PB := Blk.alloc PB (.cells #[.bool b2, .slice A2 n2 c2, .int .i64 x2] 35)
  have bw : Below w.heap.size w ((w.alloc (.cells #[.bool b, .slice A n c, .int .i64 x] 35)).alloc (.cells #[.bool b2, .slice A2 n2 c2, .int .i64 x2] 35)) := by go_grown
  have PB_0 := Blk.cell PB 0 rfl
  have PB_1 := Blk.cell PB 1 rfl
  have PB_2 := Blk.cell PB 2 rfl
  have PB_f0 := Blk.free PB 0
  have PB_f1 := Blk.free PB 1
  have PB_f2 := Blk.free PB 2
  have QB_0 := Blk.cell QB 0 rfl
  have QB_1 := Blk.cell QB 1 rfl
  have QB_2 := Blk.cell QB 2 rfl
  have QB_f0 := Blk.free QB 0
  have QB_f1 := Blk.free QB 1
  have QB_f2 := Blk.free QB 2
  replace h := h.on bw
  replace h2 := h2.on bw
  go_enter Tryz.func24, Tryz.ntmps24
  go_wp2_with fail
  with_reducible refine (dyMay_yes (b := b) (x := x) h hn ho).mono ?_
  rintro e w1 ⟨rfl, hb⟩
  clear PB_0 PB_1 PB_2 PB_f0 PB_f1 PB_f2
  clear QB_0 QB_1 QB_2 QB_f0 QB_f1 QB_f2
  have hs1 := hb.size
  try simp only [World.size_alloc, World.size_setCell] at hs1
  replace bw : Below w.heap.size w w1 := dy_end (by go_grown) hb
  replace h := Lv.on h hb
  replace h2 := Lv.on h2 hb
  replace PB := Blk.on PB hb
  replace QB := Blk.on QB hb
  clear hb
  have PB_0 := Blk.cell PB 0 rfl
  have PB_1 := Blk.cell PB 1 rfl
  have PB_2 := Blk.cell PB 2 rfl
  have PB_f0 := Blk.free PB 0
  have PB_f1 := Blk.free PB 1
  have PB_f2 := Blk.free PB 2
  have QB_0 := Blk.cell QB 0 rfl
  have QB_1 := Blk.cell QB 1 rfl
  have QB_2 := Blk.cell QB 2 rfl
  have QB_f0 := Blk.free QB 0
  have QB_f1 := Blk.free QB 1
  have QB_f2 := Blk.free QB 2
  go_wp2_with fail
  with_reducible refine (dyMay_yes (b := b2) (x := x2) h2 hn2 ho2).mono ?_
  rintro e w2 ⟨rfl, hb⟩
  clear PB_0 PB_1 PB_2 PB_f0 PB_f1 PB_f2
  clear QB_0 QB_1 QB_2 QB_f0 QB_f1 QB_f2
  have hs2 := hb.size
  try simp only [World.size_alloc, World.size_setCell] at hs2
  replace bw : Below w.heap.size w w2 := dy_end (by go_grown) hb
  replace h := Lv.on h hb
  replace h2 := Lv.on h2 hb
  replace PB := Blk.on PB hb
  replace QB := Blk.on QB hb
  clear hb
  have PB_0 := Blk.cell PB 0 rfl
  have PB_1 := Blk.cell PB 1 rfl
  have PB_2 := Blk.cell PB 2 rfl
  have PB_f0 := Blk.free PB 0
  have PB_f1 := Blk.free PB 1
  have PB_f2 := Blk.free PB 2
  have QB_0 := Blk.cell QB 0 rfl
  have QB_1 := Blk.cell QB 1 rfl
  have QB_2 := Blk.cell QB 2 rfl
  have QB_f0 := Blk.free QB 0
  have QB_f1 := Blk.free QB 1
  have QB_f2 := Blk.free QB 2
  go_wp2_with fail
  with_reducible refine (ps2 _ h2 (hT.onD (by go_grown))).mono ?_
  rintro e w3 ⟨rfl, hb⟩
  clear PB_0 PB_1 PB_2 PB_f0 PB_f1 PB_f2
  clear QB_0 QB_1 QB_2 QB_f0 QB_f1 QB_f2
  have hs3 := hb.size
  try simp only [World.size_alloc, World.size_setCell] at hs3
  replace bw : Below w.heap.size w w3 := dy_end (by go_grown) hb
  replace h := Lv.on h hb
  replace h2 := Lv.on h2 hb
  replace PB := Blk.on PB hb
  replace QB := Blk.on QB hb
  clear hb
  have PB_0 := Blk.cell PB 0 rfl
  have PB_1 := Blk.cell PB 1 rfl
  have PB_2 := Blk.cell PB 2 rfl
  have PB_f0 := Blk.free PB 0
  have PB_f1 := Blk.free PB 1
  have PB_f2 := Blk.free PB 2
  have QB_0 := Blk.cell QB 0 rfl
  have QB_1 := Blk.cell QB 1 rfl
  have QB_2 := Blk.cell QB 2 rfl
  have QB_f0 := Blk.free QB 0
  have QB_f1 := Blk.free QB 1
  have QB_f2 := Blk.free QB 2
  go_wp2_with fail
  with_reducible refine (bitsOf_is (b := b) (x := x) h hn HK1).mono ?_
  rintro e w4 ⟨rfl, hb⟩
  clear PB_0 PB_1 PB_2 PB_f0 PB_f1 PB_f2
  clear QB_0 QB_1 QB_2 QB_f0 QB_f1 QB_f2
  have hs4 := hb.size
  try simp only [World.size_alloc, World.size_setCell] at hs4
  replace bw : Below w.heap.size w w4 := dy_end (by go_grown) hb
  replace h := Lv.on h hb
  replace h2 := Lv.on h2 hb
  replace PB := Blk.on PB hb
  replace QB := Blk.on QB hb
  clear hb
  have PB_0 := Blk.cell PB 0 rfl
  have PB_1 := Blk.cell PB 1 rfl
  have PB_2 := Blk.cell PB 2 rfl
  have PB_f0 := Blk.free PB 0
  have PB_f1 := Blk.free PB 1
  have PB_f2 := Blk.free PB 2
  have QB_0 := Blk.cell QB 0 rfl
  have QB_1 := Blk.cell QB 1 rfl
  have QB_2 := Blk.cell QB 2 rfl
  have QB_f0 := Blk.free QB 0
  have QB_f1 := Blk.free QB 1
  have QB_f2 := Blk.free QB 2
  go_wp2_with fail
  go_ret2
  exact ⟨rfl, by go_grown⟩

set_option maxRecDepth 100000 in
set_option maxHeartbeats 4000000 in
theorem quot_n (h : Lv w A n c l) (hn : n ≤ 4096) (h2 : Lv w A2 n2 c2 l2) (hn2 : n2 ≤ 4096) (hT : Tab w) (ho : okE x = true) (ho2 : okE x2 = true) (hz : 0 < val 18446744073709551616 l2) (hz1 : val 18446744073709551616 l = 0) {k1 k2 : Nat} (HK1 : Hid (IsBits (val 18446744073709551616 l) k1)) (hk1 : k1 ≤ 131072) (HK2 : Hid (IsBits (val 18446744073709551616 l2) k2)) (hk2 : k2 ≤ 131072) :
    Calls Tryz.prog 24 #[dyV b A n c x, dyV b2 A2 n2 c2 x2] w fun e w' => e = .returned (.tuple #[.float .f64 0, .int .i64 0]) ∧ Below w.heap.size w w' := by
  have p2 : (nfl b2 (val 18446744073709551616 l2) x2).man ≠ 0 := by rw [Ne, nfl_man0 (by omega)]; omega
  have z2 := sgn_nz p2
  have ps2 := fun W (hh : Lv W A2 n2 c2 l2) (tt : Tab W) => dSign_yes (b := b2) (x := x2) hh hn2 tt ho2
  generalize sgn (nfl b2 (val 18446744073709551616 l2) x2) = y2 at z2 ps2
  have ps1 := fun W (hh : Lv W A n c l) (tt : Tab W) => dSign_yes (b := b) (x := x) hh hn tt ho
  rw [hz1, nfl_zero, show sgn zeroN = 0 from rfl] at ps1
  have d1 : decide ((131072 : Int) < (k1 : Int)) = false := by simp; omega
  have d2 : decide ((131072 : Int) < (k2 : Int)) = false := by simp; omega
  have PB := Blk.new w [.bool b, .slice A n c, .int .i64 x] 35
  have QB := Blk.new (w.alloc (.cells #[.bool b, .slice A n c, .int .i64 x] 35)) [.bool b2, .slice A2 n2 c2, .int .i64 x2] 35
  simp only [World.size_alloc] at QB
  replace PB := Blk.alloc PB (.cells #[.bool b2, .slice A2 n2 c2, .int .i64 x2] 35)
  have bw : Below w.heap.size w ((w.alloc (.cells #[.bool b, .slice A n c, .int .i64 x] 35)).alloc (.cells #[.bool b2, .slice A2 n2 c2, .int .i64 x2] 35)) := by go_grown
  have PB_0 := Blk.cell PB 0 rfl
  have PB_1 := Blk.cell PB 1 rfl
  have PB_2 := Blk.cell PB 2 rfl
  have PB_f0 := Blk.free PB 0
  have PB_f1 := Blk.free PB 1
  have PB_f2 := Blk.free PB 2
  have QB_0 := Blk.cell QB 0 rfl
  have QB_1 := Blk.cell QB 1 rfl
  have QB_2 := Blk.cell QB 2 rfl
  have QB_f0 := Blk.free QB 0
  have QB_f1 := Blk.free QB 1
  have QB_f2 := Blk.free QB 2
  replace h := h.on bw
  replace h2 := h2.on bw
  go_enter Tryz.func24, Tryz.ntmps24
  go_wp2_with fail
  with_reducible refine (dyMay_yes (b := b) (x := x) h hn ho).mono ?_
  rintro e w1 ⟨rfl, hb⟩
  clear PB_0 PB_1 PB_2 PB_f0 PB_f1 PB_f2
  clear QB_0 QB_1 QB_2 QB_f0 QB_f1 QB_f2
  have hs1 := hb.size
  try simp only [World.size_alloc, World.size_setCell] at hs1
  replace bw : Below w.heap.size w w1 := dy_end (by go_grown) hb
  replace h := Lv.on h hb
  replace h2 := Lv.on h2 hb
  replace PB := Blk.on PB hb
  replace QB := Blk.on QB hb
  clear hb
  have PB_0 := Blk.cell PB 0 rfl
  have PB_1 := Blk.cell PB 1 rfl
  have PB_2 := Blk.cell PB 2 rfl
  have PB_f0 := Blk.free PB 0
  have PB_f1 := Blk.free PB 1
  have PB_f2 := Blk.free PB 2
  have QB_0 := Blk.cell QB 0 rfl
  have QB_1 := Blk.cell QB 1 rfl
  have QB_2 := Blk.cell QB 2 rfl
  have QB_f0 := Blk.free QB 0
  have QB_f1 := Blk.free QB 1
  have QB_f2 := Blk.free QB 2
  go_wp2_with fail
  with_reducible refine (dyMay_yes (b := b2) (x := x2) h2 hn2 ho2).mono ?_
  rintro e w2 ⟨rfl, hb⟩
  clear PB_0 PB_1 PB_2 PB_f0 PB_f1 PB_f2
  clear QB_0 QB_1 QB_2 QB_f0 QB_f1 QB_f2
  have hs2 := hb.size
  try simp only [World.size_alloc, World.size_setCell] at hs2
  replace bw : Below w.heap.size w w2 := dy_end (by go_grown) hb
  replace h := Lv.on h hb
  replace h2 := Lv.on h2 hb
  replace PB := Blk.on PB hb
  replace QB := Blk.on QB hb
  clear hb
  have PB_0 := Blk.cell PB 0 rfl
  have PB_1 := Blk.cell PB 1 rfl
  have PB_2 := Blk.cell PB 2 rfl
  have PB_f0 := Blk.free PB 0
  have PB_f1 := Blk.free PB 1
  have PB_f2 := Blk.free PB 2
  have QB_0 := Blk.cell QB 0 rfl
  have QB_1 := Blk.cell QB 1 rfl
  have QB_2 := Blk.cell QB 2 rfl
  have QB_f0 := Blk.free QB 0
  have QB_f1 := Blk.free QB 1
  have QB_f2 := Blk.free QB 2
  go_wp2_with fail
  with_reducible refine (ps2 _ h2 (hT.onD (by go_grown))).mono ?_
  rintro e w3 ⟨rfl, hb⟩
  clear PB_0 PB_1 PB_2 PB_f0 PB_f1 PB_f2
  clear QB_0 QB_1 QB_2 QB_f0 QB_f1 QB_f2
  have hs3 := hb.size
  try simp only [World.size_alloc, World.size_setCell] at hs3
  replace bw : Below w.heap.size w w3 := dy_end (by go_grown) hb
  replace h := Lv.on h hb
  replace h2 := Lv.on h2 hb
  replace PB := Blk.on PB hb
  replace QB := Blk.on QB hb
  clear hb
  have PB_0 := Blk.cell PB 0 rfl
  have PB_1 := Blk.cell PB 1 rfl
  have PB_2 := Blk.cell PB 2 rfl
  have PB_f0 := Blk.free PB 0
  have PB_f1 := Blk.free PB 1
  have PB_f2 := Blk.free PB 2
  have QB_0 := Blk.cell QB 0 rfl
  have QB_1 := Blk.cell QB 1 rfl
  have QB_2 := Blk.cell QB 2 rfl
  have QB_f0 := Blk.free QB 0
  have QB_f1 := Blk.free QB 1
  have QB_f2 := Blk.free QB 2
  go_wp2_with fail
  with_reducible refine (bitsOf_is (b := b) (x := x) h hn HK1).mono ?_
  rintro e w4 ⟨rfl, hb⟩
  clear PB_0 PB_1 PB_2 PB_f0 PB_f1 PB_f2
  clear QB_0 QB_1 QB_2 QB_f0 QB_f1 QB_f2
  have hs4 := hb.size
  try simp only [World.size_alloc, World.size_setCell] at hs4
  replace bw : Below w.heap.size w w4 := dy_end (by go_grown) hb
  replace h := Lv.on h hb
  replace h2 := Lv.on h2 hb
  replace PB := Blk.on PB hb
  replace QB := Blk.on QB hb
  clear hb
  have PB_0 := Blk.cell PB 0 rfl
  have PB_1 := Blk.cell PB 1 rfl
  have PB_2 := Blk.cell PB 2 rfl
  have PB_f0 := Blk.free PB 0
  have PB_f1 := Blk.free PB 1
  have PB_f2 := Blk.free PB 2
  have QB_0 := Blk.cell QB 0 rfl
  have QB_1 := Blk.cell QB 1 rfl
  have QB_2 := Blk.cell QB 2 rfl
  have QB_f0 := Blk.free QB 0
  have QB_f1 := Blk.free QB 1
  have QB_f2 := Blk.free QB 2
  go_wp2_with fail
  with_reducible refine (bitsOf_is (b := b2) (x := x2) h2 hn2 HK2).mono ?_
  rintro e w5 ⟨rfl, hb⟩
  clear PB_0 PB_1 PB_2 PB_f0 PB_f1 PB_f2
  clear QB_0 QB_1 QB_2 QB_f0 QB_f1 QB_f2
  have hs5 := hb.size
  try simp only [World.size_alloc, World.size_setCell] at hs5
  replace bw : Below w.heap.size w w5 := dy_end (by go_grown) hb
  replace h := Lv.on h hb
  replace h2 := Lv.on h2 hb
  replace PB := Blk.on PB hb
  replace QB := Blk.on QB hb
  clear hb
  have PB_0 := Blk.cell PB 0 rfl
  have PB_1 := Blk.cell PB 1 rfl
  have PB_2 := Blk.cell PB 2 rfl
  have PB_f0 := Blk.free PB 0
  have PB_f1 := Blk.free PB 1
  have PB_f2 := Blk.free PB 2
  have QB_0 := Blk.cell QB 0 rfl
  have QB_1 := Blk.cell QB 1 rfl
  have QB_2 := Blk.cell QB 2 rfl
  have QB_f0 := Blk.free QB 0
  have QB_f1 := Blk.free QB 1
  have QB_f2 := Blk.free QB 2
  go_wp2_with fail
  with_reducible refine (ps1 _ h (hT.onD (by go_grown))).mono ?_
  rintro e w6 ⟨rfl, hb⟩
  clear PB_0 PB_1 PB_2 PB_f0 PB_f1 PB_f2
  clear QB_0 QB_1 QB_2 QB_f0 QB_f1 QB_f2
  have hs6 := hb.size
  try simp only [World.size_alloc, World.size_setCell] at hs6
  replace bw : Below w.heap.size w w6 := dy_end (by go_grown) hb
  replace h := Lv.on h hb
  replace h2 := Lv.on h2 hb
  replace PB := Blk.on PB hb
  replace QB := Blk.on QB hb
  clear hb
  have PB_0 := Blk.cell PB 0 rfl
  have PB_1 := Blk.cell PB 1 rfl
  have PB_2 := Blk.cell PB 2 rfl
  have PB_f0 := Blk.free PB 0
  have PB_f1 := Blk.free PB 1
  have PB_f2 := Blk.free PB 2
  have QB_0 := Blk.cell QB 0 rfl
  have QB_1 := Blk.cell QB 1 rfl
  have QB_2 := Blk.cell QB 2 rfl
  have QB_f0 := Blk.free QB 0
  have QB_f1 := Blk.free QB 1
  have QB_f2 := Blk.free QB 2
  go_wp2_with fail
  go_ret2
  exact ⟨rfl, by go_grown⟩

set_option maxRecDepth 100000 in
set_option maxHeartbeats 8000000 in
theorem quot_mt (h : Lv w A n c l) (hn : n ≤ 4096) (h2 : Lv w A2 n2 c2 l2) (hn2 : n2 ≤ 4096) (hT : Tab w) (hm : n ≤ 60) (ho : okE x = true) (ho2 : okE x2 = true) (hz : 0 < val 18446744073709551616 l2) (hz1 : 0 < val 18446744073709551616 l) {k1 k2 : Nat} (HK1 : Hid (IsBits (val 18446744073709551616 l) k1)) (hk1 : k1 ≤ 4000) (HK2 : Hid (IsBits (val 18446744073709551616 l2) k2)) (hk2 : k2 ≤ 4000) (hL : broL (val 18446744073709551616 l) (k2 + 63 - k1) = true) :
    Calls Tryz.prog 24 #[dyV b A n c x, dyV b2 A2 n2 c2 x2] w fun e w' => e = .returned (.tuple #[.float .f64 (quotW (b != b2) (val 18446744073709551616 l).toNat (val 18446744073709551616 l2).toNat (x - x2)), .int .i64 0]) ∧ Below w.heap.size w w' := by
  have p2 : (nfl b2 (val 18446744073709551616 l2) x2).man ≠ 0 := by rw [Ne, nfl_man0 (by omega)]; omega
  have z2 := sgn_nz p2
  have ps2 := fun W (hh : Lv W A2 n2 c2 l2) (tt : Tab W) => dSign_yes (b := b2) (x := x2) hh hn2 tt ho2
  generalize sgn (nfl b2 (val 18446744073709551616 l2) x2) = y2 at z2 ps2
  have p1 : (nfl b (val 18446744073709551616 l) x).man ≠ 0 := by rw [Ne, nfl_man0 (by omega)]; omega
  have z1 := sgn_nz p1
  have ps1 := fun W (hh : Lv W A n c l) (tt : Tab W) => dSign_yes (b := b) (x := x) hh hn tt ho
  generalize sgn (nfl b (val 18446744073709551616 l) x) = y1 at z1 ps1
  have d1 : decide ((131072 : Int) < (k1 : Int)) = false := by simp; omega
  have d2 : decide ((131072 : Int) < (k2 : Int)) = false := by simp; omega
  have ob := (okE_iff x).1 ho
  have ob2 := (okE_iff x2).1 ho2
  obtain ⟨a1, e1⟩ : ∃ a1 : Int, (k2 : Int) + 64 = a1 := ⟨_, rfl⟩
  obtain ⟨a2, e2⟩ : ∃ a2 : Int, a1 - 1 = a2 := ⟨_, rfl⟩
  obtain ⟨up, e3⟩ : ∃ up : Int, a2 - (k1 : Int) = up := ⟨_, rfl⟩
  have hup : up = k2 + 63 - k1 := by omega
  have W_a1 : IntKind.i64.wrap a1 = a1 := IntWalk.i64_in _ (by omega)
  have W_a2 : IntKind.i64.wrap a2 = a2 := IntWalk.i64_in _ (by omega)
  have W_up : IntKind.i64.wrap up = up := IntWalk.i64_in _ (by omega)
  have hL2 : broL (val 18446744073709551616 l) up = true := by rw [hup]; exact hL
  have HW := Lib.hid (fun (q r s : Int) => quot_word (q := q) (r := r) (s := s) (up := up) HK1.out HK2.out hz1 hz hup)
  have HUP := Lib.hid hup
  have u0 : -4000 ≤ up ∧ up ≤ 4063 := by omega
  clear hup
  have PB := Blk.new w [.bool b, .slice A n c, .int .i64 x] 35
  have QB := Blk.new (w.alloc (.cells #[.bool b, .slice A n c, .int .i64 x] 35)) [.bool b2, .slice A2 n2 c2, .int .i64 x2] 35
  simp only [World.size_alloc] at QB
  replace PB := Blk.alloc PB (.cells #[.bool b2, .slice A2 n2 c2, .int .i64 x2] 35)
  have bw : Below w.heap.size w ((w.alloc (.cells #[.bool b, .slice A n c, .int .i64 x] 35)).alloc (.cells #[.bool b2, .slice A2 n2 c2, .int .i64 x2] 35)) := by go_grown
  have PB_0 := Blk.cell PB 0 rfl
  have PB_1 := Blk.cell PB 1 rfl
  have PB_2 := Blk.cell PB 2 rfl
  have PB_f0 := Blk.free PB 0
  have PB_f1 := Blk.free PB 1
  have PB_f2 := Blk.free PB 2
  have QB_0 := Blk.cell QB 0 rfl
  have QB_1 := Blk.cell QB 1 rfl
  have QB_2 := Blk.cell QB 2 rfl
  have QB_f0 := Blk.free QB 0
  have QB_f1 := Blk.free QB 1
  have QB_f2 := Blk.free QB 2
  replace h := h.on bw
  replace h2 := h2.on bw
  go_enter Tryz.func24, Tryz.ntmps24
  go_wp2_with fail
  with_reducible refine (dyMay_yes (b := b) (x := x) h hn ho).mono ?_
  rintro e w1 ⟨rfl, hb⟩
  clear PB_0 PB_1 PB_2 PB_f0 PB_f1 PB_f2
  clear QB_0 QB_1 QB_2 QB_f0 QB_f1 QB_f2
  have hs1 := hb.size
  try simp only [World.size_alloc, World.size_setCell] at hs1
  replace bw : Below w.heap.size w w1 := dy_end (by go_grown) hb
  replace h := Lv.on h hb
  replace h2 := Lv.on h2 hb
  replace PB := Blk.on PB hb
  replace QB := Blk.on QB hb
  clear hb
  have PB_0 := Blk.cell PB 0 rfl
  have PB_1 := Blk.cell PB 1 rfl
  have PB_2 := Blk.cell PB 2 rfl
  have PB_f0 := Blk.free PB 0
  have PB_f1 := Blk.free PB 1
  have PB_f2 := Blk.free PB 2
  have QB_0 := Blk.cell QB 0 rfl
  have QB_1 := Blk.cell QB 1 rfl
  have QB_2 := Blk.cell QB 2 rfl
  have QB_f0 := Blk.free QB 0
  have QB_f1 := Blk.free QB 1
  have QB_f2 := Blk.free QB 2
  go_wp2_with fail
  with_reducible refine (dyMay_yes (b := b2) (x := x2) h2 hn2 ho2).mono ?_
  rintro e w2 ⟨rfl, hb⟩
  clear PB_0 PB_1 PB_2 PB_f0 PB_f1 PB_f2
  clear QB_0 QB_1 QB_2 QB_f0 QB_f1 QB_f2
  have hs2 := hb.size
  try simp only [World.size_alloc, World.size_setCell] at hs2
  replace bw : Below w.heap.size w w2 := dy_end (by go_grown) hb
  replace h := Lv.on h hb
  replace h2 := Lv.on h2 hb
  replace PB := Blk.on PB hb
  replace QB := Blk.on QB hb
  clear hb
  have PB_0 := Blk.cell PB 0 rfl
  have PB_1 := Blk.cell PB 1 rfl
  have PB_2 := Blk.cell PB 2 rfl
  have PB_f0 := Blk.free PB 0
  have PB_f1 := Blk.free PB 1
  have PB_f2 := Blk.free PB 2
  have QB_0 := Blk.cell QB 0 rfl
  have QB_1 := Blk.cell QB 1 rfl
  have QB_2 := Blk.cell QB 2 rfl
  have QB_f0 := Blk.free QB 0
  have QB_f1 := Blk.free QB 1
  have QB_f2 := Blk.free QB 2
  go_wp2_with fail
  with_reducible refine (ps2 _ h2 (hT.onD (by go_grown))).mono ?_
  rintro e w3 ⟨rfl, hb⟩
  clear PB_0 PB_1 PB_2 PB_f0 PB_f1 PB_f2
  clear QB_0 QB_1 QB_2 QB_f0 QB_f1 QB_f2
  have hs3 := hb.size
  try simp only [World.size_alloc, World.size_setCell] at hs3
  replace bw : Below w.heap.size w w3 := dy_end (by go_grown) hb
  replace h := Lv.on h hb
  replace h2 := Lv.on h2 hb
  replace PB := Blk.on PB hb
  replace QB := Blk.on QB hb
  clear hb
  have PB_0 := Blk.cell PB 0 rfl
  have PB_1 := Blk.cell PB 1 rfl
  have PB_2 := Blk.cell PB 2 rfl
  have PB_f0 := Blk.free PB 0
  have PB_f1 := Blk.free PB 1
  have PB_f2 := Blk.free PB 2
  have QB_0 := Blk.cell QB 0 rfl
  have QB_1 := Blk.cell QB 1 rfl
  have QB_2 := Blk.cell QB 2 rfl
  have QB_f0 := Blk.free QB 0
  have QB_f1 := Blk.free QB 1
  have QB_f2 := Blk.free QB 2
  go_wp2_with fail
  with_reducible refine (bitsOf_is (b := b) (x := x) h hn HK1).mono ?_
  rintro e w4 ⟨rfl, hb⟩
  clear PB_0 PB_1 PB_2 PB_f0 PB_f1 PB_f2
  clear QB_0 QB_1 QB_2 QB_f0 QB_f1 QB_f2
  have hs4 := hb.size
  try simp only [World.size_alloc, World.size_setCell] at hs4
  replace bw : Below w.heap.size w w4 := dy_end (by go_grown) hb
  replace h := Lv.on h hb
  replace h2 := Lv.on h2 hb
  replace PB := Blk.on PB hb
  replace QB := Blk.on QB hb
  clear hb
  have PB_0 := Blk.cell PB 0 rfl
  have PB_1 := Blk.cell PB 1 rfl
  have PB_2 := Blk.cell PB 2 rfl
  have PB_f0 := Blk.free PB 0
  have PB_f1 := Blk.free PB 1
  have PB_f2 := Blk.free PB 2
  have QB_0 := Blk.cell QB 0 rfl
  have QB_1 := Blk.cell QB 1 rfl
  have QB_2 := Blk.cell QB 2 rfl
  have QB_f0 := Blk.free QB 0
  have QB_f1 := Blk.free QB 1
  have QB_f2 := Blk.free QB 2
  go_wp2_with fail
  with_reducible refine (bitsOf_is (b := b2) (x := x2) h2 hn2 HK2).mono ?_
  rintro e w5 ⟨rfl, hb⟩
  clear PB_0 PB_1 PB_2 PB_f0 PB_f1 PB_f2
  clear QB_0 QB_1 QB_2 QB_f0 QB_f1 QB_f2
  have hs5 := hb.size
  try simp only [World.size_alloc, World.size_setCell] at hs5
  replace bw : Below w.heap.size w w5 := dy_end (by go_grown) hb
  replace h := Lv.on h hb
  replace h2 := Lv.on h2 hb
  replace PB := Blk.on PB hb
  replace QB := Blk.on QB hb
  clear hb
  have PB_0 := Blk.cell PB 0 rfl
  have PB_1 := Blk.cell PB 1 rfl
  have PB_2 := Blk.cell PB 2 rfl
  have PB_f0 := Blk.free PB 0
  have PB_f1 := Blk.free PB 1
  have PB_f2 := Blk.free PB 2
  have QB_0 := Blk.cell QB 0 rfl
  have QB_1 := Blk.cell QB 1 rfl
  have QB_2 := Blk.cell QB 2 rfl
  have QB_f0 := Blk.free QB 0
  have QB_f1 := Blk.free QB 1
  have QB_f2 := Blk.free QB 2
  go_wp2_with fail
  with_reducible refine (ps1 _ h (hT.onD (by go_grown))).mono ?_
  rintro e w6 ⟨rfl, hb⟩
  clear PB_0 PB_1 PB_2 PB_f0 PB_f1 PB_f2
  clear QB_0 QB_1 QB_2 QB_f0 QB_f1 QB_f2
  have hs6 := hb.size
  try simp only [World.size_alloc, World.size_setCell] at hs6
  replace bw : Below w.heap.size w w6 := dy_end (by go_grown) hb
  replace h := Lv.on h hb
  replace h2 := Lv.on h2 hb
  replace PB := Blk.on PB hb
  replace QB := Blk.on QB hb
  clear hb
  have PB_0 := Blk.cell PB 0 rfl
  have PB_1 := Blk.cell PB 1 rfl
  have PB_2 := Blk.cell PB 2 rfl
  have PB_f0 := Blk.free PB 0
  have PB_f1 := Blk.free PB 1
  have PB_f2 := Blk.free PB 2
  have QB_0 := Blk.cell QB 0 rfl
  have QB_1 := Blk.cell QB 1 rfl
  have QB_2 := Blk.cell QB 2 rfl
  have QB_f0 := Blk.free QB 0
  have QB_f1 := Blk.free QB 1
  have QB_f2 := Blk.free QB 2
  go_wp2_with fail
  have hb : Below w6.heap.size w6 w6.drew := (Below.refl _ _).drew
  clear PB_0 PB_1 PB_2 PB_f0 PB_f1 PB_f2
  clear QB_0 QB_1 QB_2 QB_f0 QB_f1 QB_f2
  replace h := Lv.on h hb
  replace h2 := Lv.on h2 hb
  replace PB := Blk.on PB hb
  replace QB := Blk.on QB hb
  replace bw := dy_end bw hb
  clear hb
  have PB_0 := Blk.cell PB 0 rfl
  have PB_1 := Blk.cell PB 1 rfl
  have PB_2 := Blk.cell PB 2 rfl
  have PB_f0 := Blk.free PB 0
  have PB_f1 := Blk.free PB 1
  have PB_f2 := Blk.free PB 2
  have QB_0 := Blk.cell QB 0 rfl
  have QB_1 := Blk.cell QB 1 rfl
  have QB_2 := Blk.cell QB 2 rfl
  have QB_f0 := Blk.free QB 0
  have QB_f1 := Blk.free QB 1
  have QB_f2 := Blk.free QB 2
  refine wp_region_held_drew (S := fun w9 : World => Below w6.drew.heap.size w6.drew w9) (by kernel_rfl) (Below.refl _ _) (fun hHeld => ?_)
  refine wpAnyH_take (i := 0) (v := ?v0) rfl (by kernel_rfl) (by kernel_rfl) (by kernel_rfl) (fun _ _ _ h => h) (Or.inl ⟨by rfl, ?hy0⟩) (by assumption) ?rest0
  case hy0 => (intro w hSw; have c0 := below_cell QB_0 hSw; have c1 := below_cell QB_1 hSw; have c2 := below_cell QB_2 hSw; clear hSw; go_simp; try with_reducible rfl)
  simp only [Act.put, List.setIfInBounds_toArray, List.set_cons_zero, List.set_cons_succ, List.getElem_toArray, List.getElem_cons_zero, List.getElem_cons_succ]
  refine wpAnyH_take (i := 4) (v := ?v4) rfl (by kernel_rfl) (by kernel_rfl) (by kernel_rfl) (fun _ _ _ h => h) (Or.inl ⟨by rfl, ?hy4⟩) (by assumption) ?rest4
  case hy4 => (intro w hSw; have c0 := below_cell PB_0 hSw; have c1 := below_cell PB_1 hSw; have c2 := below_cell PB_2 hSw; clear hSw; go_simp; try with_reducible rfl)
  simp only [Act.put, List.setIfInBounds_toArray, List.set_cons_zero, List.set_cons_succ, List.getElem_toArray, List.getElem_cons_zero, List.getElem_cons_succ]
  refine wpAnyH_ready (rs := [1]) (by kernel_rfl) (by simp) ?_
  refine AllReadyH.cons rfl (fun K hK => ?_) AllReadyH.nil
  go_simp
  have hh := bitsOf_is (b := b2) (x := x2) (h2.on hHeld) hn2 HK2
  with_reducible refine (hh).mono ?_
  rintro e u1 ⟨rfl, hb⟩
  refine hK.out _ _ (dy_end hHeld hb) (fun hH => ?_)
  clear hK K hHeld hb hh
  have hHeld := hH
  clear hH
  try simp only [Act.put, List.setIfInBounds_toArray, List.set_cons_zero, List.set_cons_succ, List.getElem_toArray, List.getElem_cons_zero, List.getElem_cons_succ]
  refine wpAnyH_take (i := 2) (v := ?v2) rfl (by kernel_rfl) (by kernel_rfl) (by kernel_rfl) (fun _ _ _ h => h) (Or.inl ⟨by rfl, ?hy2⟩) (by assumption) ?rest2
  case hy2 => (intro w hSw; clear hSw; go_simp; try with_reducible rfl)
  simp only [Act.put, List.setIfInBounds_toArray, List.set_cons_zero, List.set_cons_succ, List.getElem_toArray, List.getElem_cons_zero, List.getElem_cons_succ]
  refine wpAnyH_take (i := 3) (v := ?v3) rfl (by kernel_rfl) (by kernel_rfl) (by kernel_rfl) (fun _ _ _ h => h) (Or.inl ⟨by rfl, ?hy3⟩) (by assumption) ?rest3
  case hy3 => (intro w hSw; clear hSw; go_simp; try with_reducible rfl)
  simp only [Act.put, List.setIfInBounds_toArray, List.set_cons_zero, List.set_cons_succ, List.getElem_toArray, List.getElem_cons_zero, List.getElem_cons_succ]
  refine wpAnyH_ready (rs := [5]) (by kernel_rfl) (by simp) ?_
  refine AllReadyH.cons rfl (fun K hK => ?_) AllReadyH.nil
  go_simp
  have hh := bitsOf_is (b := b) (x := x) (h.on hHeld) hn HK1
  with_reducible refine (hh).mono ?_
  rintro e u5 ⟨rfl, hb⟩
  refine hK.out _ _ (dy_end hHeld hb) (fun hH => ?_)
  clear hK K hHeld hb hh
  have hHeld := hH
  clear hH
  try simp only [Act.put, List.setIfInBounds_toArray, List.set_cons_zero, List.set_cons_succ, List.getElem_toArray, List.getElem_cons_zero, List.getElem_cons_succ]
  refine wpAnyH_take (i := 6) (v := ?v6) rfl (by kernel_rfl) (by kernel_rfl) (by kernel_rfl) (fun _ _ _ h => h) (Or.inl ⟨by rfl, ?hy6⟩) (by assumption) ?rest6
  case hy6 => (intro w hSw; clear hSw; go_simp; try with_reducible rfl)
  simp only [Act.put, List.setIfInBounds_toArray, List.set_cons_zero, List.set_cons_succ, List.getElem_toArray, List.getElem_cons_zero, List.getElem_cons_succ]
  refine wpAnyH_take (i := 7) (v := ?v7) rfl (by kernel_rfl) (by kernel_rfl) (by kernel_rfl) (fun _ _ _ h => h) (Or.inl ⟨by rfl, ?hy7⟩) (by assumption) ?rest7
  case hy7 => (intro w hSw; clear hSw; go_simp; try with_reducible rfl)
  simp only [Act.put, List.setIfInBounds_toArray, List.set_cons_zero, List.set_cons_succ, List.getElem_toArray, List.getElem_cons_zero, List.getElem_cons_succ]
  refine wpAnyH_done (by kernel_rfl) ?_ _
  clear PB_0 PB_1 PB_2 PB_f0 PB_f1 PB_f2
  clear QB_0 QB_1 QB_2 QB_f0 QB_f1 QB_f2
  replace bw : Below w.heap.size w u5 := dy_end bw hHeld
  have hs99 := bw.size
  replace h := Lv.on h hHeld
  replace h2 := Lv.on h2 hHeld
  replace PB := Blk.on PB hHeld
  replace QB := Blk.on QB hHeld
  clear hHeld
  have PB_0 := Blk.cell PB 0 rfl
  have PB_1 := Blk.cell PB 1 rfl
  have PB_2 := Blk.cell PB 2 rfl
  have PB_f0 := Blk.free PB 0
  have PB_f1 := Blk.free PB 1
  have PB_f2 := Blk.free PB 2
  have QB_0 := Blk.cell QB 0 rfl
  have QB_1 := Blk.cell QB 1 rfl
  have QB_2 := Blk.cell QB 2 rfl
  have QB_f0 := Blk.free QB 0
  have QB_f1 := Blk.free QB 1
  have QB_f2 := Blk.free QB 2
  go_wp2_with fail
  with_reducible refine (brought_any h hm (hT.onD (by go_grown)) up (by omega) (by omega)).mono ?_
  rintro e w7 ⟨s3, A3, c3, rfl, n3, v3, m3, hb⟩
  clear PB_0 PB_1 PB_2 PB_f0 PB_f1 PB_f2
  clear QB_0 QB_1 QB_2 QB_f0 QB_f1 QB_f2
  have hs7 := hb.size
  try simp only [World.size_alloc, World.size_setCell] at hs7
  replace bw : Below w.heap.size w w7 := dy_end (by go_grown) hb
  replace h := Lv.on h hb
  replace h2 := Lv.on h2 hb
  replace PB := Blk.on PB hb
  replace QB := Blk.on QB hb
  clear hb
  have PB_0 := Blk.cell PB 0 rfl
  have PB_1 := Blk.cell PB 1 rfl
  have PB_2 := Blk.cell PB 2 rfl
  have PB_f0 := Blk.free PB 0
  have PB_f1 := Blk.free PB 1
  have PB_f2 := Blk.free PB 2
  have QB_0 := Blk.cell QB 0 rfl
  have QB_1 := Blk.cell QB 1 rfl
  have QB_2 := Blk.cell QB 2 rfl
  have QB_f0 := Blk.free QB 0
  have QB_f1 := Blk.free QB 1
  have QB_f2 := Blk.free QB 2
  rw [hL2]
  go_wp2_with fail
  have ln3 : s3.length ≤ 4096 := bro_len m3.2.2 n3 v3.out HK1.out HK2.out HUP.out (by omega)
  with_reducible refine (Div_lv m3 h2 ln3 hn2 hz).mono ?_
  rintro e w8 ⟨q4, r4, A4, c4, A5, c5, rfl, n4, n5, v4, m4, m5, hb⟩
  clear PB_0 PB_1 PB_2 PB_f0 PB_f1 PB_f2
  clear QB_0 QB_1 QB_2 QB_f0 QB_f1 QB_f2
  have hs8 := hb.size
  try simp only [World.size_alloc, World.size_setCell] at hs8
  replace bw : Below w.heap.size w w8 := dy_end (by go_grown) hb
  replace h := Lv.on h hb
  replace h2 := Lv.on h2 hb
  replace m3 := Lv.on m3 hb
  replace PB := Blk.on PB hb
  replace QB := Blk.on QB hb
  clear hb
  have PB_0 := Blk.cell PB 0 rfl
  have PB_1 := Blk.cell PB 1 rfl
  have PB_2 := Blk.cell PB 2 rfl
  have PB_f0 := Blk.free PB 0
  have PB_f1 := Blk.free PB 1
  have PB_f2 := Blk.free PB 2
  have QB_0 := Blk.cell QB 0 rfl
  have QB_1 := Blk.cell QB 1 rfl
  have QB_2 := Blk.cell QB 2 rfl
  have QB_f0 := Blk.free QB 0
  have QB_f1 := Blk.free QB 1
  have QB_f2 := Blk.free QB 2
  have r0 := lim_val m5.2.2
  obtain ⟨t0, t1, tw⟩ := HW.out _ _ _ v3.out v4.out.1 r0 v4.out.2
  have hq4 : q4 = [val 18446744073709551616 q4] := one_limb m4.2.2 n4 rfl (by omega) t1
  generalize val 18446744073709551616 q4 = T at *
  subst hq4
  rw [hL2, Bool.true_or] at tw
  go_wp2_with fail
  with_reducible refine (srounded_any (b := !b == b2) (at_ := x - x2 - up) (more := true) m4 (by omega) t1).mono ?_
  rintro e w9 ⟨rfl, hb⟩
  clear PB_0 PB_1 PB_2 PB_f0 PB_f1 PB_f2
  clear QB_0 QB_1 QB_2 QB_f0 QB_f1 QB_f2
  have hs9 := hb.size
  try simp only [World.size_alloc, World.size_setCell] at hs9
  replace bw : Below w.heap.size w w9 := dy_end (by go_grown) hb
  replace h := Lv.on h hb
  replace h2 := Lv.on h2 hb
  replace m3 := Lv.on m3 hb
  replace m4 := Lv.on m4 hb
  replace m5 := Lv.on m5 hb
  replace PB := Blk.on PB hb
  replace QB := Blk.on QB hb
  clear hb
  have PB_0 := Blk.cell PB 0 rfl
  have PB_1 := Blk.cell PB 1 rfl
  have PB_2 := Blk.cell PB 2 rfl
  have PB_f0 := Blk.free PB 0
  have PB_f1 := Blk.free PB 1
  have PB_f2 := Blk.free PB 2
  have QB_0 := Blk.cell QB 0 rfl
  have QB_1 := Blk.cell QB 1 rfl
  have QB_2 := Blk.cell QB 2 rfl
  have QB_f0 := Blk.free QB 0
  have QB_f1 := Blk.free QB 1
  have QB_f2 := Blk.free QB 2
  go_wp2_with fail
  have eb : (!b == b2) = (b != b2) := by cases b <;> cases b2 <;> rfl
  go_ret2
  exact ⟨by rw [← eb]; rfl, by go_grown⟩

set_option maxRecDepth 100000 in
set_option maxHeartbeats 8000000 in
theorem quot_mf (h : Lv w A n c l) (hn : n ≤ 4096) (h2 : Lv w A2 n2 c2 l2) (hn2 : n2 ≤ 4096) (hT : Tab w) (hm : n ≤ 60) (ho : okE x = true) (ho2 : okE x2 = true) (hz : 0 < val 18446744073709551616 l2) (hz1 : 0 < val 18446744073709551616 l) {k1 k2 : Nat} (HK1 : Hid (IsBits (val 18446744073709551616 l) k1)) (hk1 : k1 ≤ 4000) (HK2 : Hid (IsBits (val 18446744073709551616 l2) k2)) (hk2 : k2 ≤ 4000) (hL : broL (val 18446744073709551616 l) (k2 + 63 - k1) = false) :
    Calls Tryz.prog 24 #[dyV b A n c x, dyV b2 A2 n2 c2 x2] w fun e w' => e = .returned (.tuple #[.float .f64 (quotW (b != b2) (val 18446744073709551616 l).toNat (val 18446744073709551616 l2).toNat (x - x2)), .int .i64 0]) ∧ Below w.heap.size w w' := by
  have p2 : (nfl b2 (val 18446744073709551616 l2) x2).man ≠ 0 := by rw [Ne, nfl_man0 (by omega)]; omega
  have z2 := sgn_nz p2
  have ps2 := fun W (hh : Lv W A2 n2 c2 l2) (tt : Tab W) => dSign_yes (b := b2) (x := x2) hh hn2 tt ho2
  generalize sgn (nfl b2 (val 18446744073709551616 l2) x2) = y2 at z2 ps2
  have p1 : (nfl b (val 18446744073709551616 l) x).man ≠ 0 := by rw [Ne, nfl_man0 (by omega)]; omega
  have z1 := sgn_nz p1
  have ps1 := fun W (hh : Lv W A n c l) (tt : Tab W) => dSign_yes (b := b) (x := x) hh hn tt ho
  generalize sgn (nfl b (val 18446744073709551616 l) x) = y1 at z1 ps1
  have d1 : decide ((131072 : Int) < (k1 : Int)) = false := by simp; omega
  have d2 : decide ((131072 : Int) < (k2 : Int)) = false := by simp; omega
  have ob := (okE_iff x).1 ho
  have ob2 := (okE_iff x2).1 ho2
  obtain ⟨a1, e1⟩ : ∃ a1 : Int, (k2 : Int) + 64 = a1 := ⟨_, rfl⟩
  obtain ⟨a2, e2⟩ : ∃ a2 : Int, a1 - 1 = a2 := ⟨_, rfl⟩
  obtain ⟨up, e3⟩ : ∃ up : Int, a2 - (k1 : Int) = up := ⟨_, rfl⟩
  have hup : up = k2 + 63 - k1 := by omega
  have W_a1 : IntKind.i64.wrap a1 = a1 := IntWalk.i64_in _ (by omega)
  have W_a2 : IntKind.i64.wrap a2 = a2 := IntWalk.i64_in _ (by omega)
  have W_up : IntKind.i64.wrap up = up := IntWalk.i64_in _ (by omega)
  have hL2 : broL (val 18446744073709551616 l) up = false := by rw [hup]; exact hL
  have HW := Lib.hid (fun (q r s : Int) => quot_word (q := q) (r := r) (s := s) (up := up) HK1.out HK2.out hz1 hz hup)
  have HUP := Lib.hid hup
  have u0 : -4000 ≤ up ∧ up ≤ 4063 := by omega
  clear hup
  have PB := Blk.new w [.bool b, .slice A n c, .int .i64 x] 35
  have QB := Blk.new (w.alloc (.cells #[.bool b, .slice A n c, .int .i64 x] 35)) [.bool b2, .slice A2 n2 c2, .int .i64 x2] 35
  simp only [World.size_alloc] at QB
  replace PB := Blk.alloc PB (.cells #[.bool b2, .slice A2 n2 c2, .int .i64 x2] 35)
  have bw : Below w.heap.size w ((w.alloc (.cells #[.bool b, .slice A n c, .int .i64 x] 35)).alloc (.cells #[.bool b2, .slice A2 n2 c2, .int .i64 x2] 35)) := by go_grown
  have PB_0 := Blk.cell PB 0 rfl
  have PB_1 := Blk.cell PB 1 rfl
  have PB_2 := Blk.cell PB 2 rfl
  have PB_f0 := Blk.free PB 0
  have PB_f1 := Blk.free PB 1
  have PB_f2 := Blk.free PB 2
  have QB_0 := Blk.cell QB 0 rfl
  have QB_1 := Blk.cell QB 1 rfl
  have QB_2 := Blk.cell QB 2 rfl
  have QB_f0 := Blk.free QB 0
  have QB_f1 := Blk.free QB 1
  have QB_f2 := Blk.free QB 2
  replace h := h.on bw
  replace h2 := h2.on bw
  go_enter Tryz.func24, Tryz.ntmps24
  go_wp2_with fail
  with_reducible refine (dyMay_yes (b := b) (x := x) h hn ho).mono ?_
  rintro e w1 ⟨rfl, hb⟩
  clear PB_0 PB_1 PB_2 PB_f0 PB_f1 PB_f2
  clear QB_0 QB_1 QB_2 QB_f0 QB_f1 QB_f2
  have hs1 := hb.size
  try simp only [World.size_alloc, World.size_setCell] at hs1
  replace bw : Below w.heap.size w w1 := dy_end (by go_grown) hb
  replace h := Lv.on h hb
  replace h2 := Lv.on h2 hb
  replace PB := Blk.on PB hb
  replace QB := Blk.on QB hb
  clear hb
  have PB_0 := Blk.cell PB 0 rfl
  have PB_1 := Blk.cell PB 1 rfl
  have PB_2 := Blk.cell PB 2 rfl
  have PB_f0 := Blk.free PB 0
  have PB_f1 := Blk.free PB 1
  have PB_f2 := Blk.free PB 2
  have QB_0 := Blk.cell QB 0 rfl
  have QB_1 := Blk.cell QB 1 rfl
  have QB_2 := Blk.cell QB 2 rfl
  have QB_f0 := Blk.free QB 0
  have QB_f1 := Blk.free QB 1
  have QB_f2 := Blk.free QB 2
  go_wp2_with fail
  with_reducible refine (dyMay_yes (b := b2) (x := x2) h2 hn2 ho2).mono ?_
  rintro e w2 ⟨rfl, hb⟩
  clear PB_0 PB_1 PB_2 PB_f0 PB_f1 PB_f2
  clear QB_0 QB_1 QB_2 QB_f0 QB_f1 QB_f2
  have hs2 := hb.size
  try simp only [World.size_alloc, World.size_setCell] at hs2
  replace bw : Below w.heap.size w w2 := dy_end (by go_grown) hb
  replace h := Lv.on h hb
  replace h2 := Lv.on h2 hb
  replace PB := Blk.on PB hb
  replace QB := Blk.on QB hb
  clear hb
  have PB_0 := Blk.cell PB 0 rfl
  have PB_1 := Blk.cell PB 1 rfl
  have PB_2 := Blk.cell PB 2 rfl
  have PB_f0 := Blk.free PB 0
  have PB_f1 := Blk.free PB 1
  have PB_f2 := Blk.free PB 2
  have QB_0 := Blk.cell QB 0 rfl
  have QB_1 := Blk.cell QB 1 rfl
  have QB_2 := Blk.cell QB 2 rfl
  have QB_f0 := Blk.free QB 0
  have QB_f1 := Blk.free QB 1
  have QB_f2 := Blk.free QB 2
  go_wp2_with fail
  with_reducible refine (ps2 _ h2 (hT.onD (by go_grown))).mono ?_
  rintro e w3 ⟨rfl, hb⟩
  clear PB_0 PB_1 PB_2 PB_f0 PB_f1 PB_f2
  clear QB_0 QB_1 QB_2 QB_f0 QB_f1 QB_f2
  have hs3 := hb.size
  try simp only [World.size_alloc, World.size_setCell] at hs3
  replace bw : Below w.heap.size w w3 := dy_end (by go_grown) hb
  replace h := Lv.on h hb
  replace h2 := Lv.on h2 hb
  replace PB := Blk.on PB hb
  replace QB := Blk.on QB hb
  clear hb
  have PB_0 := Blk.cell PB 0 rfl
  have PB_1 := Blk.cell PB 1 rfl
  have PB_2 := Blk.cell PB 2 rfl
  have PB_f0 := Blk.free PB 0
  have PB_f1 := Blk.free PB 1
  have PB_f2 := Blk.free PB 2
  have QB_0 := Blk.cell QB 0 rfl
  have QB_1 := Blk.cell QB 1 rfl
  have QB_2 := Blk.cell QB 2 rfl
  have QB_f0 := Blk.free QB 0
  have QB_f1 := Blk.free QB 1
  have QB_f2 := Blk.free QB 2
  go_wp2_with fail
  with_reducible refine (bitsOf_is (b := b) (x := x) h hn HK1).mono ?_
  rintro e w4 ⟨rfl, hb⟩
  clear PB_0 PB_1 PB_2 PB_f0 PB_f1 PB_f2
  clear QB_0 QB_1 QB_2 QB_f0 QB_f1 QB_f2
  have hs4 := hb.size
  try simp only [World.size_alloc, World.size_setCell] at hs4
  replace bw : Below w.heap.size w w4 := dy_end (by go_grown) hb
  replace h := Lv.on h hb
  replace h2 := Lv.on h2 hb
  replace PB := Blk.on PB hb
  replace QB := Blk.on QB hb
  clear hb
  have PB_0 := Blk.cell PB 0 rfl
  have PB_1 := Blk.cell PB 1 rfl
  have PB_2 := Blk.cell PB 2 rfl
  have PB_f0 := Blk.free PB 0
  have PB_f1 := Blk.free PB 1
  have PB_f2 := Blk.free PB 2
  have QB_0 := Blk.cell QB 0 rfl
  have QB_1 := Blk.cell QB 1 rfl
  have QB_2 := Blk.cell QB 2 rfl
  have QB_f0 := Blk.free QB 0
  have QB_f1 := Blk.free QB 1
  have QB_f2 := Blk.free QB 2
  go_wp2_with fail
  with_reducible refine (bitsOf_is (b := b2) (x := x2) h2 hn2 HK2).mono ?_
  rintro e w5 ⟨rfl, hb⟩
  clear PB_0 PB_1 PB_2 PB_f0 PB_f1 PB_f2
  clear QB_0 QB_1 QB_2 QB_f0 QB_f1 QB_f2
  have hs5 := hb.size
  try simp only [World.size_alloc, World.size_setCell] at hs5
  replace bw : Below w.heap.size w w5 := dy_end (by go_grown) hb
  replace h := Lv.on h hb
  replace h2 := Lv.on h2 hb
  replace PB := Blk.on PB hb
  replace QB := Blk.on QB hb
  clear hb
  have PB_0 := Blk.cell PB 0 rfl
  have PB_1 := Blk.cell PB 1 rfl
  have PB_2 := Blk.cell PB 2 rfl
  have PB_f0 := Blk.free PB 0
  have PB_f1 := Blk.free PB 1
  have PB_f2 := Blk.free PB 2
  have QB_0 := Blk.cell QB 0 rfl
  have QB_1 := Blk.cell QB 1 rfl
  have QB_2 := Blk.cell QB 2 rfl
  have QB_f0 := Blk.free QB 0
  have QB_f1 := Blk.free QB 1
  have QB_f2 := Blk.free QB 2
  go_wp2_with fail
  with_reducible refine (ps1 _ h (hT.onD (by go_grown))).mono ?_
  rintro e w6 ⟨rfl, hb⟩
  clear PB_0 PB_1 PB_2 PB_f0 PB_f1 PB_f2
  clear QB_0 QB_1 QB_2 QB_f0 QB_f1 QB_f2
  have hs6 := hb.size
  try simp only [World.size_alloc, World.size_setCell] at hs6
  replace bw : Below w.heap.size w w6 := dy_end (by go_grown) hb
  replace h := Lv.on h hb
  replace h2 := Lv.on h2 hb
  replace PB := Blk.on PB hb
  replace QB := Blk.on QB hb
  clear hb
  have PB_0 := Blk.cell PB 0 rfl
  have PB_1 := Blk.cell PB 1 rfl
  have PB_2 := Blk.cell PB 2 rfl
  have PB_f0 := Blk.free PB 0
  have PB_f1 := Blk.free PB 1
  have PB_f2 := Blk.free PB 2
  have QB_0 := Blk.cell QB 0 rfl
  have QB_1 := Blk.cell QB 1 rfl
  have QB_2 := Blk.cell QB 2 rfl
  have QB_f0 := Blk.free QB 0
  have QB_f1 := Blk.free QB 1
  have QB_f2 := Blk.free QB 2
  go_wp2_with fail
  have hb : Below w6.heap.size w6 w6.drew := (Below.refl _ _).drew
  clear PB_0 PB_1 PB_2 PB_f0 PB_f1 PB_f2
  clear QB_0 QB_1 QB_2 QB_f0 QB_f1 QB_f2
  replace h := Lv.on h hb
  replace h2 := Lv.on h2 hb
  replace PB := Blk.on PB hb
  replace QB := Blk.on QB hb
  replace bw := dy_end bw hb
  clear hb
  have PB_0 := Blk.cell PB 0 rfl
  have PB_1 := Blk.cell PB 1 rfl
  have PB_2 := Blk.cell PB 2 rfl
  have PB_f0 := Blk.free PB 0
  have PB_f1 := Blk.free PB 1
  have PB_f2 := Blk.free PB 2
  have QB_0 := Blk.cell QB 0 rfl
  have QB_1 := Blk.cell QB 1 rfl
  have QB_2 := Blk.cell QB 2 rfl
  have QB_f0 := Blk.free QB 0
  have QB_f1 := Blk.free QB 1
  have QB_f2 := Blk.free QB 2
  refine wp_region_held_drew (S := fun w9 : World => Below w6.drew.heap.size w6.drew w9) (by kernel_rfl) (Below.refl _ _) (fun hHeld => ?_)
  refine wpAnyH_take (i := 0) (v := ?v0) rfl (by kernel_rfl) (by kernel_rfl) (by kernel_rfl) (fun _ _ _ h => h) (Or.inl ⟨by rfl, ?hy0⟩) (by assumption) ?rest0
  case hy0 => (intro w hSw; have c0 := below_cell QB_0 hSw; have c1 := below_cell QB_1 hSw; have c2 := below_cell QB_2 hSw; clear hSw; go_simp; try with_reducible rfl)
  simp only [Act.put, List.setIfInBounds_toArray, List.set_cons_zero, List.set_cons_succ, List.getElem_toArray, List.getElem_cons_zero, List.getElem_cons_succ]
  refine wpAnyH_take (i := 4) (v := ?v4) rfl (by kernel_rfl) (by kernel_rfl) (by kernel_rfl) (fun _ _ _ h => h) (Or.inl ⟨by rfl, ?hy4⟩) (by assumption) ?rest4
  case hy4 => (intro w hSw; have c0 := below_cell PB_0 hSw; have c1 := below_cell PB_1 hSw; have c2 := below_cell PB_2 hSw; clear hSw; go_simp; try with_reducible rfl)
  simp only [Act.put, List.setIfInBounds_toArray, List.set_cons_zero, List.set_cons_succ, List.getElem_toArray, List.getElem_cons_zero, List.getElem_cons_succ]
  refine wpAnyH_ready (rs := [1]) (by kernel_rfl) (by simp) ?_
  refine AllReadyH.cons rfl (fun K hK => ?_) AllReadyH.nil
  go_simp
  have hh := bitsOf_is (b := b2) (x := x2) (h2.on hHeld) hn2 HK2
  with_reducible refine (hh).mono ?_
  rintro e u1 ⟨rfl, hb⟩
  refine hK.out _ _ (dy_end hHeld hb) (fun hH => ?_)
  clear hK K hHeld hb hh
  have hHeld := hH
  clear hH
  try simp only [Act.put, List.setIfInBounds_toArray, List.set_cons_zero, List.set_cons_succ, List.getElem_toArray, List.getElem_cons_zero, List.getElem_cons_succ]
  refine wpAnyH_take (i := 2) (v := ?v2) rfl (by kernel_rfl) (by kernel_rfl) (by kernel_rfl) (fun _ _ _ h => h) (Or.inl ⟨by rfl, ?hy2⟩) (by assumption) ?rest2
  case hy2 => (intro w hSw; clear hSw; go_simp; try with_reducible rfl)
  simp only [Act.put, List.setIfInBounds_toArray, List.set_cons_zero, List.set_cons_succ, List.getElem_toArray, List.getElem_cons_zero, List.getElem_cons_succ]
  refine wpAnyH_take (i := 3) (v := ?v3) rfl (by kernel_rfl) (by kernel_rfl) (by kernel_rfl) (fun _ _ _ h => h) (Or.inl ⟨by rfl, ?hy3⟩) (by assumption) ?rest3
  case hy3 => (intro w hSw; clear hSw; go_simp; try with_reducible rfl)
  simp only [Act.put, List.setIfInBounds_toArray, List.set_cons_zero, List.set_cons_succ, List.getElem_toArray, List.getElem_cons_zero, List.getElem_cons_succ]
  refine wpAnyH_ready (rs := [5]) (by kernel_rfl) (by simp) ?_
  refine AllReadyH.cons rfl (fun K hK => ?_) AllReadyH.nil
  go_simp
  have hh := bitsOf_is (b := b) (x := x) (h.on hHeld) hn HK1
  with_reducible refine (hh).mono ?_
  rintro e u5 ⟨rfl, hb⟩
  refine hK.out _ _ (dy_end hHeld hb) (fun hH => ?_)
  clear hK K hHeld hb hh
  have hHeld := hH
  clear hH
  try simp only [Act.put, List.setIfInBounds_toArray, List.set_cons_zero, List.set_cons_succ, List.getElem_toArray, List.getElem_cons_zero, List.getElem_cons_succ]
  refine wpAnyH_take (i := 6) (v := ?v6) rfl (by kernel_rfl) (by kernel_rfl) (by kernel_rfl) (fun _ _ _ h => h) (Or.inl ⟨by rfl, ?hy6⟩) (by assumption) ?rest6
  case hy6 => (intro w hSw; clear hSw; go_simp; try with_reducible rfl)
  simp only [Act.put, List.setIfInBounds_toArray, List.set_cons_zero, List.set_cons_succ, List.getElem_toArray, List.getElem_cons_zero, List.getElem_cons_succ]
  refine wpAnyH_take (i := 7) (v := ?v7) rfl (by kernel_rfl) (by kernel_rfl) (by kernel_rfl) (fun _ _ _ h => h) (Or.inl ⟨by rfl, ?hy7⟩) (by assumption) ?rest7
  case hy7 => (intro w hSw; clear hSw; go_simp; try with_reducible rfl)
  simp only [Act.put, List.setIfInBounds_toArray, List.set_cons_zero, List.set_cons_succ, List.getElem_toArray, List.getElem_cons_zero, List.getElem_cons_succ]
  refine wpAnyH_done (by kernel_rfl) ?_ _
  clear PB_0 PB_1 PB_2 PB_f0 PB_f1 PB_f2
  clear QB_0 QB_1 QB_2 QB_f0 QB_f1 QB_f2
  replace bw : Below w.heap.size w u5 := dy_end bw hHeld
  have hs99 := bw.size
  replace h := Lv.on h hHeld
  replace h2 := Lv.on h2 hHeld
  replace PB := Blk.on PB hHeld
  replace QB := Blk.on QB hHeld
  clear hHeld
  have PB_0 := Blk.cell PB 0 rfl
  have PB_1 := Blk.cell PB 1 rfl
  have PB_2 := Blk.cell PB 2 rfl
  have PB_f0 := Blk.free PB 0
  have PB_f1 := Blk.free PB 1
  have PB_f2 := Blk.free PB 2
  have QB_0 := Blk.cell QB 0 rfl
  have QB_1 := Blk.cell QB 1 rfl
  have QB_2 := Blk.cell QB 2 rfl
  have QB_f0 := Blk.free QB 0
  have QB_f1 := Blk.free QB 1
  have QB_f2 := Blk.free QB 2
  go_wp2_with fail
  with_reducible refine (brought_any h hm (hT.onD (by go_grown)) up (by omega) (by omega)).mono ?_
  rintro e w7 ⟨s3, A3, c3, rfl, n3, v3, m3, hb⟩
  clear PB_0 PB_1 PB_2 PB_f0 PB_f1 PB_f2
  clear QB_0 QB_1 QB_2 QB_f0 QB_f1 QB_f2
  have hs7 := hb.size
  try simp only [World.size_alloc, World.size_setCell] at hs7
  replace bw : Below w.heap.size w w7 := dy_end (by go_grown) hb
  replace h := Lv.on h hb
  replace h2 := Lv.on h2 hb
  replace PB := Blk.on PB hb
  replace QB := Blk.on QB hb
  clear hb
  have PB_0 := Blk.cell PB 0 rfl
  have PB_1 := Blk.cell PB 1 rfl
  have PB_2 := Blk.cell PB 2 rfl
  have PB_f0 := Blk.free PB 0
  have PB_f1 := Blk.free PB 1
  have PB_f2 := Blk.free PB 2
  have QB_0 := Blk.cell QB 0 rfl
  have QB_1 := Blk.cell QB 1 rfl
  have QB_2 := Blk.cell QB 2 rfl
  have QB_f0 := Blk.free QB 0
  have QB_f1 := Blk.free QB 1
  have QB_f2 := Blk.free QB 2
  rw [hL2]
  go_wp2_with fail
  have ln3 : s3.length ≤ 4096 := bro_len m3.2.2 n3 v3.out HK1.out HK2.out HUP.out (by omega)
  with_reducible refine (Div_lv m3 h2 ln3 hn2 hz).mono ?_
  rintro e w8 ⟨q4, r4, A4, c4, A5, c5, rfl, n4, n5, v4, m4, m5, hb⟩
  clear PB_0 PB_1 PB_2 PB_f0 PB_f1 PB_f2
  clear QB_0 QB_1 QB_2 QB_f0 QB_f1 QB_f2
  have hs8 := hb.size
  try simp only [World.size_alloc, World.size_setCell] at hs8
  replace bw : Below w.heap.size w w8 := dy_end (by go_grown) hb
  replace h := Lv.on h hb
  replace h2 := Lv.on h2 hb
  replace m3 := Lv.on m3 hb
  replace PB := Blk.on PB hb
  replace QB := Blk.on QB hb
  clear hb
  have PB_0 := Blk.cell PB 0 rfl
  have PB_1 := Blk.cell PB 1 rfl
  have PB_2 := Blk.cell PB 2 rfl
  have PB_f0 := Blk.free PB 0
  have PB_f1 := Blk.free PB 1
  have PB_f2 := Blk.free PB 2
  have QB_0 := Blk.cell QB 0 rfl
  have QB_1 := Blk.cell QB 1 rfl
  have QB_2 := Blk.cell QB 2 rfl
  have QB_f0 := Blk.free QB 0
  have QB_f1 := Blk.free QB 1
  have QB_f2 := Blk.free QB 2
  have r0 := lim_val m5.2.2
  obtain ⟨t0, t1, tw⟩ := HW.out _ _ _ v3.out v4.out.1 r0 v4.out.2
  have hq4 : q4 = [val 18446744073709551616 q4] := one_limb m4.2.2 n4 rfl (by omega) t1
  have HR := Lib.hid (rest_len m5.2.2 n5)
  generalize val 18446744073709551616 q4 = T at *
  subst hq4
  rw [hL2, Bool.false_or, ← HR.out] at tw
  go_wp2_with fail
  with_reducible refine (srounded_any (b := !b == b2) (at_ := x - x2 - up) (more := decide (0 < r4.length)) m4 (by omega) t1).mono ?_
  rintro e w9 ⟨rfl, hb⟩
  clear PB_0 PB_1 PB_2 PB_f0 PB_f1 PB_f2
  clear QB_0 QB_1 QB_2 QB_f0 QB_f1 QB_f2
  have hs9 := hb.size
  try simp only [World.size_alloc, World.size_setCell] at hs9
  replace bw : Below w.heap.size w w9 := dy_end (by go_grown) hb
  replace h := Lv.on h hb
  replace h2 := Lv.on h2 hb
  replace m3 := Lv.on m3 hb
  replace m4 := Lv.on m4 hb
  replace m5 := Lv.on m5 hb
  replace PB := Blk.on PB hb
  replace QB := Blk.on QB hb
  clear hb
  have PB_0 := Blk.cell PB 0 rfl
  have PB_1 := Blk.cell PB 1 rfl
  have PB_2 := Blk.cell PB 2 rfl
  have PB_f0 := Blk.free PB 0
  have PB_f1 := Blk.free PB 1
  have PB_f2 := Blk.free PB 2
  have QB_0 := Blk.cell QB 0 rfl
  have QB_1 := Blk.cell QB 1 rfl
  have QB_2 := Blk.cell QB 2 rfl
  have QB_f0 := Blk.free QB 0
  have QB_f1 := Blk.free QB 1
  have QB_f2 := Blk.free QB 2
  go_wp2_with fail
  have eb : (!b == b2) = (b != b2) := by cases b <;> cases b2 <;> rfl
  go_ret2
  exact ⟨by rw [← eb]; rfl, by go_grown⟩

end
end Go.Proofs.YtfjellhbcjnjkaaGreatDoor
namespace Go.Proofs.YtfjellhbcjnjkaaGreatDoor
open Go.RowKit Go.Sort Go.Bw
set_option linter.unusedVariables false
set_option linter.unusedSimpArgs false

theorem i64_and1 (n : Int) : bits .and .i64 n 1 = n % 2 := by
  have h1 : (BitVec.ofInt 64 1).toNat = 2 ^ 1 - 1 := by decide
  have key : (BitVec.ofInt 64 n &&& BitVec.ofInt 64 1).toNat = (n % ((2 ^ 64 : Nat) : Int)).toNat % 2 ^ 1 := by
    rw [BitVec.toNat_and, BitVec.toNat_ofInt, h1, Nat.and_two_pow_sub_one_eq_mod]
  show IntKind.i64.wrap ((BitVec.ofInt 64 n &&& BitVec.ofInt 64 1).toNat : Nat) = n % 2
  rw [key, IntKind.wrap_i64]
  omega
theorem root_isq {s q r : Int} (h : IsRoot s q r) : ∃ a b : Nat, s = a ∧ q = b ∧ isq a = b ∧ (r = 0 ↔ b * b = a) := by
  obtain ⟨h1, h2, h3, h4⟩ := h
  obtain ⟨b, rfl⟩ := Int.eq_ofNat_of_zero_le h2
  have hs : 0 ≤ s := by rw [h1]; exact Int.add_nonneg (Int.mul_nonneg h2 h2) h3
  obtain ⟨a, rfl⟩ := Int.eq_ofNat_of_zero_le hs
  refine ⟨a, b, rfl, rfl, isq_eq ⟨?_, ?_⟩, ?_⟩
  · have : ((b * b : Nat) : Int) ≤ a := by push_cast; omega
    omega
  · have : ((a : Nat) : Int) < (((b + 1) * (b + 1) : Nat) : Int) := by push_cast; grind
    omega
  · have : ((b * b : Nat) : Int) = b * b := by push_cast; rfl
    omega
/-- the limb that the program takes the root to, rounded, is the root, rounded -/
theorem root_word {v q r s up x E : Int} {k : Nat} (h1 : IsBits v k) (p1 : 0 < v) (hup : up = 128 - k ∨ up = 127 - k) (hs : s = bro v up) (hd : IsRoot s q r) (hE : x - up = 2 * E) :
    9223372036854775808 ≤ q ∧ q < 18446744073709551616 ∧ (signW false (rnd q E (broL v up || decide (0 < r)))).toNat = rootW v.toNat x := by
  obtain ⟨a, rfl, a1, a2, hk1⟩ := bits_nat h1 p1
  have pa : 0 < a := Nat.lt_of_lt_of_le (Nat.two_pow_pos _) a1
  obtain ⟨N, b, hN, rfl, hq, hr⟩ := root_isq hd
  have hr0 := hd.2.2.1
  rw [Int.toNat_natCast]
  -- the size has 127 or 128 bits
  have hN2 : 2 ^ 126 ≤ N ∧ N < 2 ^ 128 := by
    rcases Int.lt_or_le up 0 with g | g
    · obtain ⟨j, hj⟩ : ∃ j : Nat, (-up).toNat = j := ⟨_, rfl⟩
      have e : N = a / 2 ^ j := by
        have : (N : Int) = ((a / 2 ^ j : Nat) : Int) := by rw [← hN, hs]; unfold bro; rw [if_pos g, hj]; push_cast; rfl
        omega
      rw [e, Nat.le_div_iff_mul_le (Nat.two_pow_pos j), Nat.div_lt_iff_lt_mul (Nat.two_pow_pos j), ← Nat.pow_add, ← Nat.pow_add]
      exact ⟨Nat.le_trans (Nat.pow_le_pow_right (by omega) (by omega)) a1, Nat.lt_of_lt_of_le a2 (Nat.pow_le_pow_right (by omega) (by omega))⟩
    · obtain ⟨u, hu⟩ : ∃ u : Nat, up.toNat = u := ⟨_, rfl⟩
      have e : N = a * 2 ^ u := by
        have : (N : Int) = ((a * 2 ^ u : Nat) : Int) := by rw [← hN, hs]; unfold bro; rw [if_neg (by omega), hu]; push_cast; rfl
        omega
      have m1 : 2 ^ (k - 1) * 2 ^ u ≤ a * 2 ^ u := Nat.mul_le_mul_right _ a1
      have m2 : a * 2 ^ u < 2 ^ k * 2 ^ u := Nat.mul_lt_mul_of_pos_right a2 (Nat.two_pow_pos _)
      rw [← Nat.pow_add] at m1 m2
      rw [e]
      exact ⟨Nat.le_trans (Nat.pow_le_pow_right (by omega) (by omega)) m1, Nat.lt_of_lt_of_le m2 (Nat.pow_le_pow_right (by omega) (by omega))⟩
  have hi := isq_is N
  rw [hq] at hi
  have q0 : 9223372036854775808 ≤ b := by
    rw [← hq]
    exact isq_ge (Nat.le_trans (by decide) hN2.1)
  have q1 : b < 18446744073709551616 := by
    rcases Nat.lt_or_ge b 18446744073709551616 with g | g
    · exact g
    · have h0 := Nat.mul_le_mul g g
      have h1 := hi.1
      have h2 := hN2.2
      exfalso
      have h3 : (18446744073709551616 : Nat) * 18446744073709551616 = 2 ^ 128 := by decide
      rw [h3] at h0
      omega
  refine ⟨by omega, by omega, ?_⟩
  have e := limb_rnd false b E (broL (a : Int) up || decide (0 < r)) (by omega) q1
  have e2 : (signW false (rnd (b : Int) E (broL (a : Int) up || decide (0 < r)))).toNat = Ieee.double.nearest false (2 * b + if (broL (a : Int) up || decide (0 < r)) = false then 0 else 1) (E - 1) := by rw [← e, Int.toNat_natCast]
  rw [e2]
  rcases Int.lt_or_le up 0 with g | g
  · obtain ⟨j, hj⟩ : ∃ j : Nat, (-up).toNat = j := ⟨_, rfl⟩
    have eN : N = a / 2 ^ j := by
      have : (N : Int) = ((a / 2 ^ j : Nat) : Int) := by rw [← hN, hs]; unfold bro; rw [if_pos g, hj]; push_cast; rfl
      omega
    have := rootW_cut a j E x pa (by omega) (by rw [← eN, hq]; omega)
    rw [← this, ← eN, hq]
    congr 2
    have em : (broL (a : Int) up || decide (0 < r)) = false ↔ (a % 2 ^ j = 0 ∧ b * b = N) := by
      unfold broL lostB
      rw [if_pos g, hj, ← hr]
      have : ((a : Int) % 2 ^ j) = ((a % 2 ^ j : Nat) : Int) := by push_cast; rfl
      rw [this]
      simp
      omega
    simp only [em]
  · obtain ⟨u, hu⟩ : ∃ u : Nat, up.toNat = u := ⟨_, rfl⟩
    have eN : N = a * 2 ^ u := by
      have : (N : Int) = ((a * 2 ^ u : Nat) : Int) := by rw [← hN, hs]; unfold bro; rw [if_neg (by omega), hu]; push_cast; rfl
      omega
    have := rootW_is a u E x pa (by omega) (by rw [← eN, hq]; omega)
    rw [← this]
    unfold rootR
    rw [← eN, hq]
    congr 2
    have em : (broL (a : Int) up || decide (0 < r)) = false ↔ b * b = N := by
      unfold broL
      rw [if_neg (by omega), ← hr]
      simp
      omega
    simp only [em]
theorem bro_len2 {s : List Int} {v1 up : Int} {k1 : Nat} (hl : Lim 18446744073709551616 s) (hn : Normal s) (hv : val 18446744073709551616 s = bro v1 up) (h1 : IsBits v1 k1) (hup : up = 128 - k1 ∨ up = 127 - k1) : s.length ≤ 4096 := by
  refine length_le_of_lt (b := 18446744073709551616) (by omega) hl hn ?_
  rw [hv, pow64]
  have e1 := h1.1
  have e2 := h1.2.1
  unfold bro
  split
  · rename_i g
    have hp := Int.pow_pos (n := (2 : Int)) (m := (-up).toNat) (by omega)
    rw [Int.ediv_lt_iff_lt_mul hp, ← Int.pow_add]
    exact Int.lt_of_lt_of_le e2 (pw_mono (by omega))
  · rename_i g
    have hp := Int.pow_pos (n := (2 : Int)) (m := up.toNat) (by omega)
    have := Int.mul_lt_mul_of_pos_right e2 hp
    rw [← Int.pow_add] at this
    exact Int.lt_of_lt_of_le this (pw_mono (by omega))
section
variable {b : Bool} {A : Option Addr} {n c : Nat} {x : Int} {l : List Int} {w : World}
theorem sgn_pos {v x : Int} (h : 0 < v) : sgn (nfl false v x) = 1 := by
  have e := nfl_pos (b := false) (e := x) h
  have o := (odd_is (n := v.toNat) (by omega)).1
  unfold sgn
  rw [e]
  simp only
  rw [if_neg (by omega)]
  rfl
theorem sgn_neg {v x : Int} (h : 0 < v) : sgn (nfl true v x) = -1 := by
  have e := nfl_pos (b := true) (e := x) h
  have o := (odd_is (n := v.toNat) (by omega)).1
  unfold sgn
  rw [e]
  simp only
  rw [if_neg (by omega)]
  rfl
set_option maxRecDepth 100000 in
set_option maxHeartbeats 4000000 in
theorem root_a (h : Lv w A n c l) (hn : n ≤ 4096) (hT : Tab w) (ho : okE x = false) :
    Calls Tryz.prog 28 #[dyV b A n c x] w fun e w' => e = .returned (.tuple #[.float .f64 0, .int .i64 2]) ∧ Below w.heap.size w w' := by
  have PB := Blk.new w [.bool b, .slice A n c, .int .i64 x] 35
  have bw : Below w.heap.size w (w.alloc (.cells #[.bool b, .slice A n c, .int .i64 x] 35)) := by go_grown
  have PB_0 := Blk.cell PB 0 rfl
  have PB_1 := Blk.cell PB 1 rfl
  have PB_2 := Blk.cell PB 2 rfl
  have PB_f0 := Blk.free PB 0
  have PB_f1 := Blk.free PB 1
  have PB_f2 := Blk.free PB 2
  replace h := h.on bw
  go_enter Tryz.func28, Tryz.ntmps28
  go_wp2_with fail
  with_reducible refine (dSign_no (b := b) (x := x) h hn (hT.onD (by go_grown)) ho).mono ?_
  rintro e w1 ⟨rfl, hb⟩
  clear PB_0 PB_1 PB_2 PB_f0 PB_f1 PB_f2
  have hs1 := hb.size
  try simp only [World.size_alloc, World.size_setCell] at hs1
  replace bw : Below w.heap.size w w1 := dy_end (by go_grown) hb
  replace h := Lv.on h hb
  replace PB := Blk.on PB hb
  clear hb
  have PB_0 := Blk.cell PB 0 rfl
  have PB_1 := Blk.cell PB 1 rfl
  have PB_2 := Blk.cell PB 2 rfl
  have PB_f0 := Blk.free PB 0
  have PB_f1 := Blk.free PB 1
  have PB_f2 := Blk.free PB 2
  go_wp2_with fail
  with_reducible refine (dyMay_no (b := b) (x := x) h hn ho).mono ?_
  rintro e w2 ⟨rfl, hb⟩
  clear PB_0 PB_1 PB_2 PB_f0 PB_f1 PB_f2
  have hs2 := hb.size
  try simp only [World.size_alloc, World.size_setCell] at hs2
  replace bw : Below w.heap.size w w2 := dy_end (by go_grown) hb
  replace h := Lv.on h hb
  replace PB := Blk.on PB hb
  clear hb
  have PB_0 := Blk.cell PB 0 rfl
  have PB_1 := Blk.cell PB 1 rfl
  have PB_2 := Blk.cell PB 2 rfl
  have PB_f0 := Blk.free PB 0
  have PB_f1 := Blk.free PB 1
  have PB_f2 := Blk.free PB 2
  go_wp2_with fail
  go_ret2
  exact ⟨rfl, by go_grown⟩

set_option maxRecDepth 100000 in
set_option maxHeartbeats 4000000 in
theorem root_b (h : Lv w A n c l) (hn : n ≤ 4096) (hT : Tab w) (ho : okE x = true) (hz : 0 < val 18446744073709551616 l) :
    Calls Tryz.prog 28 #[dyV true A n c x] w fun e w' => e = .returned (.tuple #[.float .f64 0, .int .i64 2]) ∧ Below w.heap.size w w' := by
  have ps := fun W (hh : Lv W A n c l) (tt : Tab W) => dSign_yes (b := true) (x := x) hh hn tt ho
  rw [sgn_neg (by omega)] at ps
  have PB := Blk.new w [.bool true, .slice A n c, .int .i64 x] 35
  have bw : Below w.heap.size w (w.alloc (.cells #[.bool true, .slice A n c, .int .i64 x] 35)) := by go_grown
  have PB_0 := Blk.cell PB 0 rfl
  have PB_1 := Blk.cell PB 1 rfl
  have PB_2 := Blk.cell PB 2 rfl
  have PB_f0 := Blk.free PB 0
  have PB_f1 := Blk.free PB 1
  have PB_f2 := Blk.free PB 2
  replace h := h.on bw
  go_enter Tryz.func28, Tryz.ntmps28
  go_wp2_with fail
  with_reducible refine (ps _ h (hT.onD (by go_grown))).mono ?_
  rintro e w1 ⟨rfl, hb⟩
  clear PB_0 PB_1 PB_2 PB_f0 PB_f1 PB_f2
  have hs1 := hb.size
  try simp only [World.size_alloc, World.size_setCell] at hs1
  replace bw : Below w.heap.size w w1 := dy_end (by go_grown) hb
  replace h := Lv.on h hb
  replace PB := Blk.on PB hb
  clear hb
  have PB_0 := Blk.cell PB 0 rfl
  have PB_1 := Blk.cell PB 1 rfl
  have PB_2 := Blk.cell PB 2 rfl
  have PB_f0 := Blk.free PB 0
  have PB_f1 := Blk.free PB 1
  have PB_f2 := Blk.free PB 2
  go_wp2_with fail
  with_reducible refine (dyMay_yes (b := true) (x := x) h hn ho).mono ?_
  rintro e w2 ⟨rfl, hb⟩
  clear PB_0 PB_1 PB_2 PB_f0 PB_f1 PB_f2
  have hs2 := hb.size
  try simp only [World.size_alloc, World.size_setCell] at hs2
  replace bw : Below w.heap.size w w2 := dy_end (by go_grown) hb
  replace h := Lv.on h hb
  replace PB := Blk.on PB hb
  clear hb
  have PB_0 := Blk.cell PB 0 rfl
  have PB_1 := Blk.cell PB 1 rfl
  have PB_2 := Blk.cell PB 2 rfl
  have PB_f0 := Blk.free PB 0
  have PB_f1 := Blk.free PB 1
  have PB_f2 := Blk.free PB 2
  go_wp2_with fail
  go_ret2
  exact ⟨rfl, by go_grown⟩

set_option maxRecDepth 100000 in
set_option maxHeartbeats 4000000 in
theorem root_l (h : Lv w A n c l) (hn : n ≤ 4096) (hT : Tab w) (ho : okE x = true) (hz : 0 < val 18446744073709551616 l) {k : Nat} (HK : Hid (IsBits (val 18446744073709551616 l) k)) (hk : 131072 < k) :
    Calls Tryz.prog 28 #[dyV false A n c x] w fun e w' => e = .returned (.tuple #[.float .f64 0, .int .i64 3]) ∧ Below w.heap.size w w' := by
  have ps := fun W (hh : Lv W A n c l) (tt : Tab W) => dSign_yes (b := false) (x := x) hh hn tt ho
  rw [sgn_pos (by omega)] at ps
  have d1 : decide ((131072 : Int) < (k : Int)) = true := by simp; omega
  have PB := Blk.new w [.bool false, .slice A n c, .int .i64 x] 35
  have bw : Below w.heap.size w (w.alloc (.cells #[.bool false, .slice A n c, .int .i64 x] 35)) := by go_grown
  have PB_0 := Blk.cell PB 0 rfl
  have PB_1 := Blk.cell PB 1 rfl
  have PB_2 := Blk.cell PB 2 rfl
  have PB_f0 := Blk.free PB 0
  have PB_f1 := Blk.free PB 1
  have PB_f2 := Blk.free PB 2
  replace h := h.on bw
  go_enter Tryz.func28, Tryz.ntmps28
  go_wp2_with fail
  with_reducible refine (ps _ h (hT.onD (by go_grown))).mono ?_
  rintro e w1 ⟨rfl, hb⟩
  clear PB_0 PB_1 PB_2 PB_f0 PB_f1 PB_f2
  have hs1 := hb.size
  try simp only [World.size_alloc, World.size_setCell] at hs1
  replace bw : Below w.heap.size w w1 := dy_end (by go_grown) hb
  replace h := Lv.on h hb
  replace PB := Blk.on PB hb
  clear hb
  have PB_0 := Blk.cell PB 0 rfl
  have PB_1 := Blk.cell PB 1 rfl
  have PB_2 := Blk.cell PB 2 rfl
  have PB_f0 := Blk.free PB 0
  have PB_f1 := Blk.free PB 1
  have PB_f2 := Blk.free PB 2
  go_wp2_with fail
  with_reducible refine (dyMay_yes (b := false) (x := x) h hn ho).mono ?_
  rintro e w2 ⟨rfl, hb⟩
  clear PB_0 PB_1 PB_2 PB_f0 PB_f1 PB_f2
  have hs2 := hb.size
  try simp only [World.size_alloc, World.size_setCell] at hs2
  replace bw : Below w.heap.size w w2 := dy_end (by go_grown) hb
  replace h := Lv.on h hb
  replace PB := Blk.on PB hb
  clear hb
  have PB_0 := Blk.cell PB 0 rfl
  have PB_1 := Blk.cell PB 1 rfl
  have PB_2 := Blk.cell PB 2 rfl
  have PB_f0 := Blk.free PB 0
  have PB_f1 := Blk.free PB 1
  have PB_f2 := Blk.free PB 2
  go_wp2_with fail
  with_reducible refine (bitsOf_is (b := false) (x := x) h hn HK).mono ?_
  rintro e w3 ⟨rfl, hb⟩
  clear PB_0 PB_1 PB_2 PB_f0 PB_f1 PB_f2
  have hs3 := hb.size
  try simp only [World.size_alloc, World.size_setCell] at hs3
  replace bw : Below w.heap.size w w3 := dy_end (by go_grown) hb
  replace h := Lv.on h hb
  replace PB := Blk.on PB hb
  clear hb
  have PB_0 := Blk.cell PB 0 rfl
  have PB_1 := Blk.cell PB 1 rfl
  have PB_2 := Blk.cell PB 2 rfl
  have PB_f0 := Blk.free PB 0
  have PB_f1 := Blk.free PB 1
  have PB_f2 := Blk.free PB 2
  go_wp2_with fail
  go_ret2
  exact ⟨rfl, by go_grown⟩

set_option maxRecDepth 100000 in
set_option maxHeartbeats 4000000 in
theorem root_z (h : Lv w A n c l) (hn : n ≤ 4096) (hT : Tab w) (ho : okE x = true) (hz : val 18446744073709551616 l = 0) {k : Nat} (HK : Hid (IsBits (val 18446744073709551616 l) k)) (hk : k ≤ 131072) :
    Calls Tryz.prog 28 #[dyV b A n c x] w fun e w' => e = .returned (.tuple #[.float .f64 0, .int .i64 0]) ∧ Below w.heap.size w w' := by
  have ps := fun W (hh : Lv W A n c l) (tt : Tab W) => dSign_yes (b := b) (x := x) hh hn tt ho
  rw [hz, nfl_zero, show sgn zeroN = 0 from rfl] at ps
  have d1 : decide ((131072 : Int) < (k : Int)) = false := by simp; omega
  have PB := Blk.new w [.bool b, .slice A n c, .int .i64 x] 35
  have bw : Below w.heap.size w (w.alloc (.cells #[.bool b, .slice A n c, .int .i64 x] 35)) := by go_grown
  have PB_0 := Blk.cell PB 0 rfl
  have PB_1 := Blk.cell PB 1 rfl
  have PB_2 := Blk.cell PB 2 rfl
  have PB_f0 := Blk.free PB 0
  have PB_f1 := Blk.free PB 1
  have PB_f2 := Blk.free PB 2
  replace h := h.on bw
  go_enter Tryz.func28, Tryz.ntmps28
  go_wp2_with fail
  with_reducible refine (ps _ h (hT.onD (by go_grown))).mono ?_
  rintro e w1 ⟨rfl, hb⟩
  clear PB_0 PB_1 PB_2 PB_f0 PB_f1 PB_f2
  have hs1 := hb.size
  try simp only [World.size_alloc, World.size_setCell] at hs1
  replace bw : Below w.heap.size w w1 := dy_end (by go_grown) hb
  replace h := Lv.on h hb
  replace PB := Blk.on PB hb
  clear hb
  have PB_0 := Blk.cell PB 0 rfl
  have PB_1 := Blk.cell PB 1 rfl
  have PB_2 := Blk.cell PB 2 rfl
  have PB_f0 := Blk.free PB 0
  have PB_f1 := Blk.free PB 1
  have PB_f2 := Blk.free PB 2
  go_wp2_with fail
  with_reducible refine (dyMay_yes (b := b) (x := x) h hn ho).mono ?_
  rintro e w2 ⟨rfl, hb⟩
  clear PB_0 PB_1 PB_2 PB_f0 PB_f1 PB_f2
  have hs2 := hb.size
  try simp only [World.size_alloc, World.size_setCell] at hs2
  replace bw : Below w.heap.size w w2 := dy_end (by go_grown) hb
  replace h := Lv.on h hb
  replace PB := Blk.on PB hb
  clear hb
  have PB_0 := Blk.cell PB 0 rfl
  have PB_1 := Blk.cell PB 1 rfl
  have PB_2 := Blk.cell PB 2 rfl
  have PB_f0 := Blk.free PB 0
  have PB_f1 := Blk.free PB 1
  have PB_f2 := Blk.free PB 2
  go_wp2_with fail
  with_reducible refine (bitsOf_is (b := b) (x := x) h hn HK).mono ?_
  rintro e w3 ⟨rfl, hb⟩
  clear PB_0 PB_1 PB_2 PB_f0 PB_f1 PB_f2
  have hs3 := hb.size
  try simp only [World.size_alloc, World.size_setCell] at hs3
  replace bw : Below w.heap.size w w3 := dy_end (by go_grown) hb
  replace h := Lv.on h hb
  replace PB := Blk.on PB hb
  clear hb
  have PB_0 := Blk.cell PB 0 rfl
  have PB_1 := Blk.cell PB 1 rfl
  have PB_2 := Blk.cell PB 2 rfl
  have PB_f0 := Blk.free PB 0
  have PB_f1 := Blk.free PB 1
  have PB_f2 := Blk.free PB 2
  go_wp2_with fail
  go_ret2
  exact ⟨rfl, by go_grown⟩

set_option maxRecDepth 100000 in
set_option maxHeartbeats 8000000 in
theorem root_mt (h : Lv w A n c l) (hn : n ≤ 4096) (hT : Tab w) (hm : n ≤ 60) (ho : okE x = true) (hz : 0 < val 18446744073709551616 l) {k : Nat} (HK : Hid (IsBits (val 18446744073709551616 l) k)) (hk : k ≤ 3900) (hL : broL (val 18446744073709551616 l) (128 - k - (x - (128 - k)) % 2) = true) :
    Calls Tryz.prog 28 #[dyV false A n c x] w fun e w' => e = .returned (.tuple #[.float .f64 (rootW (val 18446744073709551616 l).toNat x), .int .i64 0]) ∧ Below w.heap.size w w' := by
  have ps := fun W (hh : Lv W A n c l) (tt : Tab W) => dSign_yes (b := false) (x := x) hh hn tt ho
  rw [sgn_pos (by omega)] at ps
  have d1 : decide ((131072 : Int) < (k : Int)) = false := by simp; omega
  have ob := (okE_iff x).1 ho
  obtain ⟨a1, e1⟩ : ∃ a1 : Int, 128 - (k : Int) = a1 := ⟨_, rfl⟩
  obtain ⟨a2, e2⟩ : ∃ a2 : Int, x - a1 = a2 := ⟨_, rfl⟩
  obtain ⟨p, e3⟩ : ∃ p : Int, a2 % 2 = p := ⟨_, rfl⟩
  have e4 : bits .and .i64 a2 1 = p := (i64_and1 a2).trans e3
  obtain ⟨up, e5⟩ : ∃ up : Int, a1 - p = up := ⟨_, rfl⟩
  obtain ⟨z, e6⟩ : ∃ z : Int, x - up = z := ⟨_, rfl⟩
  obtain ⟨E, e8⟩ : ∃ E : Int, z / 2 = E := ⟨_, rfl⟩
  have hz2 : z = 2 * E := by omega
  have e7 : z.tdiv 2 = E := by rw [hz2]; exact Int.mul_tdiv_cancel_left _ (by omega)
  have hup : up = 128 - k ∨ up = 127 - k := by omega
  have hL2 : broL (val 18446744073709551616 l) up = true := by rw [← hL]; congr 1; omega
  have HW := Lib.hid (fun (q r s : Int) => root_word (q := q) (r := r) (s := s) (up := up) (x := x) (E := E) HK.out hz hup)
  have b9 : -900000 ≤ E ∧ E ≤ 900000 := by omega
  have e9 : wrap64 E = E := by unfold wrap64; omega
  have HE := Lib.hid (show x - up = 2 * E by omega)
  have HUP := Lib.hid hup
  have u0 : -4000 ≤ up ∧ up ≤ 128 := by omega
  clear hup hz2 e3 hL e8
  have PB := Blk.new w [.bool false, .slice A n c, .int .i64 x] 35
  have bw : Below w.heap.size w (w.alloc (.cells #[.bool false, .slice A n c, .int .i64 x] 35)) := by go_grown
  have PB_0 := Blk.cell PB 0 rfl
  have PB_1 := Blk.cell PB 1 rfl
  have PB_2 := Blk.cell PB 2 rfl
  have PB_f0 := Blk.free PB 0
  have PB_f1 := Blk.free PB 1
  have PB_f2 := Blk.free PB 2
  replace h := h.on bw
  go_enter Tryz.func28, Tryz.ntmps28
  go_wp2_with fail
  with_reducible refine (ps _ h (hT.onD (by go_grown))).mono ?_
  rintro e w1 ⟨rfl, hb⟩
  clear PB_0 PB_1 PB_2 PB_f0 PB_f1 PB_f2
  have hs1 := hb.size
  try simp only [World.size_alloc, World.size_setCell] at hs1
  replace bw : Below w.heap.size w w1 := dy_end (by go_grown) hb
  replace h := Lv.on h hb
  replace PB := Blk.on PB hb
  clear hb
  have PB_0 := Blk.cell PB 0 rfl
  have PB_1 := Blk.cell PB 1 rfl
  have PB_2 := Blk.cell PB 2 rfl
  have PB_f0 := Blk.free PB 0
  have PB_f1 := Blk.free PB 1
  have PB_f2 := Blk.free PB 2
  go_wp2_with fail
  with_reducible refine (dyMay_yes (b := false) (x := x) h hn ho).mono ?_
  rintro e w2 ⟨rfl, hb⟩
  clear PB_0 PB_1 PB_2 PB_f0 PB_f1 PB_f2
  have hs2 := hb.size
  try simp only [World.size_alloc, World.size_setCell] at hs2
  replace bw : Below w.heap.size w w2 := dy_end (by go_grown) hb
  replace h := Lv.on h hb
  replace PB := Blk.on PB hb
  clear hb
  have PB_0 := Blk.cell PB 0 rfl
  have PB_1 := Blk.cell PB 1 rfl
  have PB_2 := Blk.cell PB 2 rfl
  have PB_f0 := Blk.free PB 0
  have PB_f1 := Blk.free PB 1
  have PB_f2 := Blk.free PB 2
  go_wp2_with fail
  with_reducible refine (bitsOf_is (b := false) (x := x) h hn HK).mono ?_
  rintro e w3 ⟨rfl, hb⟩
  clear PB_0 PB_1 PB_2 PB_f0 PB_f1 PB_f2
  have hs3 := hb.size
  try simp only [World.size_alloc, World.size_setCell] at hs3
  replace bw : Below w.heap.size w w3 := dy_end (by go_grown) hb
  replace h := Lv.on h hb
  replace PB := Blk.on PB hb
  clear hb
  have PB_0 := Blk.cell PB 0 rfl
  have PB_1 := Blk.cell PB 1 rfl
  have PB_2 := Blk.cell PB 2 rfl
  have PB_f0 := Blk.free PB 0
  have PB_f1 := Blk.free PB 1
  have PB_f2 := Blk.free PB 2
  go_wp2_with fail
  with_reducible refine (bitsOf_is (b := false) (x := x) h hn HK).mono ?_
  rintro e w4 ⟨rfl, hb⟩
  clear PB_0 PB_1 PB_2 PB_f0 PB_f1 PB_f2
  have hs4 := hb.size
  try simp only [World.size_alloc, World.size_setCell] at hs4
  replace bw : Below w.heap.size w w4 := dy_end (by go_grown) hb
  replace h := Lv.on h hb
  replace PB := Blk.on PB hb
  clear hb
  have PB_0 := Blk.cell PB 0 rfl
  have PB_1 := Blk.cell PB 1 rfl
  have PB_2 := Blk.cell PB 2 rfl
  have PB_f0 := Blk.free PB 0
  have PB_f1 := Blk.free PB 1
  have PB_f2 := Blk.free PB 2
  go_wp2_with fail
  with_reducible refine (brought_any h hm (hT.onD (by go_grown)) up (by omega) (by omega)).mono ?_
  rintro e w5 ⟨s3, A3, c3, rfl, n3, v3, m3, hb⟩
  clear PB_0 PB_1 PB_2 PB_f0 PB_f1 PB_f2
  have hs5 := hb.size
  try simp only [World.size_alloc, World.size_setCell] at hs5
  replace bw : Below w.heap.size w w5 := dy_end (by go_grown) hb
  replace h := Lv.on h hb
  replace PB := Blk.on PB hb
  clear hb
  have PB_0 := Blk.cell PB 0 rfl
  have PB_1 := Blk.cell PB 1 rfl
  have PB_2 := Blk.cell PB 2 rfl
  have PB_f0 := Blk.free PB 0
  have PB_f1 := Blk.free PB 1
  have PB_f2 := Blk.free PB 2
  rw [hL2]
  go_wp2_with fail
  have ln3 : s3.length ≤ 4096 := bro_len2 m3.2.2 n3 v3.out HK.out HUP.out
  with_reducible refine (Sqrt_lv m3 ln3).mono ?_
  rintro e w6 ⟨q4, r4, A4, c4, A5, c5, rfl, n4, n5, v4, m4, m5, hb⟩
  clear PB_0 PB_1 PB_2 PB_f0 PB_f1 PB_f2
  have hs6 := hb.size
  try simp only [World.size_alloc, World.size_setCell] at hs6
  replace bw : Below w.heap.size w w6 := dy_end (by go_grown) hb
  replace h := Lv.on h hb
  replace m3 := Lv.on m3 hb
  replace PB := Blk.on PB hb
  clear hb
  have PB_0 := Blk.cell PB 0 rfl
  have PB_1 := Blk.cell PB 1 rfl
  have PB_2 := Blk.cell PB 2 rfl
  have PB_f0 := Blk.free PB 0
  have PB_f1 := Blk.free PB 1
  have PB_f2 := Blk.free PB 2
  obtain ⟨t0, t1, tw⟩ := HW.out _ _ _ v3.out v4.out HE.out
  have hq4 : q4 = [val 18446744073709551616 q4] := one_limb m4.2.2 n4 rfl (by omega) t1
  generalize val 18446744073709551616 q4 = T at *
  subst hq4
  rw [hL2, Bool.true_or] at tw
  go_wp2_with fail
  with_reducible refine (srounded_any (b := false) (at_ := E) (more := true) m4 (by omega) t1).mono ?_
  rintro e w7 ⟨rfl, hb⟩
  clear PB_0 PB_1 PB_2 PB_f0 PB_f1 PB_f2
  have hs7 := hb.size
  try simp only [World.size_alloc, World.size_setCell] at hs7
  replace bw : Below w.heap.size w w7 := dy_end (by go_grown) hb
  replace h := Lv.on h hb
  replace m3 := Lv.on m3 hb
  replace m4 := Lv.on m4 hb
  replace m5 := Lv.on m5 hb
  replace PB := Blk.on PB hb
  clear hb
  have PB_0 := Blk.cell PB 0 rfl
  have PB_1 := Blk.cell PB 1 rfl
  have PB_2 := Blk.cell PB 2 rfl
  have PB_f0 := Blk.free PB 0
  have PB_f1 := Blk.free PB 1
  have PB_f2 := Blk.free PB 2
  go_wp2_with fail
  go_ret2
  exact ⟨rfl, by go_grown⟩

set_option maxRecDepth 100000 in
set_option maxHeartbeats 8000000 in
theorem root_mf (h : Lv w A n c l) (hn : n ≤ 4096) (hT : Tab w) (hm : n ≤ 60) (ho : okE x = true) (hz : 0 < val 18446744073709551616 l) {k : Nat} (HK : Hid (IsBits (val 18446744073709551616 l) k)) (hk : k ≤ 3900) (hL : broL (val 18446744073709551616 l) (128 - k - (x - (128 - k)) % 2) = false) :
    Calls Tryz.prog 28 #[dyV false A n c x] w fun e w' => e = .returned (.tuple #[.float .f64 (rootW (val 18446744073709551616 l).toNat x), .int .i64 0]) ∧ Below w.heap.size w w' := by
  have ps := fun W (hh : Lv W A n c l) (tt : Tab W) => dSign_yes (b := false) (x := x) hh hn tt ho
  rw [sgn_pos (by omega)] at ps
  have d1 : decide ((131072 : Int) < (k : Int)) = false := by simp; omega
  have ob := (okE_iff x).1 ho
  obtain ⟨a1, e1⟩ : ∃ a1 : Int, 128 - (k : Int) = a1 := ⟨_, rfl⟩
  obtain ⟨a2, e2⟩ : ∃ a2 : Int, x - a1 = a2 := ⟨_, rfl⟩
  obtain ⟨p, e3⟩ : ∃ p : Int, a2 % 2 = p := ⟨_, rfl⟩
  have e4 : bits .and .i64 a2 1 = p := (i64_and1 a2).trans e3
  obtain ⟨up, e5⟩ : ∃ up : Int, a1 - p = up := ⟨_, rfl⟩
  obtain ⟨z, e6⟩ : ∃ z : Int, x - up = z := ⟨_, rfl⟩
  obtain ⟨E, e8⟩ : ∃ E : Int, z / 2 = E := ⟨_, rfl⟩
  have hz2 : z = 2 * E := by omega
  have e7 : z.tdiv 2 = E := by rw [hz2]; exact Int.mul_tdiv_cancel_left _ (by omega)
  have hup : up = 128 - k ∨ up = 127 - k := by omega
  have hL2 : broL (val 18446744073709551616 l) up = false := by rw [← hL]; congr 1; omega
  have HW := Lib.hid (fun (q r s : Int) => root_word (q := q) (r := r) (s := s) (up := up) (x := x) (E := E) HK.out hz hup)
  have b9 : -900000 ≤ E ∧ E ≤ 900000 := by omega
  have e9 : wrap64 E = E := by unfold wrap64; omega
  have HE := Lib.hid (show x - up = 2 * E by omega)
  have HUP := Lib.hid hup
  have u0 : -4000 ≤ up ∧ up ≤ 128 := by omega
  clear hup hz2 e3 hL e8
  have PB := Blk.new w [.bool false, .slice A n c, .int .i64 x] 35
  have bw : Below w.heap.size w (w.alloc (.cells #[.bool false, .slice A n c, .int .i64 x] 35)) := by go_grown
  have PB_0 := Blk.cell PB 0 rfl
  have PB_1 := Blk.cell PB 1 rfl
  have PB_2 := Blk.cell PB 2 rfl
  have PB_f0 := Blk.free PB 0
  have PB_f1 := Blk.free PB 1
  have PB_f2 := Blk.free PB 2
  replace h := h.on bw
  go_enter Tryz.func28, Tryz.ntmps28
  go_wp2_with fail
  with_reducible refine (ps _ h (hT.onD (by go_grown))).mono ?_
  rintro e w1 ⟨rfl, hb⟩
  clear PB_0 PB_1 PB_2 PB_f0 PB_f1 PB_f2
  have hs1 := hb.size
  try simp only [World.size_alloc, World.size_setCell] at hs1
  replace bw : Below w.heap.size w w1 := dy_end (by go_grown) hb
  replace h := Lv.on h hb
  replace PB := Blk.on PB hb
  clear hb
  have PB_0 := Blk.cell PB 0 rfl
  have PB_1 := Blk.cell PB 1 rfl
  have PB_2 := Blk.cell PB 2 rfl
  have PB_f0 := Blk.free PB 0
  have PB_f1 := Blk.free PB 1
  have PB_f2 := Blk.free PB 2
  go_wp2_with fail
  with_reducible refine (dyMay_yes (b := false) (x := x) h hn ho).mono ?_
  rintro e w2 ⟨rfl, hb⟩
  clear PB_0 PB_1 PB_2 PB_f0 PB_f1 PB_f2
  have hs2 := hb.size
  try simp only [World.size_alloc, World.size_setCell] at hs2
  replace bw : Below w.heap.size w w2 := dy_end (by go_grown) hb
  replace h := Lv.on h hb
  replace PB := Blk.on PB hb
  clear hb
  have PB_0 := Blk.cell PB 0 rfl
  have PB_1 := Blk.cell PB 1 rfl
  have PB_2 := Blk.cell PB 2 rfl
  have PB_f0 := Blk.free PB 0
  have PB_f1 := Blk.free PB 1
  have PB_f2 := Blk.free PB 2
  go_wp2_with fail
  with_reducible refine (bitsOf_is (b := false) (x := x) h hn HK).mono ?_
  rintro e w3 ⟨rfl, hb⟩
  clear PB_0 PB_1 PB_2 PB_f0 PB_f1 PB_f2
  have hs3 := hb.size
  try simp only [World.size_alloc, World.size_setCell] at hs3
  replace bw : Below w.heap.size w w3 := dy_end (by go_grown) hb
  replace h := Lv.on h hb
  replace PB := Blk.on PB hb
  clear hb
  have PB_0 := Blk.cell PB 0 rfl
  have PB_1 := Blk.cell PB 1 rfl
  have PB_2 := Blk.cell PB 2 rfl
  have PB_f0 := Blk.free PB 0
  have PB_f1 := Blk.free PB 1
  have PB_f2 := Blk.free PB 2
  go_wp2_with fail
  with_reducible refine (bitsOf_is (b := false) (x := x) h hn HK).mono ?_
  rintro e w4 ⟨rfl, hb⟩
  clear PB_0 PB_1 PB_2 PB_f0 PB_f1 PB_f2
  have hs4 := hb.size
  try simp only [World.size_alloc, World.size_setCell] at hs4
  replace bw : Below w.heap.size w w4 := dy_end (by go_grown) hb
  replace h := Lv.on h hb
  replace PB := Blk.on PB hb
  clear hb
  have PB_0 := Blk.cell PB 0 rfl
  have PB_1 := Blk.cell PB 1 rfl
  have PB_2 := Blk.cell PB 2 rfl
  have PB_f0 := Blk.free PB 0
  have PB_f1 := Blk.free PB 1
  have PB_f2 := Blk.free PB 2
  go_wp2_with fail
  with_reducible refine (brought_any h hm (hT.onD (by go_grown)) up (by omega) (by omega)).mono ?_
  rintro e w5 ⟨s3, A3, c3, rfl, n3, v3, m3, hb⟩
  clear PB_0 PB_1 PB_2 PB_f0 PB_f1 PB_f2
  have hs5 := hb.size
  try simp only [World.size_alloc, World.size_setCell] at hs5
  replace bw : Below w.heap.size w w5 := dy_end (by go_grown) hb
  replace h := Lv.on h hb
  replace PB := Blk.on PB hb
  clear hb
  have PB_0 := Blk.cell PB 0 rfl
  have PB_1 := Blk.cell PB 1 rfl
  have PB_2 := Blk.cell PB 2 rfl
  have PB_f0 := Blk.free PB 0
  have PB_f1 := Blk.free PB 1
  have PB_f2 := Blk.free PB 2
  rw [hL2]
  go_wp2_with fail
  have ln3 : s3.length ≤ 4096 := bro_len2 m3.2.2 n3 v3.out HK.out HUP.out
  with_reducible refine (Sqrt_lv m3 ln3).mono ?_
  rintro e w6 ⟨q4, r4, A4, c4, A5, c5, rfl, n4, n5, v4, m4, m5, hb⟩
  clear PB_0 PB_1 PB_2 PB_f0 PB_f1 PB_f2
  have hs6 := hb.size
  try simp only [World.size_alloc, World.size_setCell] at hs6
  replace bw : Below w.heap.size w w6 := dy_end (by go_grown) hb
  replace h := Lv.on h hb
  replace m3 := Lv.on m3 hb
  replace PB := Blk.on PB hb
  clear hb
  have PB_0 := Blk.cell PB 0 rfl
  have PB_1 := Blk.cell PB 1 rfl
  have PB_2 := Blk.cell PB 2 rfl
  have PB_f0 := Blk.free PB 0
  have PB_f1 := Blk.free PB 1
  have PB_f2 := Blk.free PB 2
  obtain ⟨t0, t1, tw⟩ := HW.out _ _ _ v3.out v4.out HE.out
  have hq4 : q4 = [val 18446744073709551616 q4] := one_limb m4.2.2 n4 rfl (by omega) t1
  have HR := Lib.hid (rest_len m5.2.2 n5)
  generalize val 18446744073709551616 q4 = T at *
  subst hq4
  rw [hL2, Bool.false_or, ← HR.out] at tw
  go_wp2_with fail
  with_reducible refine (srounded_any (b := false) (at_ := E) (more := decide (0 < r4.length)) m4 (by omega) t1).mono ?_
  rintro e w7 ⟨rfl, hb⟩
  clear PB_0 PB_1 PB_2 PB_f0 PB_f1 PB_f2
  have hs7 := hb.size
  try simp only [World.size_alloc, World.size_setCell] at hs7
  replace bw : Below w.heap.size w w7 := dy_end (by go_grown) hb
  replace h := Lv.on h hb
  replace m3 := Lv.on m3 hb
  replace m4 := Lv.on m4 hb
  replace m5 := Lv.on m5 hb
  replace PB := Blk.on PB hb
  clear hb
  have PB_0 := Blk.cell PB 0 rfl
  have PB_1 := Blk.cell PB 1 rfl
  have PB_2 := Blk.cell PB 2 rfl
  have PB_f0 := Blk.free PB 0
  have PB_f1 := Blk.free PB 1
  have PB_f2 := Blk.free PB 2
  go_wp2_with fail
  go_ret2
  exact ⟨rfl, by go_grown⟩

end
end Go.Proofs.YtfjellhbcjnjkaaGreatDoor
