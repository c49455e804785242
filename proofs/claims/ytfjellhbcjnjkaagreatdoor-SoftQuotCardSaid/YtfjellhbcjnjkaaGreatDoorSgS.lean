/-
  Layer 4, the law of quotients: the reference's quotient, bit by bit; the law.
-/
import Derived.Test.YtfjellhbcjnjkaaGreatDoorSgO
import Derived.Test.YtfjellhbcjnjkaaGreatDoorSDyX
import Derived.Test.YtfjellhbcjnjkaaGreatDoorSDyO
import Derived.Deep.Cut
import Derived.IntWalk
namespace Go.Proofs.YtfjellhbcjnjkaaGreatDoor
open Go Go.RowKit
set_option linter.unusedVariables false
set_option linter.unusedSimpArgs false

/-! ### the quotient, from the top bit down -/
def DivInv (v u : Int) (n j : Nat) (C : List Int) : Prop := C.length = n ∧ Lim 18446744073709551616 C ∧ val 18446744073709551616 C = v / 2 ^ j / u * 2 ^ j
theorem half_up {v : Int} (i : Nat) : v / 2 ^ i = 2 * (v / 2 ^ (i + 1)) + v / 2 ^ i % 2 := by
  have e : v / 2 ^ (i + 1) = v / 2 ^ i / 2 := by
    rw [Int.pow_succ]
    exact (Int.ediv_ediv_of_nonneg (Int.le_of_lt (two_pos i))).symm
  rw [e]
  omega
theorem quot_bit {v u : Int} (hu : 0 < u) (i : Nat) :
    (2 * (v / 2 ^ (i + 1) % u) + v / 2 ^ i % 2 < u → v / 2 ^ i / u = 2 * (v / 2 ^ (i + 1) / u) ∧ v / 2 ^ i % u = 2 * (v / 2 ^ (i + 1) % u) + v / 2 ^ i % 2) ∧
    (u ≤ 2 * (v / 2 ^ (i + 1) % u) + v / 2 ^ i % 2 → v / 2 ^ i / u = 2 * (v / 2 ^ (i + 1) / u) + 1 ∧ v / 2 ^ i % u = 2 * (v / 2 ^ (i + 1) % u) + v / 2 ^ i % 2 - u) := by
  have h1 := half_up (v := v) i
  have h2 : 0 ≤ v / 2 ^ i % 2 ∧ v / 2 ^ i % 2 ≤ 1 := by omega
  generalize v / 2 ^ i % 2 = b at *
  generalize v / 2 ^ i = x at *
  generalize v / 2 ^ (i + 1) = y at *
  have h3 := Int.mul_ediv_add_emod y u
  have h4 := Int.emod_nonneg y (Int.ne_of_gt hu)
  have h5 := Int.emod_lt_of_pos y hu
  generalize y / u = Q at *
  generalize y % u = R at *
  subst h3
  refine ⟨fun h => ?_, fun h => ?_⟩
  · refine (Int.ediv_emod_unique hu).2 ⟨?_, by omega, by omega⟩
    rw [h1]; grind
  · refine (Int.ediv_emod_unique hu).2 ⟨?_, by omega, by omega⟩
    rw [h1]; grind
theorem pow_split9 {r : Nat} (hr : r < 64) : (18446744073709551616 : Int) = 2 ^ (r + 1) * 2 ^ (63 - r) := by
  rw [← Int.pow_add, show r + 1 + (63 - r) = 64 by omega]; rfl
theorem zero_of_mul {P Z : Int} (hP : 0 < P) (h0 : 0 ≤ P * Z) (h1 : P * Z < P) : Z = 0 := by
  rcases Int.lt_trichotomy Z 0 with h | h | h
  · have := Int.mul_le_mul_of_nonneg_left (show Z ≤ -1 by omega) (Int.le_of_lt hP)
    omega
  · exact h
  · have := Int.mul_le_mul_of_nonneg_left (show 1 ≤ Z by omega) (Int.le_of_lt hP)
    omega
/-- a list whose number is a multiple of 2^(i+1) has room for bit i -/
theorem room_of {C : List Int} {Q : Int} {i q r : Nat} (hl : Lim 18446744073709551616 C) (hv : val 18446744073709551616 C = Q * 2 ^ (i + 1)) (hq : i = 64 * q + r) (hr : r < 64) (hqn : q < C.length) :
    0 ≤ D C q ∧ D C q + 2 ^ r < 18446744073709551616 := by
  have e1 := val_take_drop 18446744073709551616 C q (by omega)
  have e2 := S_of_bound (b := 18446744073709551616) (by omega) hl q
  have e3 := val_drop 18446744073709551616 C q (by omega)
  have hd := D_lim (b := 18446744073709551616) (by omega) hl q
  have hB : (2 : Int) ^ (i + 1) = 18446744073709551616 ^ q * 2 ^ (r + 1) := by rw [← pow_limbs]; congr 1; omega
  have hw := pow_split9 hr
  have hT : (2 : Int) ^ (r + 1) = 2 * 2 ^ r := by rw [Int.pow_succ]; omega
  have hT0 := two_pos (r + 1)
  have hR0 := two_pos r
  have hP0 : (0 : Int) < 18446744073709551616 ^ q := Int.pow_pos (by omega)
  rw [hv, hB] at e1
  generalize (18446744073709551616 : Int) ^ q = P at *
  generalize val 18446744073709551616 (C.drop q) = V at *
  generalize val 18446744073709551616 (C.drop (q + 1)) = V2 at *
  generalize S 18446744073709551616 (D C) q = s at *
  generalize D C q = x at *
  generalize (2 : Int) ^ (r + 1) = T at *
  generalize (2 : Int) ^ (63 - r) = U at *
  generalize (2 : Int) ^ r = R at *
  have z1 : s = P * (Q * T - V) := by grind
  have z2 := zero_of_mul hP0 (by omega) (by omega) (Z := Q * T - V)
  have z3 : x = T * (Q - U * V2) := by
    have z : T * (Q - U * V2) = Q * T - (T * U) * V2 := by grind
    rw [z, ← hw]
    omega
  have z4 : Q - U * V2 < U := by
    rcases (show Q - U * V2 < U ∨ U ≤ Q - U * V2 by omega) with h | h
    · exact h
    · have := Int.mul_le_mul_of_nonneg_left h (Int.le_of_lt hT0)
      omega
  have z5 := Int.mul_le_mul_of_nonneg_left (show Q - U * V2 ≤ U - 1 by omega) (Int.le_of_lt hT0)
  have z6 : T * (U - 1) = T * U - T := by grind
  exact ⟨hd.1, by omega⟩
theorem DivInv.start {v u : Int} {n j : Nat} (hv : IsBits v j) (hu : 0 < u) : DivInv v u n j (List.replicate n 0) := by
  refine ⟨by simp, Lim.zeros (by omega) _, ?_⟩
  rw [val_replicate, Int.ediv_eq_zero_of_lt hv.1 hv.2.1, Int.zero_ediv, Int.zero_mul]
theorem DivInv.rest0 {v u : Int} {j : Nat} (hv : IsBits v j) : v / 2 ^ j % u = 0 := by
  rw [Int.ediv_eq_zero_of_lt hv.1 hv.2.1, Int.zero_emod]
theorem DivInv.step0 {v u : Int} {n i : Nat} {C : List Int} (h : DivInv v u n (i + 1) C) (hu : 0 < u) (hlt : 2 * (v / 2 ^ (i + 1) % u) + v / 2 ^ i % 2 < u) : DivInv v u n i C := by
  obtain ⟨h1, h2, h3⟩ := h
  refine ⟨h1, h2, ?_⟩
  rw [h3, ((quot_bit hu i).1 hlt).1, Int.pow_succ]
  grind
theorem DivInv.step1 {v u : Int} {n i q r : Nat} {C : List Int} (h : DivInv v u n (i + 1) C) (hu : 0 < u) (hge : u ≤ 2 * (v / 2 ^ (i + 1) % u) + v / 2 ^ i % 2) (hq : i = 64 * q + r) (hr : r < 64) (hqn : q < n) :
    0 ≤ D C q ∧ D C q + 2 ^ r < 18446744073709551616 ∧ DivInv v u n i (C.set q (D C q + 2 ^ r)) := by
  obtain ⟨h1, h2, h3⟩ := h
  obtain ⟨r1, r2⟩ := room_of h2 h3 hq hr (by omega)
  have hp := two_pos r
  refine ⟨r1, r2, by simp [h1], h2.set _ (by omega) (by omega), ?_⟩
  rw [val_set _ _ _ _ (by omega), h3, ((quot_bit hu i).2 hge).1, Int.pow_succ]
  rw [show (2 : Int) ^ i = 18446744073709551616 ^ q * 2 ^ r by rw [← pow_limbs]; congr 1]
  grind
theorem DivInv.done {v u : Int} {n : Nat} {C : List Int} (h : DivInv v u n 0 C) : val 18446744073709551616 C = v / u := by
  have := h.2.2
  rwa [Int.pow_zero, Int.ediv_one, Int.mul_one] at this
theorem rest_len9 {l : List Int} (hl : Lim 18446744073709551616 l) (hn : Normal l) : decide (0 < l.length) = decide (val 18446744073709551616 l ≠ 0) := by
  cases l with
  | nil => rfl
  | cons x t =>
    have : val 18446744073709551616 (x :: t) ≠ 0 := fun h => by
      have := nuq hl hn (Lim.nil _) Normal.nil (by rw [h, val_nil])
      cases this
    rw [decide_eq_true this]
    exact decide_eq_true (Nat.succ_pos _)

end Go.Proofs.YtfjellhbcjnjkaaGreatDoor
namespace Go.Proofs.YtfjellhbcjnjkaaGreatDoor
open Go Go.RowKit
set_option linter.unusedVariables false
set_option linter.unusedSimpArgs false

/-- a new number, in memory of its own -/
def NewO (v : Int) (w : World) (e : Ending) (w' : World) : Prop :=
  ∃ l A c, e = .returned (.slice A l.length c) ∧ Normal l ∧ Lim 18446744073709551616 l ∧ Hid (val 18446744073709551616 l = v) ∧ Own w' w.heap.size A c l ∧ Below w.heap.size w w'
theorem Made.newO {v : Int} {w w' : World} {e : Ending} (h : Made v w e w') : NewO v w e w' := by
  obtain ⟨s, A, c, h1, h2, h3, h4, h5, h6⟩ := h
  exact ⟨s, A, c, h1, h3, h2, h4, h5, h6⟩
theorem Own.lv9 {w : World} {B c : Nat} {A : Option Addr} {l : List Int} (h : Own w B A c l) (hl : Lim 18446744073709551616 l) : Lv w A l.length c l := ⟨rfl, h.nums, hl⟩
theorem Own.far9 {w : World} {B c : Nat} {A : Option Addr} {l : List Int} (h : Own w B A c l) {p : Addr} (hp : p.block < B) (u : Value) : Own (w.setCell p u) B A c l := ownsRow_setCell_below h hp u
theorem refAdd_o {A A2 : Option Addr} {n m c c2 : Nat} {l s : List Int} {w : World} (h : Lv w A n c l) (h2 : Lv w A2 m c2 s) (hn : n ≤ 100000) (hm : m ≤ 100000) :
    Calls Tryz.prog 60 #[.slice A n c, .slice A2 m c2] w (NewO (val 18446744073709551616 l + val 18446744073709551616 s) w) := by
  have := refAdd_any A c l A2 c2 s w h.2.1 h.2.2 h2.2.1 h2.2.2 (by rw [h.1]; omega) (by rw [h2.1]; omega)
  rw [h.1, h2.1] at this
  exact this.mono fun e w' q => q.newO
theorem refSub_o {A A2 : Option Addr} {n m c c2 : Nat} {l s : List Int} {w : World} (h : Lv w A n c l) (h2 : Lv w A2 m c2 s) (hn : n ≤ 100000) (hm : m ≤ 100000) (hle : val 18446744073709551616 s ≤ val 18446744073709551616 l) :
    Calls Tryz.prog 95 #[.slice A n c, .slice A2 m c2] w (NewO (val 18446744073709551616 l - val 18446744073709551616 s) w) := by
  have := refSub_any A c l A2 c2 s w h.2.1 h.2.2 h2.2.1 h2.2.2 (by rw [h.1]; omega) (by rw [h2.1]; omega) hle
  rw [h.1, h2.1] at this
  exact this.mono fun e w' q => q.newO
theorem lv_one9 (W : World) : Lv (W.alloc (.cells #[.int .u64 1] 22)) (some ⟨W.heap.size, 0, none⟩) 1 1 [1] := Lv.row W [1] 1 _ rfl rfl (by omega) lim_one _ rfl
theorem val_one9 : val 18446744073709551616 [1] = 1 := by decide
/-- the rest as the round begins: what fits -/
theorem rest_fits {v u : Int} {j m : Nat} {R : List Int} (hl : Lim 18446744073709551616 R) (hn : Normal R) (hv : val 18446744073709551616 R = v / 2 ^ j % u) (hu : 0 < u) (hm : u < 18446744073709551616 ^ m) : R.length ≤ m :=
  len_val hl hn hv (Int.lt_trans (Int.emod_lt_of_pos _ hu) hm)
theorem twice_fits {v u b x : Int} {j m : Nat} {R : List Int} (hl : Lim 18446744073709551616 R) (hn : Normal R) (hv : val 18446744073709551616 R = x) (hx : x ≤ v / 2 ^ j % u + v / 2 ^ j % u + 1) (hu : 0 < u) (hm : u < 18446744073709551616 ^ m) : R.length ≤ m + 1 := by
  refine len_val hl hn hv ?_
  have h1 := Int.emod_lt_of_pos (v / 2 ^ j) hu
  rw [Int.pow_succ]
  generalize (18446744073709551616 : Int) ^ m = P at *
  omega

set_option maxRecDepth 20000 in
set_option maxHeartbeats 8000000 in
theorem refDivide_lv {A A2 : Option Addr} {n m c c2 : Nat} {l s : List Int} {w : World} (h : Lv w A n c l) (h2 : Lv w A2 m c2 s) (hn : n ≤ 4000) (hm : m ≤ 4000) (hu : 0 < val 18446744073709551616 s) :
    Calls Tryz.prog 56 #[.slice A n c, .slice A2 m c2] w fun e w' => ∃ q A1 c1, e = .returned (.tuple #[.slice A1 q.length c1, .bool (decide (val 18446744073709551616 l % val 18446744073709551616 s ≠ 0))]) ∧
      Normal q ∧ Hid (val 18446744073709551616 q = val 18446744073709551616 l / val 18446744073709551616 s) ∧ Lv w' A1 q.length c1 q ∧ Below w.heap.size w w' := by
  have hv0 := h.nonneg
  have hbd : ∀ k, IsBits (val 18446744073709551616 l) k → k ≤ 64 * n := fun k hk => bits_le (h.less (Nat.le_refl n)) hk
  have hum := h2.less (Nat.le_refl m)
  have hbits := bitB_val h.2.2
  have kb := fun (W : World) (hb : Below w.heap.size w W) => refBits_any (h.on hb) (show n ≤ 4096 by omega)
  obtain ⟨v, hv⟩ : ∃ v, val 18446744073709551616 l = v := ⟨_, rfl⟩
  obtain ⟨u, huu⟩ : ∃ u, val 18446744073709551616 s = u := ⟨_, rfl⟩
  rw [hv] at hv0 hbd hbits kb ⊢
  rw [huu] at hu hum ⊢
  have HB := Lib.hid hbits
  have HU := Lib.hid hu
  have HM := Lib.hid hum
  have HUU := Lib.hid huu
  have hn2 : (n : Int) ≤ 4000 := by omega
  obtain ⟨N, hN⟩ : ∃ N, n + 1 = N := ⟨_, rfl⟩
  have hNi : (n : Int) + 1 = N := by omega
  have HN := Lib.hid hN
  have hmk := fun W => run_make N (by omega) W
  have hbN : Below w.heap.size w (w.alloc (.cells (L (List.replicate N 0)).toArray 22)) := (Below.refl _ w).alloc (Nat.le_refl _) _
  have p1 := kb _ hbN
  have hr0 : Row (w.alloc (.cells (L (List.replicate N 0)).toArray 22)) w.heap.size (List.replicate N 0) := Row.new _ _
  have hsz : w.heap.size < (w.alloc (.cells (L (List.replicate N 0)).toArray 22)).heap.size := hr0.lt
  clear hbits hv hu hum huu hN kb
  go_enter Tryz.func56, Tryz.ntmps56
  go_wp2_with fail
  with_reducible refine p1.mono ?_
  rintro e w1 ⟨b, rfl, hb1, hb⟩
  have hb2 := hbd b hb1
  have HBB := Lib.hid hb1
  have HB2 := Lib.hid hb2
  have hb3 : (b : Int) ≤ 300000 := by omega
  have hst := Lib.hid (DivInv.start (v := v) (u := u) (n := N) (j := b) hb1 HU.out)
  have hst0 := Lib.hid (DivInv.rest0 (v := v) (u := u) (j := b) hb1)
  have hr1 := hr0.below hb hsz
  have hs1 : w.heap.size < w1.heap.size := hr1.lt
  have hbw1 := bel_then hbN hb
  clear p1 hbd hb1 hb2 hmk hr0 hsz hb hbN
  go_wp2_with fail
  go_loopw [7, 8] (fun r i wr => ∃ (j : Nat) (z : Int) (R C : List Int) (A7 : Option Addr) (c7 : Nat), r = .slice A7 R.length c7 ∧ i = .int .i64 z ∧ z = (j : Int) - 1 ∧ j ≤ b ∧ Normal R ∧ Lim 18446744073709551616 R ∧ Hid (val 18446744073709551616 R = v / 2 ^ j % u) ∧ Own wr w1.heap.size A7 c7 R ∧ Hid (DivInv v u N j C) ∧ Row wr w.heap.size C ∧ Below w.heap.size w wr ∧ w1.heap.size ≤ wr.heap.size) (fun r i _ => (intOf i + 1).toNat)
  case atStart => exact ⟨b, (b : Int) - 1, [], List.replicate N 0, none, 0, rfl, rfl, rfl, Nat.le_refl _, Normal.nil, Lim.nil _, by show _ = _; rw [val_nil, hst0.out], Own.nil _ _, hst, hr1, hbw1, Nat.le_refl _⟩
  case round =>
    obtain ⟨j, z, R, C, A7, c7, rfl, rfl, hz, hjb, n_R, l_R, v_R, o_R, hD, hr, hbw, hsw⟩ := hrel
    rcases j with _ | k
    · -- through: what was found
      have hz1 : z = -1 := by omega
      subst hz1
      clear hz
      have hfin := Lib.hid hD.out.done
      have hCn : C.length = N := hD.out.1
      have hlim := hD.out.2.1
      have hgl := hr.lt
      have hNm : N ≤ 4001 := by have := HN.out; omega
      have hnum := hr.nums (B := wr.heap.size) (c := N) 0 N (by omega) (by omega) (by unfold maxLen; omega) hgl
      rw [List.drop_zero, List.take_of_length_le (by omega)] at hnum
      have p3 := refNorm_any (some ⟨w.heap.size, 0, none⟩) N C wr hnum hlim (by omega)
      rw [hCn] at p3
      unfold NormPost at p3
      have hlen := rest_len9 l_R n_R
      rw [v_R.out, Int.pow_zero, Int.ediv_one] at hlen
      have HLEN := Lib.hid hlen
      clear hnum hlen
      go_wp2_with fail
      with_reducible refine p3.mono ?_
      rintro e w5 ⟨A9, c9, rfl, s4, s5⟩
      go_wp2_with fail
      go_ret2
      exact ⟨norm C, A9, c9, by rw [← HLEN.out]; rfl, norm_normal C, by show _ = _; rw [norm_val, hfin.out], ⟨rfl, s4.nums, norm_lim hlim⟩, bel_then hbw s5⟩
    · obtain rfl : z = (k : Int) := by omega
      clear hz
      have hkb : (k : Int) < b := by omega
      have lenR : R.length ≤ m := rest_fits l_R n_R v_R.out HU.out HM.out
      have QF := Lib.hid (quot_bit (v := v) HU.out k)
      have q1 := refAdd_o (o_R.lv9 l_R) (o_R.lv9 l_R) (by omega) (by omega)
      rw [v_R.out] at q1
      have hCn : C.length = N := hD.out.1
      go_wp2_with fail
      with_reducible refine q1.mono ?_
      rintro e w2 ⟨R2, A8, c8, rfl, n_2, l_2, v_2, o_2, hb2⟩
      have lenR2 : R2.length ≤ m + 1 := twice_fits (b := 0) l_2 n_2 v_2.out (Int.le_of_lt (Int.lt_succ _)) HU.out HM.out
      have hbw2 := bel_then hbw hb2
      have hr2 := hr.below hb2 (Nat.lt_of_lt_of_le hs1 hsw)
      have hsw2 : w1.heap.size ≤ w2.heap.size := Nat.le_trans hsw hb2.size
      replace o_2 := o_2.less hsw
      have q2 := refBit_any (h.on hbw2) k (by omega)
      rw [HB.out k] at q2
      have q2s := refCmp_any (o_2.lv9 l_2) (h2.on hbw2) (by omega) (by omega)
      rw [v_2.out, HUU.out] at q2s
      have v_2b := v_2
      have HK := Lib.hid (show k + 1 ≤ b by omega)
      clear q1 hb2 hr hbw hsw o_R n_R l_R
      by_cases hbit : v / 2 ^ k % 2 = 1
      · rw [decide_eq_true hbit] at q2
        have HBIT := Lib.hid hbit
        clear hbit
        have g0 := lv_one9 w2
        have b0 : Below w2.heap.size w2 (w2.alloc (.cells #[.int .u64 1] 22)) := (Below.refl _ w2).alloc (Nat.le_refl _) _
        have q3 := refAdd_o ((o_2.lv9 l_2).on b0) g0 (by omega) (by omega)
        rw [v_2.out, val_one9] at q3
        go_wp2_with fail
        with_reducible refine q2.mono ?_
        rintro e w3 ⟨rfl, rfl⟩
        go_wp2_with fail
        with_reducible refine q3.mono ?_
        rintro e w3 ⟨R3, A9, c9, rfl, n_3, l_3, v_3, o_3, hb3⟩
        have b3 := bel_then b0 hb3
        have lenR3 : R3.length ≤ m + 1 := twice_fits (b := 0) l_3 n_3 v_3.out (Int.le_refl _) HU.out HM.out
        have hbw3 := bel_then hbw2 b3
        have hr3 := hr2.below b3 (Nat.lt_of_lt_of_le hs1 hsw2)
        have hsw3 : w1.heap.size ≤ w3.heap.size := Nat.le_trans hsw2 b3.size
        have hs0 : w2.heap.size ≤ (w2.alloc (.cells #[.int .u64 1] 22)).heap.size := b0.size
        replace o_3 := o_3.less (Nat.le_trans hsw2 hs0)
        clear q2 q2s q3 g0 b0 hb3 b3 hr2 hbw2 o_2 l_2 n_2 lenR2 hs0
        have lt_or := Int.lt_or_le (v / 2 ^ (k + 1) % u + v / 2 ^ (k + 1) % u + 1) u
        have q5 := refCmp_any (o_3.lv9 l_3) (h2.on hbw3) (by omega) (by omega)
        rw [v_3.out, HUU.out] at q5
        rcases lt_or with hlt | hge
        · rw [sg_lt hlt] at q5
          have hlt2 : 2 * (v / 2 ^ (k + 1) % u) + v / 2 ^ k % 2 < u := by rw [HBIT.out]; omega
          have HD0 := Lib.hid (hD.out.step0 HU.out hlt2)
          have HV : Hid (val 18446744073709551616 R3 = v / 2 ^ k % u) := by
            show _ = _
            rw [(QF.out.1 hlt2).2, HBIT.out, v_3.out]
            omega
          clear hlt hlt2 hD
          go_wp2_with fail
          with_reducible refine q5.mono ?_
          rintro e w4 ⟨rfl, hb4⟩
          go_wp2_with fail
          go_roundw
          case rel => exact ⟨k, (k : Int) - 1, R3, C, A9, c9, rfl, by go_num, rfl, by have := HK.out; omega, n_3, l_3, HV, o_3.below hb4, HD0, hr3.below hb4 (Nat.lt_of_lt_of_le hs1 hsw3), bel_then hbw3 hb4, Nat.le_trans hsw3 hb4.size⟩
          case measure => simp [intOf]
        · obtain ⟨g, hg⟩ : ∃ g, sg (v / 2 ^ (k + 1) % u + v / 2 ^ (k + 1) % u + 1) u = g := ⟨_, rfl⟩
          have hg0 : 0 ≤ g := by
            rw [← hg]
            rcases Int.lt_or_eq_of_le hge with h' | h'
            · rw [sg_gt h']; omega
            · rw [← h', sg_eq]; omega
          rw [hg] at q5
          have hge2 : u ≤ 2 * (v / 2 ^ (k + 1) % u) + v / 2 ^ k % 2 := by rw [HBIT.out]; omega
          obtain ⟨qq, hq⟩ : ∃ q, k / 64 = q := ⟨_, rfl⟩
          obtain ⟨rr, hrr⟩ : ∃ r, k % 64 = r := ⟨_, rfl⟩
          have hqi : (k : Int) / 64 = qq := by omega
          have hri : (k : Int) % 64 = rr := by omega
          have hr64 : rr < 64 := by omega
          have hqn : qq < N := by have := HB2.out; have := HN.out; omega
          obtain ⟨g1, g2, g3⟩ := hD.out.step1 HU.out hge2 (q := qq) (r := rr) (by omega) hr64 hqn
          have hp0 := two_pos rr
          obtain ⟨x, hx⟩ : ∃ x, D C qq = x := ⟨_, rfl⟩
          obtain ⟨p, hp⟩ : ∃ p : Int, 2 ^ rr = p := ⟨_, rfl⟩
          rw [hx, hp] at g2 g3
          rw [hx] at g1
          rw [hp] at hp0
          have hpw : IntKind.u64.wrap p = p := by rw [IntKind.wrap_u64]; omega
          obtain ⟨y, hy⟩ : ∃ y, x + p = y := ⟨_, rfl⟩
          rw [hy] at g2 g3
          have hyw : IntKind.u64.wrap (x + p) = y := by rw [hy, IntKind.wrap_u64]; omega
          have G3 := Lib.hid g3
          have HV : ∀ R9 : List Int, val 18446744073709551616 R9 = v / 2 ^ (k + 1) % u + v / 2 ^ (k + 1) % u + 1 - u → Hid (val 18446744073709551616 R9 = v / 2 ^ k % u) := by
            intro R9 h9
            show _ = _
            rw [(QF.out.2 hge2).2, HBIT.out, h9]
            omega
          have j0 : (0 : Int) ≤ qq := by omega
          have j1 : (qq : Int) < N := by omega
          have j3 : (rr : Int) < 64 := by omega
          have j4 : (0 : Int) ≤ rr := by omega
          have HX := Lib.hid hx
          have HQC := Lib.hid (show qq < C.length by rw [hCn]; exact hqn)
          have HGE := Lib.hid hge
          clear hq hrr hr64 hqn hx hy g3 hD hge hge2 hg QF
          go_wp2_with fail
          with_reducible refine q5.mono ?_
          rintro e w4 ⟨rfl, hb4⟩
          have hbw4 := bel_then hbw3 hb4
          have hr4 := hr3.below hb4 (Nat.lt_of_lt_of_le hs1 hsw3)
          have hsw4 : w1.heap.size ≤ w4.heap.size := Nat.le_trans hsw3 hb4.size
          have o_4 := o_3.below hb4
          have q6 := refSub_o (o_4.lv9 l_3) (h2.on hbw4) (by omega) (by omega) (by rw [v_3.out, HUU.out]; exact HGE.out)
          rw [v_3.out, HUU.out] at q6
          clear q5
          go_wp2_with fail
          with_reducible refine q6.mono ?_
          rintro e w6 ⟨R6, A6, c6, rfl, n_6, l_6, v_6, o_6, hb6⟩
          have hbw6 := bel_then hbw4 hb6
          have hr6 := hr4.below hb6 (Nat.lt_of_lt_of_le hs1 hsw4)
          have hsw6 : w1.heap.size ≤ w6.heap.size := Nat.le_trans hsw4 hb6.size
          replace o_6 := o_6.less hsw4
          have c0 := hr6.cell (k := qq) HQC.out
          have f0 := hr6.frozen qq
          rw [HX.out] at c0
          have HV6 := HV R6 v_6.out
          clear q6 hb4 hb6 hbw4 hr4 hsw4 o_4 HV
          go_wp2_with fail
          go_roundw
          case rel => exact ⟨k, (k : Int) - 1, R6, C.set qq y, A6, c6, rfl, by go_num, rfl, by have := HK.out; omega, n_6, l_6, HV6, o_6.far9 hs1 _, G3, hr6.set_ qq y, hbw6.setCell (p := ⟨w.heap.size, qq, none⟩) (Nat.le_refl _) _, Nat.le_trans hsw6 ((Below.refl 0 w6).setCell (p := ⟨w.heap.size, qq, none⟩) (Nat.zero_le _) _).size⟩
          case measure => simp [intOf]
      · have hbit0 : v / 2 ^ k % 2 = 0 := by omega
        rw [decide_eq_false hbit] at q2
        have HBIT := Lib.hid hbit0
        clear hbit hbit0
        go_wp2_with fail
        with_reducible refine q2.mono ?_
        rintro e w3 ⟨rfl, rfl⟩
        clear q2
        have lt_or := Int.lt_or_le (v / 2 ^ (k + 1) % u + v / 2 ^ (k + 1) % u) u
        have q5 := refCmp_any (o_2.lv9 l_2) (h2.on hbw2) (by omega) (by omega)
        rw [v_2.out, HUU.out] at q5
        rcases lt_or with hlt | hge
        · rw [sg_lt hlt] at q5
          have hlt2 : 2 * (v / 2 ^ (k + 1) % u) + v / 2 ^ k % 2 < u := by rw [HBIT.out]; omega
          have HD0 := Lib.hid (hD.out.step0 HU.out hlt2)
          have HV : Hid (val 18446744073709551616 R2 = v / 2 ^ k % u) := by
            show _ = _
            rw [(QF.out.1 hlt2).2, HBIT.out, v_2.out]
            omega
          clear hlt hlt2 hD
          go_wp2_with fail
          with_reducible refine q5.mono ?_
          rintro e w4 ⟨rfl, hb4⟩
          go_wp2_with fail
          go_roundw
          case rel => exact ⟨k, (k : Int) - 1, R2, C, A8, c8, rfl, by go_num, rfl, by have := HK.out; omega, n_2, l_2, HV, o_2.below hb4, HD0, hr2.below hb4 (Nat.lt_of_lt_of_le hs1 hsw2), bel_then hbw2 hb4, Nat.le_trans hsw2 hb4.size⟩
          case measure => simp [intOf]
        · obtain ⟨g, hg⟩ : ∃ g, sg (v / 2 ^ (k + 1) % u + v / 2 ^ (k + 1) % u) u = g := ⟨_, rfl⟩
          have hg0 : 0 ≤ g := by
            rw [← hg]
            rcases Int.lt_or_eq_of_le hge with h' | h'
            · rw [sg_gt h']; omega
            · rw [← h', sg_eq]; omega
          rw [hg] at q5
          have hge2 : u ≤ 2 * (v / 2 ^ (k + 1) % u) + v / 2 ^ k % 2 := by rw [HBIT.out]; omega
          obtain ⟨qq, hq⟩ : ∃ q, k / 64 = q := ⟨_, rfl⟩
          obtain ⟨rr, hrr⟩ : ∃ r, k % 64 = r := ⟨_, rfl⟩
          have hqi : (k : Int) / 64 = qq := by omega
          have hri : (k : Int) % 64 = rr := by omega
          have hr64 : rr < 64 := by omega
          have hqn : qq < N := by have := HB2.out; have := HN.out; omega
          obtain ⟨g1, g2, g3⟩ := hD.out.step1 HU.out hge2 (q := qq) (r := rr) (by omega) hr64 hqn
          have hp0 := two_pos rr
          obtain ⟨x, hx⟩ : ∃ x, D C qq = x := ⟨_, rfl⟩
          obtain ⟨p, hp⟩ : ∃ p : Int, 2 ^ rr = p := ⟨_, rfl⟩
          rw [hx, hp] at g2 g3
          rw [hx] at g1
          rw [hp] at hp0
          have hpw : IntKind.u64.wrap p = p := by rw [IntKind.wrap_u64]; omega
          obtain ⟨y, hy⟩ : ∃ y, x + p = y := ⟨_, rfl⟩
          rw [hy] at g2 g3
          have hyw : IntKind.u64.wrap (x + p) = y := by rw [hy, IntKind.wrap_u64]; omega
          have G3 := Lib.hid g3
          have HV : ∀ R9 : List Int, val 18446744073709551616 R9 = v / 2 ^ (k + 1) % u + v / 2 ^ (k + 1) % u - u → Hid (val 18446744073709551616 R9 = v / 2 ^ k % u) := by
            intro R9 h9
            show _ = _
            rw [(QF.out.2 hge2).2, HBIT.out, h9]
            omega
          have j0 : (0 : Int) ≤ qq := by omega
          have j1 : (qq : Int) < N := by omega
          have j3 : (rr : Int) < 64 := by omega
          have j4 : (0 : Int) ≤ rr := by omega
          have HX := Lib.hid hx
          have HQC := Lib.hid (show qq < C.length by rw [hCn]; exact hqn)
          have HGE := Lib.hid hge
          clear hq hrr hr64 hqn hx hy g3 hD hge hge2 hg QF
          go_wp2_with fail
          with_reducible refine q5.mono ?_
          rintro e w4 ⟨rfl, hb4⟩
          have hbw4 := bel_then hbw2 hb4
          have hr4 := hr2.below hb4 (Nat.lt_of_lt_of_le hs1 hsw2)
          have hsw4 : w1.heap.size ≤ w4.heap.size := Nat.le_trans hsw2 hb4.size
          have o_4 := o_2.below hb4
          have q6 := refSub_o (o_4.lv9 l_2) (h2.on hbw4) (by omega) (by omega) (by rw [v_2.out, HUU.out]; exact HGE.out)
          rw [v_2.out, HUU.out] at q6
          clear q5
          go_wp2_with fail
          with_reducible refine q6.mono ?_
          rintro e w6 ⟨R6, A6, c6, rfl, n_6, l_6, v_6, o_6, hb6⟩
          have hbw6 := bel_then hbw4 hb6
          have hr6 := hr4.below hb6 (Nat.lt_of_lt_of_le hs1 hsw4)
          have hsw6 : w1.heap.size ≤ w6.heap.size := Nat.le_trans hsw4 hb6.size
          replace o_6 := o_6.less hsw4
          have c0 := hr6.cell (k := qq) HQC.out
          have f0 := hr6.frozen qq
          rw [HX.out] at c0
          have HV6 := HV R6 v_6.out
          clear q6 hb4 hb6 hbw4 hr4 hsw4 o_4 HV
          go_wp2_with fail
          go_roundw
          case rel => exact ⟨k, (k : Int) - 1, R6, C.set qq y, A6, c6, rfl, by go_num, rfl, by have := HK.out; omega, n_6, l_6, HV6, o_6.far9 hs1 _, G3, hr6.set_ qq y, hbw6.setCell (p := ⟨w.heap.size, qq, none⟩) (Nat.le_refl _) _, Nat.le_trans hsw6 ((Below.refl 0 w6).setCell (p := ⟨w.heap.size, qq, none⟩) (Nat.zero_le _) _).size⟩
          case measure => simp [intOf]

end Go.Proofs.YtfjellhbcjnjkaaGreatDoor
namespace Go.Proofs.YtfjellhbcjnjkaaGreatDoor
open Go Go.RowKit Go.Bw
set_option linter.unusedVariables false
set_option linter.unusedSimpArgs false

theorem top_bounds {v : Int} {b : Nat} (hb : IsBits v b) (h : 64 ≤ b) : 9223372036854775808 ≤ v / 2 ^ (b - 64) ∧ v / 2 ^ (b - 64) < 18446744073709551616 := by
  obtain ⟨h0, h1, h2⟩ := hb
  have hp := two_pos (b - 64)
  have e1 : (2 : Int) ^ b = 2 ^ (b - 64) * 18446744073709551616 := by
    rw [show (18446744073709551616 : Int) = 2 ^ 64 from rfl, ← Int.pow_add]; congr 1; omega
  have e2 : (2 : Int) ^ (b - 1) = 2 ^ (b - 64) * 9223372036854775808 := by
    rw [show (9223372036854775808 : Int) = 2 ^ 63 from rfl, ← Int.pow_add]; congr 1; omega
  have h3 := h2 (by omega)
  rw [e1] at h1
  rw [e2] at h3
  exact ⟨(Int.le_ediv_iff_mul_le hp).2 (by rw [Int.mul_comm]; exact h3), Int.ediv_lt_of_lt_mul hp (by rw [Int.mul_comm]; exact h1)⟩
theorem val_one_list (T : Int) : val 18446744073709551616 [T] = T := by
  rw [val_cons, val_nil]; omega
theorem top_one {l : List Int} {T : Int} (hl : Lim 18446744073709551616 l) (hn : Normal l) (hv : val 18446744073709551616 l = T) (h0 : 0 < T) (h1 : T < 18446744073709551616) : l = [T] := by
  refine nuq hl hn ?_ (.inr ?_) ?_
  · intro x hx
    simp at hx
    omega
  · show T ≠ 0
    omega
  · rw [hv, val_one_list]
theorem roundMay_top {T exp : Int} {more : Bool} (h : 9223372036854775808 ≤ T) : roundMay T exp more = true := by
  unfold roundMay
  rw [decide_eq_false (show ¬ T < 9007199254740992 by omega)]
  simp

set_option maxRecDepth 20000 in
set_option maxHeartbeats 8000000 in
theorem refRound_any (neg more : Bool) (ex : Int) {A : Option Addr} {n c b : Nat} {l : List Int} {w : World} (h : Lv w A n c l) (hn : n ≤ 4096) (hb : IsBits (val 18446744073709551616 l) b) (h64 : 64 ≤ b) (x0 : -2305843009213693952 ≤ ex) (x1 : ex ≤ 2305843009213693952) :
    Calls Tryz.prog 58 #[.bool neg, .slice A n c, .int .i64 ex, .bool more] w fun e w' =>
      e = .returned (.int .u64 (signW neg (rnd (val 18446744073709551616 l / 2 ^ (b - 64)) (ex + b - 64) (more || lostB (val 18446744073709551616 l) (b - 64))))) ∧ Below w.heap.size w w' := by
  have hT := top_bounds hb h64
  have k1 := refBits_any h hn
  have HB := Lib.hid hb
  have hbn := bits_le (h.less (Nat.le_refl n)) hb
  have k2 := fun (W : World) (hW : Below w.heap.size w W) => refShr_lv (h.on hW) hn (b - 64) (by omega) _ rfl
  obtain ⟨v, hv⟩ : ∃ v, val 18446744073709551616 l = v := ⟨_, rfl⟩
  rw [hv] at k1 k2 hT HB ⊢
  obtain ⟨d, hd⟩ : ∃ d, b - 64 = d := ⟨_, rfl⟩
  rw [hd] at k2 hT ⊢
  obtain ⟨T, hTT⟩ : ∃ T, v / 2 ^ d = T := ⟨_, rfl⟩
  obtain ⟨L, hL⟩ : ∃ L, lostB v d = L := ⟨_, rfl⟩
  rw [hL, hTT] at k2
  rw [hTT] at hT
  rw [hTT, hL]
  obtain ⟨t0, t1⟩ := hT
  have hdi : (b : Int) - 64 = d := by omega
  have hbi : (b : Int) ≤ 300000 := by omega
  have hb0 : (0 : Int) ≤ b := by omega
  have K4 := fun (mo : Bool) (W : World) => rround_any neg mo T (ex + b - 64) (by omega) (by omega) (roundMay_top t0) W
  have t0' : 0 < T := by omega
  clear hb hv hd hTT hL h64 h hbn t0
  go_enter Tryz.func58, Tryz.ntmps58
  go_wp2_with fail
  with_reducible refine k1.mono ?_
  rintro e w1 ⟨b', rfl, hb', hb1⟩
  obtain rfl := HB.out.unique hb'
  have k3 := k2 w1 hb1
  clear k1 hb' k2
  go_wp2_with fail
  with_reducible refine k3.mono ?_
  rintro e w2 ⟨s, A2, c2, rfl, n_s, v_s, m_s, hb2⟩
  have es := top_one m_s.2.2 n_s v_s.out t0' t1
  subst es
  have bw := bel_then hb1 hb2
  obtain ⟨ad, rfl, hadb, hadc⟩ := m_s.2.1.at_ (k := 0) (by simp)
  have c0 := m_s.at 0 (by simp)
  rw [show D [T] 0 = T from rfl] at c0
  have ea : ad.add 0 = ad := by cases ad; simp [Addr.add]
  rw [ea] at c0
  clear k3 n_s v_s m_s hb1 hb2 hadb hadc ea
  cases more
  · have K5 := K4 L w2
    clear K4
    go_wp2_with fail
    with_reducible refine K5.mono ?_
    rintro e w3 ⟨rfl, hb3⟩
    go_wp2_with fail
    go_ret
    exact ⟨rfl, bel_then bw hb3⟩
  · have K5 := K4 true w2
    clear K4
    go_wp2_with fail
    with_reducible refine K5.mono ?_
    rintro e w3 ⟨rfl, hb3⟩
    go_wp2_with fail
    go_ret
    exact ⟨rfl, bel_then bw hb3⟩

end Go.Proofs.YtfjellhbcjnjkaaGreatDoor
namespace Go.Proofs.YtfjellhbcjnjkaaGreatDoor
open Go Go.RowKit Go.Sort Go.Bw
set_option linter.unusedVariables false
set_option linter.unusedSimpArgs false

/-- a long number and a rest, rounded as the reference rounds it, is the nearest float -/
theorem near_top (neg r : Bool) (s : Nat) (E : Int) {b : Nat} (hb : IsBits (s : Int) b) (h64 : 64 ≤ b) :
    signW neg (rnd ((s : Int) / 2 ^ (b - 64)) (E + b - 64) (r || lostB (s : Int) (b - 64))) = (Ieee.double.nearest neg (2 * s + if r then 1 else 0) (E - 1) : Int) := by
  obtain ⟨t0, t1⟩ := top_bounds hb h64
  obtain ⟨d, hd⟩ : ∃ d, b - 64 = d := ⟨_, rfl⟩
  rw [hd] at t0 t1 ⊢
  obtain ⟨R, hR⟩ : ∃ R : Nat, (if r then 1 else 0 : Nat) = R := ⟨_, rfl⟩
  have hR1 : R ≤ 1 := by rw [← hR]; split <;> omega
  rw [hR]
  have hp := Nat.two_pow_pos d
  have e2 : 2 ^ (d + 1) = 2 * 2 ^ d := by rw [Nat.pow_succ]; omega
  have h2 : (2 * s + R) / 2 = s := by omega
  have ediv : (2 * s + R) / 2 ^ (d + 1) = s / 2 ^ d := by rw [e2, ← Nat.div_div_eq_div_mul, h2]
  have emod : (2 * s + R) % 2 ^ (d + 1) = R + 2 * (s % 2 ^ d) := by
    rw [e2, Nat.mod_mul, h2]; congr 1; omega
  have hS : ((s / 2 ^ d : Nat) : Int) = (s : Int) / 2 ^ d := by push_cast; rfl
  have hM : ((s % 2 ^ d : Nat) : Int) = (s : Int) % 2 ^ d := by push_cast; rfl
  rw [← hS] at t0 t1 ⊢
  have hs0 : s ≠ 0 := by
    rintro rfl
    rw [Nat.zero_div] at t0
    omega
  have := nearest_rnd neg (2 * s + R) (d + 1) (E - 1) (by omega) (by rw [ediv]; omega) (.inr (by rw [ediv]; omega))
  rw [this, ediv, emod]
  congr 1
  have ex : E + b - 64 = E - 1 + ((d + 1 : Nat) : Int) := by omega
  have mo : (r || lostB (s : Int) d) = decide (R + 2 * (s % 2 ^ d) ≠ 0) := by
    unfold lostB
    rw [← hM]
    cases r
    · have : R = 0 := by rw [← hR]; rfl
      subst this
      rw [Bool.false_or]
      by_cases h : s % 2 ^ d = 0
      · rw [h]; rfl
      · rw [decide_eq_true (by omega), decide_eq_true (by omega)]
    · have : R = 1 := by rw [← hR]; rfl
      subst this
      rw [Bool.true_or, decide_eq_true (by omega)]
  rw [ex, mo]
theorem bits_64 {v : Int} {b : Nat} (hb : IsBits v b) (h : 9223372036854775808 ≤ v) : 64 ≤ b := by
  rcases Nat.lt_or_ge b 64 with g | g
  · have h1 := hb.2.1
    have h2 := pow_word g
    omega
  · exact g
/-- the quotient, rounded -/
theorem ref_quot {a d : Nat} (neg : Bool) (ha : 0 < a) (hd : 0 < d) {k1 k2 u : Nat} (h1 : IsBits (a : Int) k1) (h2 : IsBits (d : Int) k2) (hu : k2 + 70 ≤ k1 + u) {q : Int} (hq : q = (a : Int) * 2 ^ u / d) {b : Nat} (hb : IsBits q b) (E : Int) :
    64 ≤ b ∧ signW neg (rnd (q / 2 ^ (b - 64)) (E - u + b - 64) (decide ((a : Int) * 2 ^ u % d ≠ 0) || lostB q (b - 64))) = (quotW neg a d E : Int) := by
  have eN : (a : Int) * 2 ^ u = ((a * 2 ^ u : Nat) : Int) := by push_cast; rfl
  rw [eN] at hq ⊢
  have eq' : q = ((a * 2 ^ u / d : Nat) : Int) := by rw [hq]; push_cast; rfl
  have em : ((a * 2 ^ u : Nat) : Int) % d = ((a * 2 ^ u % d : Nat) : Int) := by push_cast; rfl
  rw [em]
  clear hq
  subst eq'
  have big : 9223372036854775808 ≤ a * 2 ^ u / d := by
    rw [Nat.le_div_iff_mul_le hd]
    have h1' := h1
    obtain ⟨_, _, a1⟩ := h1'
    obtain ⟨_, d1, _⟩ := h2
    have hk1 : 0 < k1 := by
      rcases Nat.eq_zero_or_pos k1 with g | g
      · subst g
        have := h1.2.1
        omega
      · exact g
    have a2 : 2 ^ (k1 - 1) ≤ a := by
      have := a1 hk1
      have e : ((2 ^ (k1 - 1) : Nat) : Int) = (2 : Int) ^ (k1 - 1) := by push_cast; rfl
      omega
    have d2 : d < 2 ^ k2 := by
      have e : ((2 ^ k2 : Nat) : Int) = (2 : Int) ^ k2 := by push_cast; rfl
      omega
    have e1 : 2 ^ (k1 - 1) * 2 ^ u ≤ a * 2 ^ u := Nat.mul_le_mul_right _ a2
    have e2 : 9223372036854775808 * 2 ^ k2 ≤ 2 ^ (k1 - 1) * 2 ^ u := by
      rw [← Nat.pow_add, show 9223372036854775808 = 2 ^ 63 from rfl, ← Nat.pow_add]
      exact Nat.pow_le_pow_right (by omega) (by omega)
    have e3 : 9223372036854775808 * d ≤ 9223372036854775808 * 2 ^ k2 := Nat.mul_le_mul_left _ (by omega)
    omega
  have h64 := bits_64 hb (by omega)
  refine ⟨h64, ?_⟩
  have n := near_top neg (decide (a * 2 ^ u % d ≠ 0)) (a * 2 ^ u / d) (E - u) hb h64
  have eb : decide (((a * 2 ^ u % d : Nat) : Int) ≠ 0) = decide (a * 2 ^ u % d ≠ 0) := by
    by_cases g : a * 2 ^ u % d = 0
    · rw [g]; rfl
    · rw [decide_eq_true (by omega), decide_eq_true g]
  rw [eb, n]
  have w := quotW_is neg a d u 0 E ha hd (by rw [Nat.pow_zero, Nat.mul_one]; omega)
  rw [← w]
  unfold ratio
  rw [Nat.pow_zero, Nat.mul_one]
  by_cases g : a * 2 ^ u % d = 0
  · rw [g]
    simp
  · rw [decide_eq_true g, if_neg g]
    simp
/-! ### the root's loop -/
theorem root_start {v : Int} {b : Nat} (hb : IsBits v b) : v < (0 + 2 ^ (b / 2 + 2)) * (0 + 2 ^ (b / 2 + 2)) := by
  rw [Int.zero_add, ← Int.pow_add]
  exact Int.lt_of_lt_of_le hb.2.1 (pow_le' (b := 2) (by omega) (by omega))
end Go.Proofs.YtfjellhbcjnjkaaGreatDoor
namespace Go.Proofs.YtfjellhbcjnjkaaGreatDoor
open Go Go.RowKit Go.Sort Go.Bw
set_option linter.unusedVariables false
set_option linter.unusedSimpArgs false

/-- s has been found down to bit j -/
def RootInv (M : Int) (j : Nat) (s : Int) : Prop := 0 ≤ s ∧ s * s ≤ M ∧ M < (s + 2 ^ j) * (s + 2 ^ j)
theorem RootInv.start {M : Int} {b : Nat} (hb : IsBits M b) : RootInv M (b / 2 + 2) 0 := ⟨by omega, by have := hb.1; omega, root_start hb⟩
theorem man_le {b : Bool} {v x : Int} (hv : 0 < v) : ((nfl b v x).man : Int) ≤ v := by
  rw [nfl_pos hv]
  have h := (odd_is (n := v.toNat) (by omega)).2
  have hp := Nat.two_pow_pos (tz v.toNat)
  have : odd v.toNat ≤ v.toNat := by
    calc odd v.toNat ≤ odd v.toNat * 2 ^ tz v.toNat := Nat.le_mul_of_pos_right _ hp
      _ = v.toNat := h.symm
  show ((odd v.toNat : Nat) : Int) ≤ v
  omega
section
variable {b : Bool} {A : Option Addr} {n c : Nat} {x : Int} {l : List Int} {w : World}
set_option maxRecDepth 100000 in
set_option maxHeartbeats 8000000 in
theorem rLong_no (h : Lv w A n c l) (hn : n ≤ 2048) :
    Calls Tryz.prog 53 #[dyV b A n c x] w fun e w' => e = .returned (.bool false) ∧ Below w.heap.size w w' := by
  have PB := Blk.new w [.bool b, .slice A n c, .int .i64 x] 35
  have bw : Below w.heap.size w (w.alloc (.cells #[.bool b, .slice A n c, .int .i64 x] 35)) := by go_grown
  obtain ⟨PB_0, PB_1, PB_2, PB_f0, PB_f1, PB_f2⟩ := Dbx.cells PB
  replace h := h.on bw
  have hq := norm_length l
  have hl := h.1
  have hq2 : decide ((2048 : Int) < ((norm l).length : Int)) = false := by simp; omega
  clear hq hl
  go_enter Tryz.func53, Tryz.ntmps53
  go_wp2_with fail
  with_reducible refine (refNorm_lv h (by omega)).mono ?_
  rintro e w1 ⟨A1, c1, rfl, m1, hb⟩
  clear PB_0 PB_1 PB_2 PB_f0 PB_f1 PB_f2
  have hs1 := hb.size
  try simp only [World.size_alloc, World.size_setCell] at hs1
  replace bw : Below w.heap.size w w1 := dy_end (by go_grown) hb
  replace h := Lv.on h hb
  replace PB := Blk.on PB hb
  clear hb
  obtain ⟨PB_0, PB_1, PB_2, PB_f0, PB_f1, PB_f2⟩ := Dbx.cells PB
  go_wp2_with fail
  go_ret
  exact ⟨rfl, by go_grown⟩

end
end Go.Proofs.YtfjellhbcjnjkaaGreatDoor
namespace Go.Proofs.YtfjellhbcjnjkaaGreatDoor
open Go Go.RowKit Go.Sort Go.Bw
set_option linter.unusedVariables false
set_option linter.unusedSimpArgs false

/-- two normal numbers in the boxes g, g + 1 -/
def TwoQ (w : World) (d d2 : Nf) (w' : World) : Prop :=
  ∃ b3 q3 A3 c3 x3 b4 q4 A4 c4 x4, Dn b3 q3 x3 d ∧ Dn b4 q4 x4 d2 ∧ Lv w' A3 q3.length c3 q3 ∧ Lv w' A4 q4.length c4 q4 ∧ Dbx w' w.heap.size b3 A3 q3.length c3 x3 ∧ Dbx w' (w.heap.size + 1) b4 A4 q4.length c4 x4 ∧ Below w.heap.size w w'
theorem keep6 {g : Nat} {u0 u1 u2 u3 u4 u5 : Value} {W W' : World} (hb : Below W.heap.size W W') (hg : g + 1 < W.heap.size)
    (h : W.cell? ⟨g, 0, none⟩ = some u0 ∧ W.cell? ⟨g, 1, none⟩ = some u1 ∧ W.cell? ⟨g, 2, none⟩ = some u2 ∧ W.cell? ⟨g + 1, 0, none⟩ = some u3 ∧ W.cell? ⟨g + 1, 1, none⟩ = some u4 ∧ W.cell? ⟨g + 1, 2, none⟩ = some u5) :
    W'.cell? ⟨g, 0, none⟩ = some u0 ∧ W'.cell? ⟨g, 1, none⟩ = some u1 ∧ W'.cell? ⟨g, 2, none⟩ = some u2 ∧ W'.cell? ⟨g + 1, 0, none⟩ = some u3 ∧ W'.cell? ⟨g + 1, 1, none⟩ = some u4 ∧ W'.cell? ⟨g + 1, 2, none⟩ = some u5 := by
  have k := fun (b o : Nat) (hb' : b < W.heap.size) => hb.cell (p := ⟨b, o, none⟩) hb'
  exact ⟨(k _ _ (by omega)).trans h.1, (k _ _ (by omega)).trans h.2.1, (k _ _ (by omega)).trans h.2.2.1, (k _ _ hg).trans h.2.2.2.1, (k _ _ hg).trans h.2.2.2.2.1, (k _ _ hg).trans h.2.2.2.2.2⟩
theorem shl_122 {m : Int} {up : Nat} (h : m < 18446744073709551616 ^ 60) (h0 : 0 ≤ m) (hu : up ≤ 3910) : m * 2 ^ up < 18446744073709551616 ^ 122 := by
  have e : (18446744073709551616 : Int) ^ 122 = 18446744073709551616 ^ 60 * 18446744073709551616 ^ 62 := by rw [← Int.pow_add]
  have h1 := Int.mul_lt_mul_of_pos_right h (two_pos up)
  have h2 : (2 : Int) ^ up ≤ 18446744073709551616 ^ 62 := by rw [pow64]; exact pow_le' (by omega) (by omega)
  rw [e]
  exact Int.lt_of_lt_of_le h1 (Int.mul_le_mul_of_nonneg_left h2 (Int.le_of_lt (Int.pow_pos (by omega))))
section
variable {b : Bool} {A : Option Addr} {n c : Nat} {x : Int} {l : List Int} {w : World}
theorem rSign_nz (b : Bool) (x : Int) (hn : n ≤ 4096) (ho : okE x = true) (hv : Hid (val 18446744073709551616 l ≠ 0)) : ∃ y : Int, y ≠ 0 ∧ ∀ (W : World) (h : Lv W A n c l),
    Calls Tryz.prog 52 #[dyV b A n c x] W fun e w' => e = .returned (.int .i64 y) ∧ Below W.heap.size W w' := by
  cases b
  · exact ⟨1, by omega, fun W h => rSign_false h hn ho rfl hv⟩
  · exact ⟨-1, by omega, fun W h => rSign_true h hn ho rfl hv⟩
variable {b2 : Bool} {A2 : Option Addr} {n2 c2 : Nat} {x2 : Int} {l2 : List Int}
set_option maxRecDepth 100000 in
set_option maxHeartbeats 8000000 in
theorem rQuot_a (h : Lv w A n c l) (hn : n ≤ 60) (h2 : Lv w A2 n2 c2 l2) (hn2 : n2 ≤ 60) (ho : okE x = false) :
    Calls Tryz.prog 25 #[dyV b A n c x, dyV b2 A2 n2 c2 x2] w fun e w' => e = .returned (.tuple #[.int .u64 (0), .int .i64 2]) ∧ Below w.heap.size w w' := by
  have PB := Blk.new w [.bool b, .slice A n c, .int .i64 x] 35
  have QB := Blk.new (w.alloc (.cells #[.bool b, .slice A n c, .int .i64 x] 35)) [.bool b2, .slice A2 n2 c2, .int .i64 x2] 35
  simp only [World.size_alloc] at QB
  replace PB := Blk.alloc PB (.cells #[.bool b2, .slice A2 n2 c2, .int .i64 x2] 35)
  have bw : Below w.heap.size w ((w.alloc (.cells #[.bool b, .slice A n c, .int .i64 x] 35)).alloc (.cells #[.bool b2, .slice A2 n2 c2, .int .i64 x2] 35)) := by go_grown
  obtain ⟨PB_0, PB_1, PB_2, PB_f0, PB_f1, PB_f2⟩ := Dbx.cells PB
  obtain ⟨QB_0, QB_1, QB_2, QB_f0, QB_f1, QB_f2⟩ := Dbx.cells QB
  replace h := h.on bw
  replace h2 := h2.on bw
  go_enter Tryz.func25, Tryz.ntmps25
  go_wp2_with fail
  with_reducible refine (rMay_no (b := b) (x := x) h (by omega) ho).mono ?_
  rintro e w1 ⟨rfl, hb⟩
  clear PB_0 PB_1 PB_2 PB_f0 PB_f1 PB_f2
  clear QB_0 QB_1 QB_2 QB_f0 QB_f1 QB_f2
  have hs1 := hb.size
  try simp only [World.size_alloc, World.size_setCell] at hs1
  replace bw : Below w.heap.size w w1 := dy_end (by go_grown) hb
  replace h := Lv.on h hb
  replace h2 := Lv.on h2 hb
  replace PB := Blk.on PB hb
  replace QB := Blk.on QB hb
  clear hb
  obtain ⟨PB_0, PB_1, PB_2, PB_f0, PB_f1, PB_f2⟩ := Dbx.cells PB
  obtain ⟨QB_0, QB_1, QB_2, QB_f0, QB_f1, QB_f2⟩ := Dbx.cells QB
  go_wp2_with fail
  go_ret2
  exact ⟨rfl, by go_grown⟩

set_option maxRecDepth 100000 in
set_option maxHeartbeats 8000000 in
theorem rQuot_b (h : Lv w A n c l) (hn : n ≤ 60) (h2 : Lv w A2 n2 c2 l2) (hn2 : n2 ≤ 60) (ho : okE x = true) (ho2 : okE x2 = false) :
    Calls Tryz.prog 25 #[dyV b A n c x, dyV b2 A2 n2 c2 x2] w fun e w' => e = .returned (.tuple #[.int .u64 (0), .int .i64 2]) ∧ Below w.heap.size w w' := by
  have PB := Blk.new w [.bool b, .slice A n c, .int .i64 x] 35
  have QB := Blk.new (w.alloc (.cells #[.bool b, .slice A n c, .int .i64 x] 35)) [.bool b2, .slice A2 n2 c2, .int .i64 x2] 35
  simp only [World.size_alloc] at QB
  replace PB := Blk.alloc PB (.cells #[.bool b2, .slice A2 n2 c2, .int .i64 x2] 35)
  have bw : Below w.heap.size w ((w.alloc (.cells #[.bool b, .slice A n c, .int .i64 x] 35)).alloc (.cells #[.bool b2, .slice A2 n2 c2, .int .i64 x2] 35)) := by go_grown
  obtain ⟨PB_0, PB_1, PB_2, PB_f0, PB_f1, PB_f2⟩ := Dbx.cells PB
  obtain ⟨QB_0, QB_1, QB_2, QB_f0, QB_f1, QB_f2⟩ := Dbx.cells QB
  replace h := h.on bw
  replace h2 := h2.on bw
  go_enter Tryz.func25, Tryz.ntmps25
  go_wp2_with fail
  with_reducible refine (rMay_yes (b := b) (x := x) h (by omega) ho).mono ?_
  rintro e w1 ⟨rfl, hb⟩
  clear PB_0 PB_1 PB_2 PB_f0 PB_f1 PB_f2
  clear QB_0 QB_1 QB_2 QB_f0 QB_f1 QB_f2
  have hs1 := hb.size
  try simp only [World.size_alloc, World.size_setCell] at hs1
  replace bw : Below w.heap.size w w1 := dy_end (by go_grown) hb
  replace h := Lv.on h hb
  replace h2 := Lv.on h2 hb
  replace PB := Blk.on PB hb
  replace QB := Blk.on QB hb
  clear hb
  obtain ⟨PB_0, PB_1, PB_2, PB_f0, PB_f1, PB_f2⟩ := Dbx.cells PB
  obtain ⟨QB_0, QB_1, QB_2, QB_f0, QB_f1, QB_f2⟩ := Dbx.cells QB
  go_wp2_with fail
  with_reducible refine (rMay_no (b := b2) (x := x2) h2 (by omega) ho2).mono ?_
  rintro e w2 ⟨rfl, hb⟩
  clear PB_0 PB_1 PB_2 PB_f0 PB_f1 PB_f2
  clear QB_0 QB_1 QB_2 QB_f0 QB_f1 QB_f2
  have hs2 := hb.size
  try simp only [World.size_alloc, World.size_setCell] at hs2
  replace bw : Below w.heap.size w w2 := dy_end (by go_grown) hb
  replace h := Lv.on h hb
  replace h2 := Lv.on h2 hb
  replace PB := Blk.on PB hb
  replace QB := Blk.on QB hb
  clear hb
  obtain ⟨PB_0, PB_1, PB_2, PB_f0, PB_f1, PB_f2⟩ := Dbx.cells PB
  obtain ⟨QB_0, QB_1, QB_2, QB_f0, QB_f1, QB_f2⟩ := Dbx.cells QB
  go_wp2_with fail
  go_ret2
  exact ⟨rfl, by go_grown⟩

set_option maxRecDepth 100000 in
set_option maxHeartbeats 8000000 in
theorem rQuot_z (h : Lv w A n c l) (hn : n ≤ 60) (h2 : Lv w A2 n2 c2 l2) (hn2 : n2 ≤ 60) (ho : okE x = true) (ho2 : okE x2 = true) (hv2 : Hid (val 18446744073709551616 l2 = 0)) :
    Calls Tryz.prog 25 #[dyV b A n c x, dyV b2 A2 n2 c2 x2] w fun e w' => e = .returned (.tuple #[.int .u64 (0), .int .i64 9]) ∧ Below w.heap.size w w' := by
  have PB := Blk.new w [.bool b, .slice A n c, .int .i64 x] 35
  have QB := Blk.new (w.alloc (.cells #[.bool b, .slice A n c, .int .i64 x] 35)) [.bool b2, .slice A2 n2 c2, .int .i64 x2] 35
  simp only [World.size_alloc] at QB
  replace PB := Blk.alloc PB (.cells #[.bool b2, .slice A2 n2 c2, .int .i64 x2] 35)
  have bw : Below w.heap.size w ((w.alloc (.cells #[.bool b, .slice A n c, .int .i64 x] 35)).alloc (.cells #[.bool b2, .slice A2 n2 c2, .int .i64 x2] 35)) := by go_grown
  obtain ⟨PB_0, PB_1, PB_2, PB_f0, PB_f1, PB_f2⟩ := Dbx.cells PB
  obtain ⟨QB_0, QB_1, QB_2, QB_f0, QB_f1, QB_f2⟩ := Dbx.cells QB
  replace h := h.on bw
  replace h2 := h2.on bw
  go_enter Tryz.func25, Tryz.ntmps25
  go_wp2_with fail
  with_reducible refine (rMay_yes (b := b) (x := x) h (by omega) ho).mono ?_
  rintro e w1 ⟨rfl, hb⟩
  clear PB_0 PB_1 PB_2 PB_f0 PB_f1 PB_f2
  clear QB_0 QB_1 QB_2 QB_f0 QB_f1 QB_f2
  have hs1 := hb.size
  try simp only [World.size_alloc, World.size_setCell] at hs1
  replace bw : Below w.heap.size w w1 := dy_end (by go_grown) hb
  replace h := Lv.on h hb
  replace h2 := Lv.on h2 hb
  replace PB := Blk.on PB hb
  replace QB := Blk.on QB hb
  clear hb
  obtain ⟨PB_0, PB_1, PB_2, PB_f0, PB_f1, PB_f2⟩ := Dbx.cells PB
  obtain ⟨QB_0, QB_1, QB_2, QB_f0, QB_f1, QB_f2⟩ := Dbx.cells QB
  go_wp2_with fail
  with_reducible refine (rMay_yes (b := b2) (x := x2) h2 (by omega) ho2).mono ?_
  rintro e w2 ⟨rfl, hb⟩
  clear PB_0 PB_1 PB_2 PB_f0 PB_f1 PB_f2
  clear QB_0 QB_1 QB_2 QB_f0 QB_f1 QB_f2
  have hs2 := hb.size
  try simp only [World.size_alloc, World.size_setCell] at hs2
  replace bw : Below w.heap.size w w2 := dy_end (by go_grown) hb
  replace h := Lv.on h hb
  replace h2 := Lv.on h2 hb
  replace PB := Blk.on PB hb
  replace QB := Blk.on QB hb
  clear hb
  obtain ⟨PB_0, PB_1, PB_2, PB_f0, PB_f1, PB_f2⟩ := Dbx.cells PB
  obtain ⟨QB_0, QB_1, QB_2, QB_f0, QB_f1, QB_f2⟩ := Dbx.cells QB
  go_wp2_with fail
  with_reducible refine (rSign_zero (b := b2) (x := x2) h2 (by omega) ho2 hv2).mono ?_
  rintro e w3 ⟨rfl, hb⟩
  clear PB_0 PB_1 PB_2 PB_f0 PB_f1 PB_f2
  clear QB_0 QB_1 QB_2 QB_f0 QB_f1 QB_f2
  have hs3 := hb.size
  try simp only [World.size_alloc, World.size_setCell] at hs3
  replace bw : Below w.heap.size w w3 := dy_end (by go_grown) hb
  replace h := Lv.on h hb
  replace h2 := Lv.on h2 hb
  replace PB := Blk.on PB hb
  replace QB := Blk.on QB hb
  clear hb
  obtain ⟨PB_0, PB_1, PB_2, PB_f0, PB_f1, PB_f2⟩ := Dbx.cells PB
  obtain ⟨QB_0, QB_1, QB_2, QB_f0, QB_f1, QB_f2⟩ := Dbx.cells QB
  go_wp2_with fail
  go_ret2
  exact ⟨rfl, by go_grown⟩

set_option maxRecDepth 100000 in
set_option maxHeartbeats 8000000 in
theorem rQuot_n (h : Lv w A n c l) (hn : n ≤ 60) (h2 : Lv w A2 n2 c2 l2) (hn2 : n2 ≤ 60) (ho : okE x = true) (ho2 : okE x2 = true) (hv : Hid (val 18446744073709551616 l = 0)) (hv2 : Hid (val 18446744073709551616 l2 ≠ 0)) :
    Calls Tryz.prog 25 #[dyV b A n c x, dyV b2 A2 n2 c2 x2] w fun e w' => e = .returned (.tuple #[.int .u64 (0), .int .i64 0]) ∧ Below w.heap.size w w' := by
  obtain ⟨y2, z2, ps2⟩ := rSign_nz (A := A2) (c := c2) b2 x2 (show n2 ≤ 4096 by omega) ho2 hv2
  have z2b : (y2 == 0) = false := beq_eq_false_iff_ne.2 z2
  have PB := Blk.new w [.bool b, .slice A n c, .int .i64 x] 35
  have QB := Blk.new (w.alloc (.cells #[.bool b, .slice A n c, .int .i64 x] 35)) [.bool b2, .slice A2 n2 c2, .int .i64 x2] 35
  simp only [World.size_alloc] at QB
  replace PB := Blk.alloc PB (.cells #[.bool b2, .slice A2 n2 c2, .int .i64 x2] 35)
  have bw : Below w.heap.size w ((w.alloc (.cells #[.bool b, .slice A n c, .int .i64 x] 35)).alloc (.cells #[.bool b2, .slice A2 n2 c2, .int .i64 x2] 35)) := by go_grown
  obtain ⟨PB_0, PB_1, PB_2, PB_f0, PB_f1, PB_f2⟩ := Dbx.cells PB
  obtain ⟨QB_0, QB_1, QB_2, QB_f0, QB_f1, QB_f2⟩ := Dbx.cells QB
  replace h := h.on bw
  replace h2 := h2.on bw
  go_enter Tryz.func25, Tryz.ntmps25
  go_wp2_with fail
  with_reducible refine (rMay_yes (b := b) (x := x) h (by omega) ho).mono ?_
  rintro e w1 ⟨rfl, hb⟩
  clear PB_0 PB_1 PB_2 PB_f0 PB_f1 PB_f2
  clear QB_0 QB_1 QB_2 QB_f0 QB_f1 QB_f2
  have hs1 := hb.size
  try simp only [World.size_alloc, World.size_setCell] at hs1
  replace bw : Below w.heap.size w w1 := dy_end (by go_grown) hb
  replace h := Lv.on h hb
  replace h2 := Lv.on h2 hb
  replace PB := Blk.on PB hb
  replace QB := Blk.on QB hb
  clear hb
  obtain ⟨PB_0, PB_1, PB_2, PB_f0, PB_f1, PB_f2⟩ := Dbx.cells PB
  obtain ⟨QB_0, QB_1, QB_2, QB_f0, QB_f1, QB_f2⟩ := Dbx.cells QB
  go_wp2_with fail
  with_reducible refine (rMay_yes (b := b2) (x := x2) h2 (by omega) ho2).mono ?_
  rintro e w2 ⟨rfl, hb⟩
  clear PB_0 PB_1 PB_2 PB_f0 PB_f1 PB_f2
  clear QB_0 QB_1 QB_2 QB_f0 QB_f1 QB_f2
  have hs2 := hb.size
  try simp only [World.size_alloc, World.size_setCell] at hs2
  replace bw : Below w.heap.size w w2 := dy_end (by go_grown) hb
  replace h := Lv.on h hb
  replace h2 := Lv.on h2 hb
  replace PB := Blk.on PB hb
  replace QB := Blk.on QB hb
  clear hb
  obtain ⟨PB_0, PB_1, PB_2, PB_f0, PB_f1, PB_f2⟩ := Dbx.cells PB
  obtain ⟨QB_0, QB_1, QB_2, QB_f0, QB_f1, QB_f2⟩ := Dbx.cells QB
  go_wp2_with fail
  with_reducible refine (ps2 _ h2).mono ?_
  rintro e w3 ⟨rfl, hb⟩
  clear PB_0 PB_1 PB_2 PB_f0 PB_f1 PB_f2
  clear QB_0 QB_1 QB_2 QB_f0 QB_f1 QB_f2
  have hs3 := hb.size
  try simp only [World.size_alloc, World.size_setCell] at hs3
  replace bw : Below w.heap.size w w3 := dy_end (by go_grown) hb
  replace h := Lv.on h hb
  replace h2 := Lv.on h2 hb
  replace PB := Blk.on PB hb
  replace QB := Blk.on QB hb
  clear hb
  obtain ⟨PB_0, PB_1, PB_2, PB_f0, PB_f1, PB_f2⟩ := Dbx.cells PB
  obtain ⟨QB_0, QB_1, QB_2, QB_f0, QB_f1, QB_f2⟩ := Dbx.cells QB
  go_wp2_with fail
  with_reducible refine (rLong_no (b := b) (x := x) h (by omega)).mono ?_
  rintro e w4 ⟨rfl, hb⟩
  clear PB_0 PB_1 PB_2 PB_f0 PB_f1 PB_f2
  clear QB_0 QB_1 QB_2 QB_f0 QB_f1 QB_f2
  have hs4 := hb.size
  try simp only [World.size_alloc, World.size_setCell] at hs4
  replace bw : Below w.heap.size w w4 := dy_end (by go_grown) hb
  replace h := Lv.on h hb
  replace h2 := Lv.on h2 hb
  replace PB := Blk.on PB hb
  replace QB := Blk.on QB hb
  clear hb
  obtain ⟨PB_0, PB_1, PB_2, PB_f0, PB_f1, PB_f2⟩ := Dbx.cells PB
  obtain ⟨QB_0, QB_1, QB_2, QB_f0, QB_f1, QB_f2⟩ := Dbx.cells QB
  go_wp2_with fail
  with_reducible refine (rLong_no (b := b2) (x := x2) h2 (by omega)).mono ?_
  rintro e w5 ⟨rfl, hb⟩
  clear PB_0 PB_1 PB_2 PB_f0 PB_f1 PB_f2
  clear QB_0 QB_1 QB_2 QB_f0 QB_f1 QB_f2
  have hs5 := hb.size
  try simp only [World.size_alloc, World.size_setCell] at hs5
  replace bw : Below w.heap.size w w5 := dy_end (by go_grown) hb
  replace h := Lv.on h hb
  replace h2 := Lv.on h2 hb
  replace PB := Blk.on PB hb
  replace QB := Blk.on QB hb
  clear hb
  obtain ⟨PB_0, PB_1, PB_2, PB_f0, PB_f1, PB_f2⟩ := Dbx.cells PB
  obtain ⟨QB_0, QB_1, QB_2, QB_f0, QB_f1, QB_f2⟩ := Dbx.cells QB
  go_wp2_with fail
  with_reducible refine (rSign_zero (b := b) (x := x) h (by omega) ho hv).mono ?_
  rintro e w6 ⟨rfl, hb⟩
  clear PB_0 PB_1 PB_2 PB_f0 PB_f1 PB_f2
  clear QB_0 QB_1 QB_2 QB_f0 QB_f1 QB_f2
  have hs6 := hb.size
  try simp only [World.size_alloc, World.size_setCell] at hs6
  replace bw : Below w.heap.size w w6 := dy_end (by go_grown) hb
  replace h := Lv.on h hb
  replace h2 := Lv.on h2 hb
  replace PB := Blk.on PB hb
  replace QB := Blk.on QB hb
  clear hb
  obtain ⟨PB_0, PB_1, PB_2, PB_f0, PB_f1, PB_f2⟩ := Dbx.cells PB
  obtain ⟨QB_0, QB_1, QB_2, QB_f0, QB_f1, QB_f2⟩ := Dbx.cells QB
  clear ps2
  go_wp2_with fail
  go_ret2
  exact ⟨rfl, by go_grown⟩

set_option maxRecDepth 100000 in
set_option maxHeartbeats 8000000 in
theorem rQuot_m (h : Lv w A n c l) (hn : n ≤ 60) (h2 : Lv w A2 n2 c2 l2) (hn2 : n2 ≤ 60) (ho : okE x = true) (ho2 : okE x2 = true) (hv : Hid (val 18446744073709551616 l ≠ 0)) (hv2 : Hid (val 18446744073709551616 l2 ≠ 0)) :
    Calls Tryz.prog 25 #[dyV b A n c x, dyV b2 A2 n2 c2 x2] w fun e w' => e = .returned (.tuple #[.int .u64 (quotW (b != b2) (val 18446744073709551616 l).toNat (val 18446744073709551616 l2).toNat (x - x2)), .int .i64 0]) ∧ Below w.heap.size w w' := by
  obtain ⟨W9, hW9⟩ : ∃ W9, quotW (b != b2) (val 18446744073709551616 l).toNat (val 18446744073709551616 l2).toNat (x - x2) = W9 := ⟨_, rfl⟩
  rw [hW9]
  have hx := (okE_iff x).1 ho
  have hx2 := (okE_iff x2).1 ho2
  have h_0 := h
  have h2_0 := h2
  obtain ⟨y2, z2, ps2⟩ := rSign_nz (A := A2) (c := c2) b2 x2 (show n2 ≤ 4096 by omega) ho2 hv2
  have z2b : (y2 == 0) = false := beq_eq_false_iff_ne.2 z2
  obtain ⟨y1, z1, ps1⟩ := rSign_nz (A := A) (c := c) b x (show n ≤ 4096 by omega) ho hv
  have z1b : (y1 == 0) = false := beq_eq_false_iff_ne.2 z1
  have PB := Blk.new w [.bool b, .slice A n c, .int .i64 x] 35
  have QB := Blk.new (w.alloc (.cells #[.bool b, .slice A n c, .int .i64 x] 35)) [.bool b2, .slice A2 n2 c2, .int .i64 x2] 35
  simp only [World.size_alloc] at QB
  replace PB := Blk.alloc PB (.cells #[.bool b2, .slice A2 n2 c2, .int .i64 x2] 35)
  have bw : Below w.heap.size w ((w.alloc (.cells #[.bool b, .slice A n c, .int .i64 x] 35)).alloc (.cells #[.bool b2, .slice A2 n2 c2, .int .i64 x2] 35)) := by go_grown
  obtain ⟨PB_0, PB_1, PB_2, PB_f0, PB_f1, PB_f2⟩ := Dbx.cells PB
  obtain ⟨QB_0, QB_1, QB_2, QB_f0, QB_f1, QB_f2⟩ := Dbx.cells QB
  replace h := h.on bw
  replace h2 := h2.on bw
  go_enter Tryz.func25, Tryz.ntmps25
  go_wp2_with fail
  with_reducible refine (rMay_yes (b := b) (x := x) h (by omega) ho).mono ?_
  rintro e w1 ⟨rfl, hb⟩
  clear PB_0 PB_1 PB_2 PB_f0 PB_f1 PB_f2
  clear QB_0 QB_1 QB_2 QB_f0 QB_f1 QB_f2
  have hs1 := hb.size
  try simp only [World.size_alloc, World.size_setCell] at hs1
  replace bw : Below w.heap.size w w1 := dy_end (by go_grown) hb
  replace h := Lv.on h hb
  replace h2 := Lv.on h2 hb
  replace PB := Blk.on PB hb
  replace QB := Blk.on QB hb
  clear hb
  obtain ⟨PB_0, PB_1, PB_2, PB_f0, PB_f1, PB_f2⟩ := Dbx.cells PB
  obtain ⟨QB_0, QB_1, QB_2, QB_f0, QB_f1, QB_f2⟩ := Dbx.cells QB
  go_wp2_with fail
  with_reducible refine (rMay_yes (b := b2) (x := x2) h2 (by omega) ho2).mono ?_
  rintro e w2 ⟨rfl, hb⟩
  clear PB_0 PB_1 PB_2 PB_f0 PB_f1 PB_f2
  clear QB_0 QB_1 QB_2 QB_f0 QB_f1 QB_f2
  have hs2 := hb.size
  try simp only [World.size_alloc, World.size_setCell] at hs2
  replace bw : Below w.heap.size w w2 := dy_end (by go_grown) hb
  replace h := Lv.on h hb
  replace h2 := Lv.on h2 hb
  replace PB := Blk.on PB hb
  replace QB := Blk.on QB hb
  clear hb
  obtain ⟨PB_0, PB_1, PB_2, PB_f0, PB_f1, PB_f2⟩ := Dbx.cells PB
  obtain ⟨QB_0, QB_1, QB_2, QB_f0, QB_f1, QB_f2⟩ := Dbx.cells QB
  go_wp2_with fail
  with_reducible refine (ps2 _ h2).mono ?_
  rintro e w3 ⟨rfl, hb⟩
  clear PB_0 PB_1 PB_2 PB_f0 PB_f1 PB_f2
  clear QB_0 QB_1 QB_2 QB_f0 QB_f1 QB_f2
  have hs3 := hb.size
  try simp only [World.size_alloc, World.size_setCell] at hs3
  replace bw : Below w.heap.size w w3 := dy_end (by go_grown) hb
  replace h := Lv.on h hb
  replace h2 := Lv.on h2 hb
  replace PB := Blk.on PB hb
  replace QB := Blk.on QB hb
  clear hb
  obtain ⟨PB_0, PB_1, PB_2, PB_f0, PB_f1, PB_f2⟩ := Dbx.cells PB
  obtain ⟨QB_0, QB_1, QB_2, QB_f0, QB_f1, QB_f2⟩ := Dbx.cells QB
  go_wp2_with fail
  with_reducible refine (rLong_no (b := b) (x := x) h (by omega)).mono ?_
  rintro e w4 ⟨rfl, hb⟩
  clear PB_0 PB_1 PB_2 PB_f0 PB_f1 PB_f2
  clear QB_0 QB_1 QB_2 QB_f0 QB_f1 QB_f2
  have hs4 := hb.size
  try simp only [World.size_alloc, World.size_setCell] at hs4
  replace bw : Below w.heap.size w w4 := dy_end (by go_grown) hb
  replace h := Lv.on h hb
  replace h2 := Lv.on h2 hb
  replace PB := Blk.on PB hb
  replace QB := Blk.on QB hb
  clear hb
  obtain ⟨PB_0, PB_1, PB_2, PB_f0, PB_f1, PB_f2⟩ := Dbx.cells PB
  obtain ⟨QB_0, QB_1, QB_2, QB_f0, QB_f1, QB_f2⟩ := Dbx.cells QB
  go_wp2_with fail
  with_reducible refine (rLong_no (b := b2) (x := x2) h2 (by omega)).mono ?_
  rintro e w5 ⟨rfl, hb⟩
  clear PB_0 PB_1 PB_2 PB_f0 PB_f1 PB_f2
  clear QB_0 QB_1 QB_2 QB_f0 QB_f1 QB_f2
  have hs5 := hb.size
  try simp only [World.size_alloc, World.size_setCell] at hs5
  replace bw : Below w.heap.size w w5 := dy_end (by go_grown) hb
  replace h := Lv.on h hb
  replace h2 := Lv.on h2 hb
  replace PB := Blk.on PB hb
  replace QB := Blk.on QB hb
  clear hb
  obtain ⟨PB_0, PB_1, PB_2, PB_f0, PB_f1, PB_f2⟩ := Dbx.cells PB
  obtain ⟨QB_0, QB_1, QB_2, QB_f0, QB_f1, QB_f2⟩ := Dbx.cells QB
  go_wp2_with fail
  with_reducible refine (ps1 _ h).mono ?_
  rintro e w6 ⟨rfl, hb⟩
  clear PB_0 PB_1 PB_2 PB_f0 PB_f1 PB_f2
  clear QB_0 QB_1 QB_2 QB_f0 QB_f1 QB_f2
  have hs6 := hb.size
  try simp only [World.size_alloc, World.size_setCell] at hs6
  replace bw : Below w.heap.size w w6 := dy_end (by go_grown) hb
  replace h := Lv.on h hb
  replace h2 := Lv.on h2 hb
  replace PB := Blk.on PB hb
  replace QB := Blk.on QB hb
  clear hb
  obtain ⟨PB_0, PB_1, PB_2, PB_f0, PB_f1, PB_f2⟩ := Dbx.cells PB
  obtain ⟨QB_0, QB_1, QB_2, QB_f0, QB_f1, QB_f2⟩ := Dbx.cells QB
  clear ps2 ps1
  go_upto_region 9 with fail
  go_cut [] from 29 (fun wr => TwoQ w (nfl b (val 18446744073709551616 l) x) (nfl b2 (val 18446744073709551616 l2) x2) wr)
  case first =>
    clear PB_0 PB_1 PB_2 PB_f0 PB_f1 PB_f2
    clear QB_0 QB_1 QB_2 QB_f0 QB_f1 QB_f2
    have h9 := h
    have h29 := h2
    clear h h2
    have hb : Below w6.heap.size w6 w6.drew := (Below.refl _ _).drew
    replace h9 := Lv.on h9 hb
    replace h29 := Lv.on h29 hb
    replace PB := Blk.on PB hb
    replace QB := Blk.on QB hb
    replace bw := dy_end bw hb
    clear hb
    obtain ⟨PB_0, PB_1, PB_2, PB_f0, PB_f1, PB_f2⟩ := Dbx.cells PB
    obtain ⟨QB_0, QB_1, QB_2, QB_f0, QB_f1, QB_f2⟩ := Dbx.cells QB
    refine wp_region_held_drew (S := fun _ => True) (by kernel_rfl) trivial (fun _ => ?_)
    refine wpAnyH_ready (rs := [0, 2]) (by kernel_rfl) (by simp) ?_
    refine (AllReadyH.cons rfl (fun K hK => ?_) (AllReadyH.cons rfl (fun K hK => ?_) AllReadyH.nil))
    · go_simp
      refine hK.out _ _ trivial (fun _ => ?_)
      clear hK K
      try simp only [Act.put, List.setIfInBounds_toArray, List.set_cons_zero, List.set_cons_succ, List.getElem_toArray, List.getElem_cons_zero, List.getElem_cons_succ]
      refine wpAnyH_ready (rs := [1, 2]) (by kernel_rfl) (by simp) ?_
      refine (AllReadyH.cons rfl (fun K hK => ?_) (AllReadyH.cons rfl (fun K hK => ?_) AllReadyH.nil))
      · go_simp
        with_reducible refine (rNorm_any (b := b) (x := x) h9 (by omega) (by omega) (by omega)).mono ?_
        rintro e w106 ⟨b3, q3, A3, c3, x3, rfl, hd3, m3, hb⟩
        clear PB_0 PB_1 PB_2 PB_f0 PB_f1 PB_f2
        clear QB_0 QB_1 QB_2 QB_f0 QB_f1 QB_f2
        replace bw : Below w.heap.size w w106 := dy_end bw hb
        have hs106 := bw.size
        replace h9 := Lv.on h9 hb
        replace h29 := Lv.on h29 hb
        replace PB := Blk.on PB hb
        replace QB := Blk.on QB hb
        clear hb
        obtain ⟨PB_0, PB_1, PB_2, PB_f0, PB_f1, PB_f2⟩ := Dbx.cells PB
        obtain ⟨QB_0, QB_1, QB_2, QB_f0, QB_f1, QB_f2⟩ := Dbx.cells QB
        refine hK.out _ _ trivial (fun _ => ?_)
        clear hK K
        try simp only [Act.put, List.setIfInBounds_toArray, List.set_cons_zero, List.set_cons_succ, List.getElem_toArray, List.getElem_cons_zero, List.getElem_cons_succ]
        refine wpAnyH_ready (rs := [2]) (by kernel_rfl) (by simp) ?_
        refine (AllReadyH.cons rfl (fun K hK => ?_) AllReadyH.nil)
        go_simp
        refine hK.out _ _ trivial (fun _ => ?_)
        clear hK K
        try simp only [Act.put, List.setIfInBounds_toArray, List.set_cons_zero, List.set_cons_succ, List.getElem_toArray, List.getElem_cons_zero, List.getElem_cons_succ]
        refine wpAnyH_ready (rs := [3]) (by kernel_rfl) (by simp) ?_
        refine (AllReadyH.cons rfl (fun K hK => ?_) AllReadyH.nil)
        go_simp
        with_reducible refine (rNorm_any (b := b2) (x := x2) h29 (by omega) (by omega) (by omega)).mono ?_
        rintro e w206 ⟨b4, q4, A4, c4, x4, rfl, hd4, m4, hb⟩
        clear PB_0 PB_1 PB_2 PB_f0 PB_f1 PB_f2
        clear QB_0 QB_1 QB_2 QB_f0 QB_f1 QB_f2
        replace bw : Below w.heap.size w w206 := dy_end bw hb
        have hs206 := bw.size
        replace h9 := Lv.on h9 hb
        replace h29 := Lv.on h29 hb
        replace m3 := Lv.on m3 hb
        replace PB := Blk.on PB hb
        replace QB := Blk.on QB hb
        clear hb
        obtain ⟨PB_0, PB_1, PB_2, PB_f0, PB_f1, PB_f2⟩ := Dbx.cells PB
        obtain ⟨QB_0, QB_1, QB_2, QB_f0, QB_f1, QB_f2⟩ := Dbx.cells QB
        refine hK.out _ _ trivial (fun _ => ?_)
        clear hK K
        try simp only [Act.put, List.setIfInBounds_toArray, List.set_cons_zero, List.set_cons_succ, List.getElem_toArray, List.getElem_cons_zero, List.getElem_cons_succ]
        refine wpAnyH_ready (rs := [4]) (by kernel_rfl) (by simp) ?_
        refine (AllReadyH.cons rfl (fun K hK => ?_) AllReadyH.nil)
        go_simp
        clear PB_0 PB_1 PB_2 PB_f0 PB_f1 PB_f2
        clear QB_0 QB_1 QB_2 QB_f0 QB_f1 QB_f2
        replace h9 := Lv.put h9 PB (b3) (A3) (q3.length) (c3) (x3)
        replace h29 := Lv.put h29 PB (b3) (A3) (q3.length) (c3) (x3)
        replace m3 := Lv.put m3 PB (b3) (A3) (q3.length) (c3) (x3)
        replace m4 := Lv.put m4 PB (b3) (A3) (q3.length) (c3) (x3)
        replace QB := Blk.putO QB (g := w.heap.size) (by omega) (.bool (b3)) (.slice (A3) (q3.length) (c3)) (.int .i64 (x3))
        replace PB := Dbx.put PB (b3) (A3) (q3.length) (c3) (x3)
        obtain ⟨PB_0, PB_1, PB_2, PB_f0, PB_f1, PB_f2⟩ := Dbx.cells PB
        obtain ⟨QB_0, QB_1, QB_2, QB_f0, QB_f1, QB_f2⟩ := Dbx.cells QB
        refine hK.out _ _ trivial (fun _ => ?_)
        clear hK K
        try simp only [Act.put, List.setIfInBounds_toArray, List.set_cons_zero, List.set_cons_succ, List.getElem_toArray, List.getElem_cons_zero, List.getElem_cons_succ]
        refine wpAnyH_ready (rs := [5]) (by kernel_rfl) (by simp) ?_
        refine (AllReadyH.cons rfl (fun K hK => ?_) AllReadyH.nil)
        go_simp
        clear PB_0 PB_1 PB_2 PB_f0 PB_f1 PB_f2
        clear QB_0 QB_1 QB_2 QB_f0 QB_f1 QB_f2
        replace h9 := Lv.put h9 QB (b4) (A4) (q4.length) (c4) (x4)
        replace h29 := Lv.put h29 QB (b4) (A4) (q4.length) (c4) (x4)
        replace m3 := Lv.put m3 QB (b4) (A4) (q4.length) (c4) (x4)
        replace m4 := Lv.put m4 QB (b4) (A4) (q4.length) (c4) (x4)
        replace PB := Blk.putO PB (g := (w.heap.size + 1)) (by omega) (.bool (b4)) (.slice (A4) (q4.length) (c4)) (.int .i64 (x4))
        replace QB := Dbx.put QB (b4) (A4) (q4.length) (c4) (x4)
        obtain ⟨PB_0, PB_1, PB_2, PB_f0, PB_f1, PB_f2⟩ := Dbx.cells PB
        obtain ⟨QB_0, QB_1, QB_2, QB_f0, QB_f1, QB_f2⟩ := Dbx.cells QB
        refine hK.out _ _ trivial (fun _ => ?_)
        clear hK K
        try simp only [Act.put, List.setIfInBounds_toArray, List.set_cons_zero, List.set_cons_succ, List.getElem_toArray, List.getElem_cons_zero, List.getElem_cons_succ]
        refine wpAnyH_done (by kernel_rfl) ?_ _
        go_wp2_with fail
        go_meet
        case rel => exact ⟨b3, q3, A3, c3, x3, b4, q4, A4, c4, x4, hd3, hd4, m3, m4, PB, QB, by go_grown⟩
      · go_simp
        refine hK.out _ _ trivial (fun _ => ?_)
        clear hK K
        try simp only [Act.put, List.setIfInBounds_toArray, List.set_cons_zero, List.set_cons_succ, List.getElem_toArray, List.getElem_cons_zero, List.getElem_cons_succ]
        refine wpAnyH_ready (rs := [1]) (by kernel_rfl) (by simp) ?_
        refine (AllReadyH.cons rfl (fun K hK => ?_) AllReadyH.nil)
        go_simp
        with_reducible refine (rNorm_any (b := b) (x := x) h9 (by omega) (by omega) (by omega)).mono ?_
        rintro e w306 ⟨b3, q3, A3, c3, x3, rfl, hd3, m3, hb⟩
        clear PB_0 PB_1 PB_2 PB_f0 PB_f1 PB_f2
        clear QB_0 QB_1 QB_2 QB_f0 QB_f1 QB_f2
        replace bw : Below w.heap.size w w306 := dy_end bw hb
        have hs306 := bw.size
        replace h9 := Lv.on h9 hb
        replace h29 := Lv.on h29 hb
        replace PB := Blk.on PB hb
        replace QB := Blk.on QB hb
        clear hb
        obtain ⟨PB_0, PB_1, PB_2, PB_f0, PB_f1, PB_f2⟩ := Dbx.cells PB
        obtain ⟨QB_0, QB_1, QB_2, QB_f0, QB_f1, QB_f2⟩ := Dbx.cells QB
        refine hK.out _ _ trivial (fun _ => ?_)
        clear hK K
        try simp only [Act.put, List.setIfInBounds_toArray, List.set_cons_zero, List.set_cons_succ, List.getElem_toArray, List.getElem_cons_zero, List.getElem_cons_succ]
        refine wpAnyH_ready (rs := [3]) (by kernel_rfl) (by simp) ?_
        refine (AllReadyH.cons rfl (fun K hK => ?_) AllReadyH.nil)
        go_simp
        with_reducible refine (rNorm_any (b := b2) (x := x2) h29 (by omega) (by omega) (by omega)).mono ?_
        rintro e w406 ⟨b4, q4, A4, c4, x4, rfl, hd4, m4, hb⟩
        clear PB_0 PB_1 PB_2 PB_f0 PB_f1 PB_f2
        clear QB_0 QB_1 QB_2 QB_f0 QB_f1 QB_f2
        replace bw : Below w.heap.size w w406 := dy_end bw hb
        have hs406 := bw.size
        replace h9 := Lv.on h9 hb
        replace h29 := Lv.on h29 hb
        replace m3 := Lv.on m3 hb
        replace PB := Blk.on PB hb
        replace QB := Blk.on QB hb
        clear hb
        obtain ⟨PB_0, PB_1, PB_2, PB_f0, PB_f1, PB_f2⟩ := Dbx.cells PB
        obtain ⟨QB_0, QB_1, QB_2, QB_f0, QB_f1, QB_f2⟩ := Dbx.cells QB
        refine hK.out _ _ trivial (fun _ => ?_)
        clear hK K
        try simp only [Act.put, List.setIfInBounds_toArray, List.set_cons_zero, List.set_cons_succ, List.getElem_toArray, List.getElem_cons_zero, List.getElem_cons_succ]
        refine wpAnyH_ready (rs := [4]) (by kernel_rfl) (by simp) ?_
        refine (AllReadyH.cons rfl (fun K hK => ?_) AllReadyH.nil)
        go_simp
        clear PB_0 PB_1 PB_2 PB_f0 PB_f1 PB_f2
        clear QB_0 QB_1 QB_2 QB_f0 QB_f1 QB_f2
        replace h9 := Lv.put h9 PB (b3) (A3) (q3.length) (c3) (x3)
        replace h29 := Lv.put h29 PB (b3) (A3) (q3.length) (c3) (x3)
        replace m3 := Lv.put m3 PB (b3) (A3) (q3.length) (c3) (x3)
        replace m4 := Lv.put m4 PB (b3) (A3) (q3.length) (c3) (x3)
        replace QB := Blk.putO QB (g := w.heap.size) (by omega) (.bool (b3)) (.slice (A3) (q3.length) (c3)) (.int .i64 (x3))
        replace PB := Dbx.put PB (b3) (A3) (q3.length) (c3) (x3)
        obtain ⟨PB_0, PB_1, PB_2, PB_f0, PB_f1, PB_f2⟩ := Dbx.cells PB
        obtain ⟨QB_0, QB_1, QB_2, QB_f0, QB_f1, QB_f2⟩ := Dbx.cells QB
        refine hK.out _ _ trivial (fun _ => ?_)
        clear hK K
        try simp only [Act.put, List.setIfInBounds_toArray, List.set_cons_zero, List.set_cons_succ, List.getElem_toArray, List.getElem_cons_zero, List.getElem_cons_succ]
        refine wpAnyH_ready (rs := [5]) (by kernel_rfl) (by simp) ?_
        refine (AllReadyH.cons rfl (fun K hK => ?_) AllReadyH.nil)
        go_simp
        clear PB_0 PB_1 PB_2 PB_f0 PB_f1 PB_f2
        clear QB_0 QB_1 QB_2 QB_f0 QB_f1 QB_f2
        replace h9 := Lv.put h9 QB (b4) (A4) (q4.length) (c4) (x4)
        replace h29 := Lv.put h29 QB (b4) (A4) (q4.length) (c4) (x4)
        replace m3 := Lv.put m3 QB (b4) (A4) (q4.length) (c4) (x4)
        replace m4 := Lv.put m4 QB (b4) (A4) (q4.length) (c4) (x4)
        replace PB := Blk.putO PB (g := (w.heap.size + 1)) (by omega) (.bool (b4)) (.slice (A4) (q4.length) (c4)) (.int .i64 (x4))
        replace QB := Dbx.put QB (b4) (A4) (q4.length) (c4) (x4)
        obtain ⟨PB_0, PB_1, PB_2, PB_f0, PB_f1, PB_f2⟩ := Dbx.cells PB
        obtain ⟨QB_0, QB_1, QB_2, QB_f0, QB_f1, QB_f2⟩ := Dbx.cells QB
        refine hK.out _ _ trivial (fun _ => ?_)
        clear hK K
        try simp only [Act.put, List.setIfInBounds_toArray, List.set_cons_zero, List.set_cons_succ, List.getElem_toArray, List.getElem_cons_zero, List.getElem_cons_succ]
        refine wpAnyH_done (by kernel_rfl) ?_ _
        go_wp2_with fail
        go_meet
        case rel => exact ⟨b3, q3, A3, c3, x3, b4, q4, A4, c4, x4, hd3, hd4, m3, m4, PB, QB, by go_grown⟩
    · go_simp
      refine hK.out _ _ trivial (fun _ => ?_)
      clear hK K
      try simp only [Act.put, List.setIfInBounds_toArray, List.set_cons_zero, List.set_cons_succ, List.getElem_toArray, List.getElem_cons_zero, List.getElem_cons_succ]
      refine wpAnyH_ready (rs := [0]) (by kernel_rfl) (by simp) ?_
      refine (AllReadyH.cons rfl (fun K hK => ?_) AllReadyH.nil)
      go_simp
      refine hK.out _ _ trivial (fun _ => ?_)
      clear hK K
      try simp only [Act.put, List.setIfInBounds_toArray, List.set_cons_zero, List.set_cons_succ, List.getElem_toArray, List.getElem_cons_zero, List.getElem_cons_succ]
      refine wpAnyH_ready (rs := [1]) (by kernel_rfl) (by simp) ?_
      refine (AllReadyH.cons rfl (fun K hK => ?_) AllReadyH.nil)
      go_simp
      with_reducible refine (rNorm_any (b := b) (x := x) h9 (by omega) (by omega) (by omega)).mono ?_
      rintro e w506 ⟨b3, q3, A3, c3, x3, rfl, hd3, m3, hb⟩
      clear PB_0 PB_1 PB_2 PB_f0 PB_f1 PB_f2
      clear QB_0 QB_1 QB_2 QB_f0 QB_f1 QB_f2
      replace bw : Below w.heap.size w w506 := dy_end bw hb
      have hs506 := bw.size
      replace h9 := Lv.on h9 hb
      replace h29 := Lv.on h29 hb
      replace PB := Blk.on PB hb
      replace QB := Blk.on QB hb
      clear hb
      obtain ⟨PB_0, PB_1, PB_2, PB_f0, PB_f1, PB_f2⟩ := Dbx.cells PB
      obtain ⟨QB_0, QB_1, QB_2, QB_f0, QB_f1, QB_f2⟩ := Dbx.cells QB
      refine hK.out _ _ trivial (fun _ => ?_)
      clear hK K
      try simp only [Act.put, List.setIfInBounds_toArray, List.set_cons_zero, List.set_cons_succ, List.getElem_toArray, List.getElem_cons_zero, List.getElem_cons_succ]
      refine wpAnyH_ready (rs := [3]) (by kernel_rfl) (by simp) ?_
      refine (AllReadyH.cons rfl (fun K hK => ?_) AllReadyH.nil)
      go_simp
      with_reducible refine (rNorm_any (b := b2) (x := x2) h29 (by omega) (by omega) (by omega)).mono ?_
      rintro e w606 ⟨b4, q4, A4, c4, x4, rfl, hd4, m4, hb⟩
      clear PB_0 PB_1 PB_2 PB_f0 PB_f1 PB_f2
      clear QB_0 QB_1 QB_2 QB_f0 QB_f1 QB_f2
      replace bw : Below w.heap.size w w606 := dy_end bw hb
      have hs606 := bw.size
      replace h9 := Lv.on h9 hb
      replace h29 := Lv.on h29 hb
      replace m3 := Lv.on m3 hb
      replace PB := Blk.on PB hb
      replace QB := Blk.on QB hb
      clear hb
      obtain ⟨PB_0, PB_1, PB_2, PB_f0, PB_f1, PB_f2⟩ := Dbx.cells PB
      obtain ⟨QB_0, QB_1, QB_2, QB_f0, QB_f1, QB_f2⟩ := Dbx.cells QB
      refine hK.out _ _ trivial (fun _ => ?_)
      clear hK K
      try simp only [Act.put, List.setIfInBounds_toArray, List.set_cons_zero, List.set_cons_succ, List.getElem_toArray, List.getElem_cons_zero, List.getElem_cons_succ]
      refine wpAnyH_ready (rs := [4]) (by kernel_rfl) (by simp) ?_
      refine (AllReadyH.cons rfl (fun K hK => ?_) AllReadyH.nil)
      go_simp
      clear PB_0 PB_1 PB_2 PB_f0 PB_f1 PB_f2
      clear QB_0 QB_1 QB_2 QB_f0 QB_f1 QB_f2
      replace h9 := Lv.put h9 PB (b3) (A3) (q3.length) (c3) (x3)
      replace h29 := Lv.put h29 PB (b3) (A3) (q3.length) (c3) (x3)
      replace m3 := Lv.put m3 PB (b3) (A3) (q3.length) (c3) (x3)
      replace m4 := Lv.put m4 PB (b3) (A3) (q3.length) (c3) (x3)
      replace QB := Blk.putO QB (g := w.heap.size) (by omega) (.bool (b3)) (.slice (A3) (q3.length) (c3)) (.int .i64 (x3))
      replace PB := Dbx.put PB (b3) (A3) (q3.length) (c3) (x3)
      obtain ⟨PB_0, PB_1, PB_2, PB_f0, PB_f1, PB_f2⟩ := Dbx.cells PB
      obtain ⟨QB_0, QB_1, QB_2, QB_f0, QB_f1, QB_f2⟩ := Dbx.cells QB
      refine hK.out _ _ trivial (fun _ => ?_)
      clear hK K
      try simp only [Act.put, List.setIfInBounds_toArray, List.set_cons_zero, List.set_cons_succ, List.getElem_toArray, List.getElem_cons_zero, List.getElem_cons_succ]
      refine wpAnyH_ready (rs := [5]) (by kernel_rfl) (by simp) ?_
      refine (AllReadyH.cons rfl (fun K hK => ?_) AllReadyH.nil)
      go_simp
      clear PB_0 PB_1 PB_2 PB_f0 PB_f1 PB_f2
      clear QB_0 QB_1 QB_2 QB_f0 QB_f1 QB_f2
      replace h9 := Lv.put h9 QB (b4) (A4) (q4.length) (c4) (x4)
      replace h29 := Lv.put h29 QB (b4) (A4) (q4.length) (c4) (x4)
      replace m3 := Lv.put m3 QB (b4) (A4) (q4.length) (c4) (x4)
      replace m4 := Lv.put m4 QB (b4) (A4) (q4.length) (c4) (x4)
      replace PB := Blk.putO PB (g := (w.heap.size + 1)) (by omega) (.bool (b4)) (.slice (A4) (q4.length) (c4)) (.int .i64 (x4))
      replace QB := Dbx.put QB (b4) (A4) (q4.length) (c4) (x4)
      obtain ⟨PB_0, PB_1, PB_2, PB_f0, PB_f1, PB_f2⟩ := Dbx.cells PB
      obtain ⟨QB_0, QB_1, QB_2, QB_f0, QB_f1, QB_f2⟩ := Dbx.cells QB
      refine hK.out _ _ trivial (fun _ => ?_)
      clear hK K
      try simp only [Act.put, List.setIfInBounds_toArray, List.set_cons_zero, List.set_cons_succ, List.getElem_toArray, List.getElem_cons_zero, List.getElem_cons_succ]
      refine wpAnyH_done (by kernel_rfl) ?_ _
      go_wp2_with fail
      go_meet
      case rel => exact ⟨b3, q3, A3, c3, x3, b4, q4, A4, c4, x4, hd3, hd4, m3, m4, PB, QB, by go_grown⟩
  case rest =>
  clear PB_0 PB_1 PB_2 PB_f0 PB_f1 PB_f2
  clear QB_0 QB_1 QB_2 QB_f0 QB_f1 QB_f2
  clear PB QB bw
  obtain ⟨b3, q3, A3, c3, x3, b4, q4, A4, c4, x4, hd3, hd4, m3, m4, PB, QB, bw⟩ := hcut
  have hsc := bw.size
  have hsd := Blk.lt QB
  obtain ⟨PB_0, PB_1, PB_2, PB_f0, PB_f1, PB_f2⟩ := Dbx.cells PB
  obtain ⟨QB_0, QB_1, QB_2, QB_f0, QB_f1, QB_f2⟩ := Dbx.cells QB
  obtain ⟨X0, X1⟩ := exp_bd h_0 (by omega) ho hd3
  obtain ⟨Y0, Y1⟩ := exp_bd h2_0 (by omega) ho2 hd4
  have hp1 : 0 < val 18446744073709551616 l := by have := h_0.nonneg; have := hv.out; omega
  have hm1 := hd3.man m3.2.2
  have he1 := hd3.exp
  have hg1 := hd3.neg
  have hml1 := man_le (b := b) (x := x) hp1
  have hbl1 := h_0.less (show n ≤ 60 from hn)
  have hp2 : 0 < val 18446744073709551616 l2 := by have := h2_0.nonneg; have := hv2.out; omega
  have hm2 := hd4.man m4.2.2
  have he2 := hd4.exp
  have hg2 := hd4.neg
  have hml2 := man_le (b := b2) (x := x2) hp2
  have hbl2 := h2_0.less (show n2 ≤ 60 from hn2)
  have hqt := quotD_nfl b b2 (val 18446744073709551616 l).toNat (val 18446744073709551616 l2).toNat x x2 (by omega) (by omega)
  rw [Int.toNat_of_nonneg (Int.le_of_lt hp1), Int.toNat_of_nonneg (Int.le_of_lt hp2), hW9] at hqt
  have hd01 : 0 < (nfl b (val 18446744073709551616 l) x).man := by rcases Nat.eq_zero_or_pos (nfl b (val 18446744073709551616 l) x).man with z | z; exact absurd ((nfl_man0 (Int.le_of_lt hp1)).1 z) (by omega); exact z
  have hd02 : 0 < (nfl b2 (val 18446744073709551616 l2) x2).man := by rcases Nat.eq_zero_or_pos (nfl b2 (val 18446744073709551616 l2) x2).man with z | z; exact absurd ((nfl_man0 (Int.le_of_lt hp2)).1 z) (by omega); exact z
  unfold quotD at hqt
  clear h_0 h2_0 hv hv2 ho ho2 hx hx2 hp1 hp2 hW9
  obtain ⟨d1, hdd1⟩ : ∃ d, nfl b (val 18446744073709551616 l) x = d := ⟨_, rfl⟩
  rw [hdd1] at hd3 hm1 he1 hg1 hml1 hd01 hqt
  have hms1 : (d1.man : Int) < 18446744073709551616 ^ 60 := by omega
  obtain ⟨d2, hdd2⟩ : ∃ d, nfl b2 (val 18446744073709551616 l2) x2 = d := ⟨_, rfl⟩
  rw [hdd2] at hd4 hm2 he2 hg2 hml2 hd02 hqt
  have hms2 : (d2.man : Int) < 18446744073709551616 ^ 60 := by omega
  rw [he1, he2, hg1, hg2] at hqt
  obtain ⟨mm1, hmm1⟩ : ∃ mm, d1.man = mm := ⟨_, rfl⟩
  rw [hmm1] at hm1 hd01 hms1 hqt
  have hlen1 : q3.length ≤ 60 := len_val m3.2.2 hd3.1 hm1.symm hms1
  have HHM1 := Lib.hid hm1
  have HHD01 := Lib.hid hd01
  have HHMS1 := Lib.hid hms1
  obtain ⟨mm2, hmm2⟩ : ∃ mm, d2.man = mm := ⟨_, rfl⟩
  rw [hmm2] at hm2 hd02 hms2 hqt
  have hlen2 : q4.length ≤ 60 := len_val m4.2.2 hd4.1 hm2.symm hms2
  have HHM2 := Lib.hid hm2
  have HHD02 := Lib.hid hd02
  have HHMS2 := Lib.hid hms2
  have HQT := Lib.hid hqt
  clear hqt hd3 hd4 he1 hg1 hml1 hbl1 hdd1 hmm1 hm1 hd01 hms1 he2 hg2 hml2 hbl2 hdd2 hmm2 hm2 hd02 hms2
  go_upto_region 10 with fail
  refine wp_region_held_drew (S := fun w9 : World => w9.cell? ⟨w.heap.size, 0, none⟩ = some (.bool b3) ∧ w9.cell? ⟨w.heap.size, 1, none⟩ = some (.slice A3 q3.length c3) ∧ w9.cell? ⟨w.heap.size, 2, none⟩ = some (.int .i64 x3) ∧ w9.cell? ⟨w.heap.size + 1, 0, none⟩ = some (.bool b4) ∧ w9.cell? ⟨w.heap.size + 1, 1, none⟩ = some (.slice A4 q4.length c4) ∧ w9.cell? ⟨w.heap.size + 1, 2, none⟩ = some (.int .i64 x4)) (by kernel_rfl) ⟨PB_0, PB_1, PB_2, QB_0, QB_1, QB_2⟩ (fun hHeld => ?_)
  refine wpAnyH_take (i := 0) (v := ?v200) rfl (by kernel_rfl) (by kernel_rfl) (by kernel_rfl) (fun _ _ _ h => h) (Or.inl ⟨by rfl, ?hy200⟩) (by assumption) ?rest200
  case hy200 => (intro w hSw; (try dsimp only at hSw); go_simp; try with_reducible rfl)
  simp only [Act.put, List.setIfInBounds_toArray, List.set_cons_zero, List.set_cons_succ, List.getElem_toArray, List.getElem_cons_zero, List.getElem_cons_succ]
  refine wpAnyH_take (i := 1) (v := ?v301) rfl (by kernel_rfl) (by kernel_rfl) (by kernel_rfl) (fun _ _ _ h => h) (Or.inl ⟨by rfl, ?hy301⟩) (by assumption) ?rest301
  case hy301 => (intro w hSw; (try dsimp only at hSw); go_simp; try with_reducible rfl)
  simp only [Act.put, List.setIfInBounds_toArray, List.set_cons_zero, List.set_cons_succ, List.getElem_toArray, List.getElem_cons_zero, List.getElem_cons_succ]
  refine wpAnyH_take (i := 3) (v := ?v403) rfl (by kernel_rfl) (by kernel_rfl) (by kernel_rfl) (fun _ _ _ h => h) (Or.inl ⟨by rfl, ?hy403⟩) (by assumption) ?rest403
  case hy403 => (intro w hSw; (try dsimp only at hSw); go_simp; try with_reducible rfl)
  simp only [Act.put, List.setIfInBounds_toArray, List.set_cons_zero, List.set_cons_succ, List.getElem_toArray, List.getElem_cons_zero, List.getElem_cons_succ]
  refine wpAnyH_take (i := 4) (v := ?v504) rfl (by kernel_rfl) (by kernel_rfl) (by kernel_rfl) (fun _ _ _ h => h) (Or.inl ⟨by rfl, ?hy504⟩) (by assumption) ?rest504
  case hy504 => (intro w hSw; (try dsimp only at hSw); go_simp; try with_reducible rfl)
  simp only [Act.put, List.setIfInBounds_toArray, List.set_cons_zero, List.set_cons_succ, List.getElem_toArray, List.getElem_cons_zero, List.getElem_cons_succ]
  clear PB_0 PB_1 PB_2 PB_f0 PB_f1 PB_f2
  clear QB_0 QB_1 QB_2 QB_f0 QB_f1 QB_f2
  have bd : Below wc.heap.size wc wc.drew := (Below.refl _ _).drew
  replace m3 := Lv.on m3 bd
  replace m4 := Lv.on m4 bd
  replace PB := Blk.on PB bd
  replace QB := Blk.on QB bd
  replace bw := dy_end bw bd
  have hsd2 : w.heap.size + 1 < wc.drew.heap.size := Blk.lt QB
  clear bd
  refine wpAnyH_ready (rs := [2]) (by kernel_rfl) (by simp) ?_
  refine AllReadyH.cons rfl (fun K hK => ?_) AllReadyH.nil
  go_simp
  have pk := refBits_any m4 (by omega)
  with_reducible refine pk.mono ?_
  rintro e u1 ⟨k4, rfl, hk4, hb⟩
  clear pk
  have hs_u1 : w.heap.size + 1 < u1.heap.size := Nat.lt_of_lt_of_le (Blk.lt QB) hb.size
  refine hK.out _ _ (keep6 hb (by first | omega | (dsimp only; omega) | (simp; omega) | (simp; done)) hHeld) (fun hHeld => ?_)
  clear hK K
  try simp only [Act.put, List.setIfInBounds_toArray, List.set_cons_zero, List.set_cons_succ, List.getElem_toArray, List.getElem_cons_zero, List.getElem_cons_succ]
  replace m3 := Lv.on m3 hb
  replace m4 := Lv.on m4 hb
  replace PB := Blk.on PB hb
  replace QB := Blk.on QB hb
  replace bw := dy_end bw hb
  clear hb
  refine wpAnyH_ready (rs := [5]) (by kernel_rfl) (by simp) ?_
  refine AllReadyH.cons rfl (fun K hK => ?_) AllReadyH.nil
  go_simp
  have pk := refBits_any m3 (by omega)
  with_reducible refine pk.mono ?_
  rintro e u2 ⟨k3, rfl, hk3, hb⟩
  clear pk
  have hs_u2 : w.heap.size + 1 < u2.heap.size := Nat.lt_of_lt_of_le (Blk.lt QB) hb.size
  refine hK.out _ _ (keep6 hb (by first | omega | (dsimp only; omega) | (simp; omega) | (simp; done)) hHeld) (fun hHeld => ?_)
  clear hK K
  try simp only [Act.put, List.setIfInBounds_toArray, List.set_cons_zero, List.set_cons_succ, List.getElem_toArray, List.getElem_cons_zero, List.getElem_cons_succ]
  replace m3 := Lv.on m3 hb
  replace m4 := Lv.on m4 hb
  replace PB := Blk.on PB hb
  replace QB := Blk.on QB hb
  replace bw := dy_end bw hb
  clear hb
  have hk3b := bits_le (by rw [← HHM1.out]; exact HHMS1.out) hk3
  have hk4b := bits_le (by rw [← HHM2.out]; exact HHMS2.out) hk4
  have hk3i : (k3 : Int) ≤ 3840 := by omega
  have hk4i : (k4 : Int) ≤ 3840 := by omega
  refine wpAnyH_take (i := 6) (v := ?v606) rfl (by kernel_rfl) (by kernel_rfl) (by kernel_rfl) (fun _ _ _ h => h) (Or.inl ⟨by rfl, ?hy606⟩) (by assumption) ?rest606
  case hy606 => (intro w hSw; (try dsimp only at hSw); go_simp; try with_reducible rfl)
  simp only [Act.put, List.setIfInBounds_toArray, List.set_cons_zero, List.set_cons_succ, List.getElem_toArray, List.getElem_cons_zero, List.getElem_cons_succ]
  have hw9 : IntKind.i64.wrap ((k4 : Int) - k3) = k4 - k3 := IntWalk.i64_in _ (by omega)
  obtain ⟨mx, hmx⟩ : ∃ mx : Nat, max 0 ((k4 : Int) - k3) = mx := ⟨k4 - k3, by omega⟩
  refine wpAnyH_ready (rs := [7]) (by kernel_rfl) (by simp) ?_
  refine AllReadyH.cons rfl (fun K hK => ?_) AllReadyH.nil
  go_simp
  try rw [hw9, hmx]
  refine hK.out _ _ (hHeld) (fun hHeld => ?_)
  clear hK K
  try simp only [Act.put, List.setIfInBounds_toArray, List.set_cons_zero, List.set_cons_succ, List.getElem_toArray, List.getElem_cons_zero, List.getElem_cons_succ]
  obtain ⟨up, hup⟩ : ∃ up, mx + 70 = up := ⟨_, rfl⟩
  have hupw : IntKind.i64.wrap ((mx : Int) + 70) = up := by rw [IntWalk.i64_in _ (by omega)]; omega
  have hu1 : k4 + 70 ≤ k3 + up := by omega
  have hu2 : up ≤ 3910 := by omega
  have hu3 : (up : Int) ≤ 3910 := by omega
  refine wpAnyH_take (i := 8) (v := ?v708) rfl (by kernel_rfl) (by kernel_rfl) (by kernel_rfl) (fun _ _ _ h => h) (Or.inl ⟨by rfl, ?hy708⟩) (by assumption) ?rest708
  case hy708 => (intro w hSw; (try dsimp only at hSw); go_simp; try with_reducible rfl)
  simp only [Act.put, List.setIfInBounds_toArray, List.set_cons_zero, List.set_cons_succ, List.getElem_toArray, List.getElem_cons_zero, List.getElem_cons_succ]
  try rw [hupw]
  refine wpAnyH_take (i := 9) (v := ?v809) rfl (by kernel_rfl) (by kernel_rfl) (by kernel_rfl) (fun _ _ _ h => h) (Or.inl ⟨by rfl, ?hy809⟩) (by assumption) ?rest809
  case hy809 => (intro w hSw; (try dsimp only at hSw); go_simp; try with_reducible rfl)
  simp only [Act.put, List.setIfInBounds_toArray, List.set_cons_zero, List.set_cons_succ, List.getElem_toArray, List.getElem_cons_zero, List.getElem_cons_succ]
  refine wpAnyH_done (by kernel_rfl) ?_ _
  clear hw9 hmx hup hupw hHeld hk3i hk4i
  obtain ⟨PB_0, PB_1, PB_2, PB_f0, PB_f1, PB_f2⟩ := Dbx.cells PB
  obtain ⟨QB_0, QB_1, QB_2, QB_f0, QB_f1, QB_f2⟩ := Dbx.cells QB
  go_upto_region 11 with fail
  refine wp_region_held_drew (S := fun w9 : World => w9.cell? ⟨w.heap.size, 0, none⟩ = some (.bool b3) ∧ w9.cell? ⟨w.heap.size, 1, none⟩ = some (.slice A3 q3.length c3) ∧ w9.cell? ⟨w.heap.size, 2, none⟩ = some (.int .i64 x3) ∧ w9.cell? ⟨w.heap.size + 1, 0, none⟩ = some (.bool b4) ∧ w9.cell? ⟨w.heap.size + 1, 1, none⟩ = some (.slice A4 q4.length c4) ∧ w9.cell? ⟨w.heap.size + 1, 2, none⟩ = some (.int .i64 x4)) (by kernel_rfl) ⟨PB_0, PB_1, PB_2, QB_0, QB_1, QB_2⟩ (fun hHeld => ?_)
  refine wpAnyH_take (i := 0) (v := ?v900) rfl (by kernel_rfl) (by kernel_rfl) (by kernel_rfl) (fun _ _ _ h => h) (Or.inl ⟨by rfl, ?hy900⟩) (by assumption) ?rest900
  case hy900 => (intro w hSw; (try dsimp only at hSw); go_simp; try with_reducible rfl)
  simp only [Act.put, List.setIfInBounds_toArray, List.set_cons_zero, List.set_cons_succ, List.getElem_toArray, List.getElem_cons_zero, List.getElem_cons_succ]
  refine wpAnyH_take (i := 1) (v := ?v1001) rfl (by kernel_rfl) (by kernel_rfl) (by kernel_rfl) (fun _ _ _ h => h) (Or.inl ⟨by rfl, ?hy1001⟩) (by assumption) ?rest1001
  case hy1001 => (intro w hSw; (try dsimp only at hSw); go_simp; try with_reducible rfl)
  simp only [Act.put, List.setIfInBounds_toArray, List.set_cons_zero, List.set_cons_succ, List.getElem_toArray, List.getElem_cons_zero, List.getElem_cons_succ]
  refine wpAnyH_take (i := 2) (v := ?v1102) rfl (by kernel_rfl) (by kernel_rfl) (by kernel_rfl) (fun _ _ _ h => h) (Or.inl ⟨by rfl, ?hy1102⟩) (by assumption) ?rest1102
  case hy1102 => (intro w hSw; (try dsimp only at hSw); go_simp; try with_reducible rfl)
  simp only [Act.put, List.setIfInBounds_toArray, List.set_cons_zero, List.set_cons_succ, List.getElem_toArray, List.getElem_cons_zero, List.getElem_cons_succ]
  refine wpAnyH_take (i := 4) (v := ?v1204) rfl (by kernel_rfl) (by kernel_rfl) (by kernel_rfl) (fun _ _ _ h => h) (Or.inl ⟨by rfl, ?hy1204⟩) (by assumption) ?rest1204
  case hy1204 => (intro w hSw; (try dsimp only at hSw); go_simp; try with_reducible rfl)
  simp only [Act.put, List.setIfInBounds_toArray, List.set_cons_zero, List.set_cons_succ, List.getElem_toArray, List.getElem_cons_zero, List.getElem_cons_succ]
  refine wpAnyH_take (i := 5) (v := ?v1305) rfl (by kernel_rfl) (by kernel_rfl) (by kernel_rfl) (fun _ _ _ h => h) (Or.inl ⟨by rfl, ?hy1305⟩) (by assumption) ?rest1305
  case hy1305 => (intro w hSw; (try dsimp only at hSw); go_simp; try with_reducible rfl)
  simp only [Act.put, List.setIfInBounds_toArray, List.set_cons_zero, List.set_cons_succ, List.getElem_toArray, List.getElem_cons_zero, List.getElem_cons_succ]
  clear PB_0 PB_1 PB_2 PB_f0 PB_f1 PB_f2
  clear QB_0 QB_1 QB_2 QB_f0 QB_f1 QB_f2
  have bd : Below u2.heap.size u2 u2.drew := (Below.refl _ _).drew
  replace m3 := Lv.on m3 bd
  replace m4 := Lv.on m4 bd
  replace PB := Blk.on PB bd
  replace QB := Blk.on QB bd
  replace bw := dy_end bw bd
  have hsd3 : w.heap.size + 1 < u2.drew.heap.size := Blk.lt QB
  clear bd
  have psh := refShl_any m3 (by omega) up (by omega)
  rw [← HHM1.out] at psh
  refine wpAnyH_ready (rs := [3]) (by kernel_rfl) (by simp) ?_
  refine AllReadyH.cons rfl (fun K hK => ?_) AllReadyH.nil
  go_simp
  with_reducible refine psh.mono ?_
  rintro e u3 ⟨P, Am, cm, rfl, n_P, v_P, m_P, hb⟩
  have hs_u3 : w.heap.size + 1 < u3.heap.size := Nat.lt_of_lt_of_le (Blk.lt QB) hb.size
  refine hK.out _ _ (keep6 hb (by first | omega | (dsimp only; omega) | (simp; omega) | (simp; done)) hHeld) (fun hHeld => ?_)
  clear hK K
  try simp only [Act.put, List.setIfInBounds_toArray, List.set_cons_zero, List.set_cons_succ, List.getElem_toArray, List.getElem_cons_zero, List.getElem_cons_succ]
  replace m3 := Lv.on m3 hb
  replace m4 := Lv.on m4 hb
  replace PB := Blk.on PB hb
  replace QB := Blk.on QB hb
  replace bw := dy_end bw hb
  clear hb
  clear psh
  have lenP : P.length ≤ 122 := len_val m_P.2.2 n_P v_P.out (shl_122 HHMS1.out (Int.natCast_nonneg _) hu2)
  have pdv := refDivide_lv m_P m4 (by omega) (by omega) (by rw [← HHM2.out]; have := HHD02.out; omega)
  rw [v_P.out, ← HHM2.out] at pdv
  obtain ⟨rst, hrst⟩ : ∃ r, decide ((mm1 : Int) * 2 ^ up % mm2 ≠ 0) = r := ⟨_, rfl⟩
  rw [hrst] at pdv
  refine wpAnyH_ready (rs := [6]) (by kernel_rfl) (by simp) ?_
  refine AllReadyH.cons rfl (fun K hK => ?_) AllReadyH.nil
  go_simp
  with_reducible refine pdv.mono ?_
  rintro e u4 ⟨Q, Aq, cq, rfl, n_Q, v_Q, m_Q, hb⟩
  have hs_u4 : w.heap.size + 1 < u4.heap.size := Nat.lt_of_lt_of_le (Blk.lt QB) hb.size
  refine hK.out _ _ (keep6 hb (by first | omega | (dsimp only; omega) | (simp; omega) | (simp; done)) hHeld) (fun hHeld => ?_)
  clear hK K
  try simp only [Act.put, List.setIfInBounds_toArray, List.set_cons_zero, List.set_cons_succ, List.getElem_toArray, List.getElem_cons_zero, List.getElem_cons_succ]
  replace m3 := Lv.on m3 hb
  replace m4 := Lv.on m4 hb
  replace m_P := Lv.on m_P hb
  replace PB := Blk.on PB hb
  replace QB := Blk.on QB hb
  replace bw := dy_end bw hb
  clear hb
  clear pdv
  refine wpAnyH_take (i := 7) (v := ?v1407) rfl (by kernel_rfl) (by kernel_rfl) (by kernel_rfl) (fun _ _ _ h => h) (Or.inl ⟨by rfl, ?hy1407⟩) (by assumption) ?rest1407
  case hy1407 => (intro w hSw; (try dsimp only at hSw); go_simp; try with_reducible rfl)
  simp only [Act.put, List.setIfInBounds_toArray, List.set_cons_zero, List.set_cons_succ, List.getElem_toArray, List.getElem_cons_zero, List.getElem_cons_succ]
  refine wpAnyH_take (i := 8) (v := ?v1508) rfl (by kernel_rfl) (by kernel_rfl) (by kernel_rfl) (fun _ _ _ h => h) (Or.inl ⟨by rfl, ?hy1508⟩) (by assumption) ?rest1508
  case hy1508 => (intro w hSw; (try dsimp only at hSw); go_simp; try with_reducible rfl)
  simp only [Act.put, List.setIfInBounds_toArray, List.set_cons_zero, List.set_cons_succ, List.getElem_toArray, List.getElem_cons_zero, List.getElem_cons_succ]
  refine wpAnyH_take (i := 9) (v := ?v1609) rfl (by kernel_rfl) (by kernel_rfl) (by kernel_rfl) (fun _ _ _ h => h) (Or.inl ⟨by rfl, ?hy1609⟩) (by assumption) ?rest1609
  case hy1609 => (intro w hSw; (try dsimp only at hSw); go_simp; try with_reducible rfl)
  simp only [Act.put, List.setIfInBounds_toArray, List.set_cons_zero, List.set_cons_succ, List.getElem_toArray, List.getElem_cons_zero, List.getElem_cons_succ]
  refine wpAnyH_take (i := 10) (v := ?v1710) rfl (by kernel_rfl) (by kernel_rfl) (by kernel_rfl) (fun _ _ _ h => h) (Or.inl ⟨by rfl, ?hy1710⟩) (by assumption) ?rest1710
  case hy1710 => (intro w hSw; (try dsimp only at hSw); go_simp; try with_reducible rfl)
  simp only [Act.put, List.setIfInBounds_toArray, List.set_cons_zero, List.set_cons_succ, List.getElem_toArray, List.getElem_cons_zero, List.getElem_cons_succ]
  refine wpAnyH_take (i := 11) (v := ?v1811) rfl (by kernel_rfl) (by kernel_rfl) (by kernel_rfl) (fun _ _ _ h => h) (Or.inl ⟨by rfl, ?hy1811⟩) (by assumption) ?rest1811
  case hy1811 => (intro w hSw; (try dsimp only at hSw); go_simp; try with_reducible rfl)
  simp only [Act.put, List.setIfInBounds_toArray, List.set_cons_zero, List.set_cons_succ, List.getElem_toArray, List.getElem_cons_zero, List.getElem_cons_succ]
  refine wpAnyH_done (by kernel_rfl) ?_ _
  clear hHeld
  obtain ⟨PB_0, PB_1, PB_2, PB_f0, PB_f1, PB_f2⟩ := Dbx.cells PB
  obtain ⟨QB_0, QB_1, QB_2, QB_f0, QB_f1, QB_f2⟩ := Dbx.cells QB
  obtain ⟨z, hz⟩ : ∃ z, val 18446744073709551616 Q = z := ⟨_, rfl⟩
  obtain ⟨bq, hbq⟩ := exists_bits z (by rw [← hz]; exact m_Q.nonneg)
  have lenQ : Q.length ≤ 122 := len_val m_Q.2.2 n_Q v_Q.out (Int.lt_of_le_of_lt (Int.ediv_le_self _ (Int.mul_nonneg (Int.natCast_nonneg _) (Int.le_of_lt (two_pos _)))) (shl_122 HHMS1.out (Int.natCast_nonneg _) hu2))
  have hzq := v_Q.out
  rw [hz] at hzq
  obtain ⟨h64, hans⟩ := ref_quot (a := mm1) (d := mm2) (!(b3 == b4)) HHD01.out HHD02.out (by rw [HHM1.out]; exact hk3) (by rw [HHM2.out]; exact hk4) hu1 hzq hbq (x3 - x4)
  have HQT2 := HQT.out
  rw [show (b3 != b4) = !(b3 == b4) from rfl] at HQT2
  rw [hrst, HQT2] at hans
  have pr := refRound_any (!(b3 == b4)) rst (x3 - x4 - up) m_Q (by omega) (by rw [hz]; exact hbq) h64 (by omega) (by omega)
  rw [hz, hans] at pr
  have PR := pr
  clear hans h64 hbq hzq hz HQT2 hrst pr
  go_wp2_with fail
  with_reducible refine (PR).mono ?_
  rintro e w7 ⟨rfl, hb⟩
  clear PB_0 PB_1 PB_2 PB_f0 PB_f1 PB_f2
  clear QB_0 QB_1 QB_2 QB_f0 QB_f1 QB_f2
  have hs7 := hb.size
  try simp only [World.size_alloc, World.size_setCell] at hs7
  replace bw : Below w.heap.size w w7 := dy_end (by go_grown) hb
  replace m3 := Lv.on m3 hb
  replace m4 := Lv.on m4 hb
  replace m_P := Lv.on m_P hb
  replace m_Q := Lv.on m_Q hb
  replace PB := Blk.on PB hb
  replace QB := Blk.on QB hb
  clear hb
  obtain ⟨PB_0, PB_1, PB_2, PB_f0, PB_f1, PB_f2⟩ := Dbx.cells PB
  obtain ⟨QB_0, QB_1, QB_2, QB_f0, QB_f1, QB_f2⟩ := Dbx.cells QB
  clear PR
  go_wp2_with fail
  go_ret2
  exact ⟨rfl, by go_grown⟩

end
end Go.Proofs.YtfjellhbcjnjkaaGreatDoor
namespace Go.Proofs.YtfjellhbcjnjkaaGreatDoor
open Go Go.RowKit Go.Sort Go.Bw
set_option linter.unusedVariables false
set_option linter.unusedSimpArgs false

section
variable {b : Bool} {A : Option Addr} {n c : Nat} {x : Int} {l : List Int} {w : World}
variable {b2 : Bool} {A2 : Option Addr} {n2 c2 : Nat} {x2 : Int} {l2 : List Int}
set_option maxRecDepth 100000 in
set_option maxHeartbeats 8000000 in
theorem lmuch_yes (b : Bool) (A : Option Addr) (c : Nat) (x : Int) (w : World) (hn : 20 < n) :
    Calls Tryz.prog 23 #[dyV b A n c x] w fun e w' => e = .returned (.bool true) ∧ Below w.heap.size w w' := by
  have PB := Blk.new w [.bool b, .slice A n c, .int .i64 x] 35
  have bw : Below w.heap.size w (w.alloc (.cells #[.bool b, .slice A n c, .int .i64 x] 35)) := by go_grown
  have PB_0 := Blk.cell PB 0 rfl
  have PB_1 := Blk.cell PB 1 rfl
  have PB_2 := Blk.cell PB 2 rfl
  have PB_f0 := Blk.free PB 0
  have PB_f1 := Blk.free PB 1
  have PB_f2 := Blk.free PB 2
  have hq : decide ((20 : Int) < (n : Int)) = true := by simp; omega
  go_enter Tryz.func23, Tryz.ntmps23
  go_wp2_with fail
  go_ret
  exact ⟨rfl, by go_grown⟩

set_option maxRecDepth 100000 in
set_option maxHeartbeats 8000000 in
theorem lmuch_no (b : Bool) (A : Option Addr) (c : Nat) (x : Int) (w : World) (hn : n ≤ 20) :
    Calls Tryz.prog 23 #[dyV b A n c x] w fun e w' => e = .returned (.bool false) ∧ Below w.heap.size w w' := by
  have PB := Blk.new w [.bool b, .slice A n c, .int .i64 x] 35
  have bw : Below w.heap.size w (w.alloc (.cells #[.bool b, .slice A n c, .int .i64 x] 35)) := by go_grown
  have PB_0 := Blk.cell PB 0 rfl
  have PB_1 := Blk.cell PB 1 rfl
  have PB_2 := Blk.cell PB 2 rfl
  have PB_f0 := Blk.free PB 0
  have PB_f1 := Blk.free PB 1
  have PB_f2 := Blk.free PB 2
  have hq : decide ((20 : Int) < (n : Int)) = false := by simp; omega
  go_enter Tryz.func23, Tryz.ntmps23
  go_wp2_with fail
  go_ret
  exact ⟨rfl, by go_grown⟩

theorem quot_pair9 (h : Lv w A n c l) (hn : n ≤ 20) (h2 : Lv w A2 n2 c2 l2) (hn2 : n2 ≤ 20) : ∃ (X : Nat) (k : Int),
    (∀ W : World, Lv W A n c l → Lv W A2 n2 c2 l2 → Tab W → Calls Tryz.prog 24 #[dyV b A n c x, dyV b2 A2 n2 c2 x2] W fun e w' => e = .returned (.tuple #[.float .f64 X, .int .i64 k]) ∧ Below W.heap.size W w') ∧
    (∀ W : World, Lv W A n c l → Lv W A2 n2 c2 l2 → Calls Tryz.prog 25 #[dyV b A n c x, dyV b2 A2 n2 c2 x2] W fun e w' => e = .returned (.tuple #[.int .u64 X, .int .i64 k]) ∧ Below W.heap.size W w') := by
  have hb := fun k (hk : IsBits (val 18446744073709551616 l) k) => bits_le (h.less (Nat.le_refl n)) hk
  have hb2 := fun k (hk : IsBits (val 18446744073709551616 l2) k) => bits_le (h2.less (Nat.le_refl n2)) hk
  have v0 := h.nonneg
  have v2 := h2.nonneg
  cases ho : okE x
  · exact ⟨0, 2, fun W q p t => quot_a q (by omega) p (by omega) t ho, fun W q p => rQuot_a q (by omega) p (by omega) ho⟩
  · cases ho2 : okE x2
    · exact ⟨0, 2, fun W q p t => quot_b q (by omega) p (by omega) t ho ho2, fun W q p => rQuot_b q (by omega) p (by omega) ho ho2⟩
    · by_cases hz2 : val 18446744073709551616 l2 = 0
      · exact ⟨0, 9, fun W q p t => quot_z q (by omega) p (by omega) t ho ho2 hz2, fun W q p => rQuot_z q (by omega) p (by omega) ho ho2 (Lib.hid hz2)⟩
      · obtain ⟨k1, hk1⟩ := exists_bits _ v0
        obtain ⟨k2, hk2⟩ := exists_bits _ v2
        have e1 := hb k1 hk1
        have e2 := hb2 k2 hk2
        by_cases hz : val 18446744073709551616 l = 0
        · exact ⟨0, 0, fun W q p t => quot_n q (by omega) p (by omega) t ho ho2 (by omega) hz (Lib.hid hk1) (by omega) (Lib.hid hk2) (by omega), fun W q p => rQuot_n q (by omega) p (by omega) ho ho2 (Lib.hid hz) (Lib.hid hz2)⟩
        · refine ⟨quotW (b != b2) (val 18446744073709551616 l).toNat (val 18446744073709551616 l2).toNat (x - x2), 0, fun W q p t => ?_, fun W q p => rQuot_m q (by omega) p (by omega) ho ho2 (Lib.hid hz) (Lib.hid hz2)⟩
          cases hL : broL (val 18446744073709551616 l) (k2 + 63 - k1)
          · exact quot_mf q (by omega) p (by omega) t (by omega) ho ho2 (by omega) (by omega) (Lib.hid hk1) (by omega) (Lib.hid hk2) (by omega) hL
          · exact quot_mt q (by omega) p (by omega) t (by omega) ho ho2 (by omega) (by omega) (Lib.hid hk1) (by omega) (Lib.hid hk2) (by omega) hL
set_option maxRecDepth 100000 in
set_option maxHeartbeats 8000000 in
theorem SoftQuot_a (b : Bool) (A : Option Addr) (c : Nat) (x : Int) (b2 : Bool) (A2 : Option Addr) (n2 c2 : Nat) (x2 : Int) (hn : 20 < n) (hT : Tab w) :
    Calls Tryz.prog 9 #[dyV b A n c x, dyV b2 A2 n2 c2 x2] w fun e w' => e = .returned (.bool true) ∧ Below w.heap.size w w' := by
  have PB := Blk.new w [.bool b, .slice A n c, .int .i64 x] 35
  have QB := Blk.new (w.alloc (.cells #[.bool b, .slice A n c, .int .i64 x] 35)) [.bool b2, .slice A2 n2 c2, .int .i64 x2] 35
  simp only [World.size_alloc] at QB
  replace PB := Blk.alloc PB (.cells #[.bool b2, .slice A2 n2 c2, .int .i64 x2] 35)
  have bw : Below w.heap.size w ((w.alloc (.cells #[.bool b, .slice A n c, .int .i64 x] 35)).alloc (.cells #[.bool b2, .slice A2 n2 c2, .int .i64 x2] 35)) := by go_grown
  have PB_0 := Blk.cell PB 0 rfl
  have PB_1 := Blk.cell PB 1 rfl
  have PB_2 := Blk.cell PB 2 rfl
  have PB_f0 := Blk.free PB 0
  have PB_f1 := Blk.free PB 1
  have PB_f2 := Blk.free PB 2
  have QB_0 := Blk.cell QB 0 rfl
  have QB_1 := Blk.cell QB 1 rfl
  have QB_2 := Blk.cell QB 2 rfl
  have QB_f0 := Blk.free QB 0
  have QB_f1 := Blk.free QB 1
  have QB_f2 := Blk.free QB 2
  go_enter Tryz.func9, Tryz.ntmps9
  go_wp2_with fail
  with_reducible refine (lmuch_yes b A c x _ hn).mono ?_
  rintro e w1 ⟨rfl, hb⟩
  clear PB_0 PB_1 PB_2 PB_f0 PB_f1 PB_f2
  clear QB_0 QB_1 QB_2 QB_f0 QB_f1 QB_f2
  have hs1 := hb.size
  try simp only [World.size_alloc, World.size_setCell] at hs1
  replace bw : Below w.heap.size w w1 := dy_end (by go_grown) hb
  replace PB := Blk.on PB hb
  replace QB := Blk.on QB hb
  clear hb
  have PB_0 := Blk.cell PB 0 rfl
  have PB_1 := Blk.cell PB 1 rfl
  have PB_2 := Blk.cell PB 2 rfl
  have PB_f0 := Blk.free PB 0
  have PB_f1 := Blk.free PB 1
  have PB_f2 := Blk.free PB 2
  have QB_0 := Blk.cell QB 0 rfl
  have QB_1 := Blk.cell QB 1 rfl
  have QB_2 := Blk.cell QB 2 rfl
  have QB_f0 := Blk.free QB 0
  have QB_f1 := Blk.free QB 1
  have QB_f2 := Blk.free QB 2
  go_wp2_with fail
  with_reducible refine (known_any (hT.onD (by go_grown))).mono ?_
  rintro e w2 ⟨rfl, hb⟩
  clear PB_0 PB_1 PB_2 PB_f0 PB_f1 PB_f2
  clear QB_0 QB_1 QB_2 QB_f0 QB_f1 QB_f2
  have hs2 := hb.size
  try simp only [World.size_alloc, World.size_setCell] at hs2
  replace bw : Below w.heap.size w w2 := dy_end (by go_grown) hb
  replace PB := Blk.on PB hb
  replace QB := Blk.on QB hb
  clear hb
  have PB_0 := Blk.cell PB 0 rfl
  have PB_1 := Blk.cell PB 1 rfl
  have PB_2 := Blk.cell PB 2 rfl
  have PB_f0 := Blk.free PB 0
  have PB_f1 := Blk.free PB 1
  have PB_f2 := Blk.free PB 2
  have QB_0 := Blk.cell QB 0 rfl
  have QB_1 := Blk.cell QB 1 rfl
  have QB_2 := Blk.cell QB 2 rfl
  have QB_f0 := Blk.free QB 0
  have QB_f1 := Blk.free QB 1
  have QB_f2 := Blk.free QB 2
  go_wp2_with fail
  go_ret
  exact ⟨rfl, by go_grown⟩

set_option maxRecDepth 100000 in
set_option maxHeartbeats 8000000 in
theorem SoftQuot_b (b : Bool) (A : Option Addr) (c : Nat) (x : Int) (b2 : Bool) (A2 : Option Addr) (c2 : Nat) (x2 : Int) (hn : n ≤ 20) (hn2 : 20 < n2) (hT : Tab w) :
    Calls Tryz.prog 9 #[dyV b A n c x, dyV b2 A2 n2 c2 x2] w fun e w' => e = .returned (.bool true) ∧ Below w.heap.size w w' := by
  have PB := Blk.new w [.bool b, .slice A n c, .int .i64 x] 35
  have QB := Blk.new (w.alloc (.cells #[.bool b, .slice A n c, .int .i64 x] 35)) [.bool b2, .slice A2 n2 c2, .int .i64 x2] 35
  simp only [World.size_alloc] at QB
  replace PB := Blk.alloc PB (.cells #[.bool b2, .slice A2 n2 c2, .int .i64 x2] 35)
  have bw : Below w.heap.size w ((w.alloc (.cells #[.bool b, .slice A n c, .int .i64 x] 35)).alloc (.cells #[.bool b2, .slice A2 n2 c2, .int .i64 x2] 35)) := by go_grown
  have PB_0 := Blk.cell PB 0 rfl
  have PB_1 := Blk.cell PB 1 rfl
  have PB_2 := Blk.cell PB 2 rfl
  have PB_f0 := Blk.free PB 0
  have PB_f1 := Blk.free PB 1
  have PB_f2 := Blk.free PB 2
  have QB_0 := Blk.cell QB 0 rfl
  have QB_1 := Blk.cell QB 1 rfl
  have QB_2 := Blk.cell QB 2 rfl
  have QB_f0 := Blk.free QB 0
  have QB_f1 := Blk.free QB 1
  have QB_f2 := Blk.free QB 2
  go_enter Tryz.func9, Tryz.ntmps9
  go_wp2_with fail
  with_reducible refine (lmuch_no b A c x _ hn).mono ?_
  rintro e w1 ⟨rfl, hb⟩
  clear PB_0 PB_1 PB_2 PB_f0 PB_f1 PB_f2
  clear QB_0 QB_1 QB_2 QB_f0 QB_f1 QB_f2
  have hs1 := hb.size
  try simp only [World.size_alloc, World.size_setCell] at hs1
  replace bw : Below w.heap.size w w1 := dy_end (by go_grown) hb
  replace PB := Blk.on PB hb
  replace QB := Blk.on QB hb
  clear hb
  have PB_0 := Blk.cell PB 0 rfl
  have PB_1 := Blk.cell PB 1 rfl
  have PB_2 := Blk.cell PB 2 rfl
  have PB_f0 := Blk.free PB 0
  have PB_f1 := Blk.free PB 1
  have PB_f2 := Blk.free PB 2
  have QB_0 := Blk.cell QB 0 rfl
  have QB_1 := Blk.cell QB 1 rfl
  have QB_2 := Blk.cell QB 2 rfl
  have QB_f0 := Blk.free QB 0
  have QB_f1 := Blk.free QB 1
  have QB_f2 := Blk.free QB 2
  go_wp2_with fail
  with_reducible refine (lmuch_yes b2 A2 c2 x2 _ hn2).mono ?_
  rintro e w2 ⟨rfl, hb⟩
  clear PB_0 PB_1 PB_2 PB_f0 PB_f1 PB_f2
  clear QB_0 QB_1 QB_2 QB_f0 QB_f1 QB_f2
  have hs2 := hb.size
  try simp only [World.size_alloc, World.size_setCell] at hs2
  replace bw : Below w.heap.size w w2 := dy_end (by go_grown) hb
  replace PB := Blk.on PB hb
  replace QB := Blk.on QB hb
  clear hb
  have PB_0 := Blk.cell PB 0 rfl
  have PB_1 := Blk.cell PB 1 rfl
  have PB_2 := Blk.cell PB 2 rfl
  have PB_f0 := Blk.free PB 0
  have PB_f1 := Blk.free PB 1
  have PB_f2 := Blk.free PB 2
  have QB_0 := Blk.cell QB 0 rfl
  have QB_1 := Blk.cell QB 1 rfl
  have QB_2 := Blk.cell QB 2 rfl
  have QB_f0 := Blk.free QB 0
  have QB_f1 := Blk.free QB 1
  have QB_f2 := Blk.free QB 2
  go_wp2_with fail
  with_reducible refine (known_any (hT.onD (by go_grown))).mono ?_
  rintro e w3 ⟨rfl, hb⟩
  clear PB_0 PB_1 PB_2 PB_f0 PB_f1 PB_f2
  clear QB_0 QB_1 QB_2 QB_f0 QB_f1 QB_f2
  have hs3 := hb.size
  try simp only [World.size_alloc, World.size_setCell] at hs3
  replace bw : Below w.heap.size w w3 := dy_end (by go_grown) hb
  replace PB := Blk.on PB hb
  replace QB := Blk.on QB hb
  clear hb
  have PB_0 := Blk.cell PB 0 rfl
  have PB_1 := Blk.cell PB 1 rfl
  have PB_2 := Blk.cell PB 2 rfl
  have PB_f0 := Blk.free PB 0
  have PB_f1 := Blk.free PB 1
  have PB_f2 := Blk.free PB 2
  have QB_0 := Blk.cell QB 0 rfl
  have QB_1 := Blk.cell QB 1 rfl
  have QB_2 := Blk.cell QB 2 rfl
  have QB_f0 := Blk.free QB 0
  have QB_f1 := Blk.free QB 1
  have QB_f2 := Blk.free QB 2
  go_wp2_with fail
  go_ret
  exact ⟨rfl, by go_grown⟩

set_option maxRecDepth 100000 in
set_option maxHeartbeats 8000000 in
theorem SoftQuot_m (h : Lv w A n c l) (hn : n ≤ 20) (h2 : Lv w A2 n2 c2 l2) (hn2 : n2 ≤ 20) (hT : Tab w) :
    Calls Tryz.prog 9 #[dyV b A n c x, dyV b2 A2 n2 c2 x2] w fun e w' => e = .returned (.bool true) ∧ Below w.heap.size w w' := by
  obtain ⟨X, k, pp, pr⟩ := quot_pair9 (b := b) (x := x) (b2 := b2) (x2 := x2) h hn h2 hn2
  have hx := fun W => run_float64bits X W
  have PB := Blk.new w [.bool b, .slice A n c, .int .i64 x] 35
  have QB := Blk.new (w.alloc (.cells #[.bool b, .slice A n c, .int .i64 x] 35)) [.bool b2, .slice A2 n2 c2, .int .i64 x2] 35
  simp only [World.size_alloc] at QB
  replace PB := Blk.alloc PB (.cells #[.bool b2, .slice A2 n2 c2, .int .i64 x2] 35)
  have bw : Below w.heap.size w ((w.alloc (.cells #[.bool b, .slice A n c, .int .i64 x] 35)).alloc (.cells #[.bool b2, .slice A2 n2 c2, .int .i64 x2] 35)) := by go_grown
  have PB_0 := Blk.cell PB 0 rfl
  have PB_1 := Blk.cell PB 1 rfl
  have PB_2 := Blk.cell PB 2 rfl
  have PB_f0 := Blk.free PB 0
  have PB_f1 := Blk.free PB 1
  have PB_f2 := Blk.free PB 2
  have QB_0 := Blk.cell QB 0 rfl
  have QB_1 := Blk.cell QB 1 rfl
  have QB_2 := Blk.cell QB 2 rfl
  have QB_f0 := Blk.free QB 0
  have QB_f1 := Blk.free QB 1
  have QB_f2 := Blk.free QB 2
  replace h := h.on bw
  replace h2 := h2.on bw
  go_enter Tryz.func9, Tryz.ntmps9
  go_wp2_with fail
  with_reducible refine (lmuch_no b A c x _ hn).mono ?_
  rintro e w1 ⟨rfl, hb⟩
  clear PB_0 PB_1 PB_2 PB_f0 PB_f1 PB_f2
  clear QB_0 QB_1 QB_2 QB_f0 QB_f1 QB_f2
  have hs1 := hb.size
  try simp only [World.size_alloc, World.size_setCell] at hs1
  replace bw : Below w.heap.size w w1 := dy_end (by go_grown) hb
  replace h := Lv.on h hb
  replace h2 := Lv.on h2 hb
  replace PB := Blk.on PB hb
  replace QB := Blk.on QB hb
  clear hb
  have PB_0 := Blk.cell PB 0 rfl
  have PB_1 := Blk.cell PB 1 rfl
  have PB_2 := Blk.cell PB 2 rfl
  have PB_f0 := Blk.free PB 0
  have PB_f1 := Blk.free PB 1
  have PB_f2 := Blk.free PB 2
  have QB_0 := Blk.cell QB 0 rfl
  have QB_1 := Blk.cell QB 1 rfl
  have QB_2 := Blk.cell QB 2 rfl
  have QB_f0 := Blk.free QB 0
  have QB_f1 := Blk.free QB 1
  have QB_f2 := Blk.free QB 2
  go_wp2_with fail
  with_reducible refine (lmuch_no b2 A2 c2 x2 _ hn2).mono ?_
  rintro e w2 ⟨rfl, hb⟩
  clear PB_0 PB_1 PB_2 PB_f0 PB_f1 PB_f2
  clear QB_0 QB_1 QB_2 QB_f0 QB_f1 QB_f2
  have hs2 := hb.size
  try simp only [World.size_alloc, World.size_setCell] at hs2
  replace bw : Below w.heap.size w w2 := dy_end (by go_grown) hb
  replace h := Lv.on h hb
  replace h2 := Lv.on h2 hb
  replace PB := Blk.on PB hb
  replace QB := Blk.on QB hb
  clear hb
  have PB_0 := Blk.cell PB 0 rfl
  have PB_1 := Blk.cell PB 1 rfl
  have PB_2 := Blk.cell PB 2 rfl
  have PB_f0 := Blk.free PB 0
  have PB_f1 := Blk.free PB 1
  have PB_f2 := Blk.free PB 2
  have QB_0 := Blk.cell QB 0 rfl
  have QB_1 := Blk.cell QB 1 rfl
  have QB_2 := Blk.cell QB 2 rfl
  have QB_f0 := Blk.free QB 0
  have QB_f1 := Blk.free QB 1
  have QB_f2 := Blk.free QB 2
  go_wp2_with fail
  with_reducible refine (pp _ h h2 (hT.onD (by go_grown))).mono ?_
  rintro e w3 ⟨rfl, hb⟩
  clear PB_0 PB_1 PB_2 PB_f0 PB_f1 PB_f2
  clear QB_0 QB_1 QB_2 QB_f0 QB_f1 QB_f2
  have hs3 := hb.size
  try simp only [World.size_alloc, World.size_setCell] at hs3
  replace bw : Below w.heap.size w w3 := dy_end (by go_grown) hb
  replace h := Lv.on h hb
  replace h2 := Lv.on h2 hb
  replace PB := Blk.on PB hb
  replace QB := Blk.on QB hb
  clear hb
  have PB_0 := Blk.cell PB 0 rfl
  have PB_1 := Blk.cell PB 1 rfl
  have PB_2 := Blk.cell PB 2 rfl
  have PB_f0 := Blk.free PB 0
  have PB_f1 := Blk.free PB 1
  have PB_f2 := Blk.free PB 2
  have QB_0 := Blk.cell QB 0 rfl
  have QB_1 := Blk.cell QB 1 rfl
  have QB_2 := Blk.cell QB 2 rfl
  have QB_f0 := Blk.free QB 0
  have QB_f1 := Blk.free QB 1
  have QB_f2 := Blk.free QB 2
  go_wp2_with fail
  with_reducible refine (pr _ h h2).mono ?_
  rintro e w4 ⟨rfl, hb⟩
  clear PB_0 PB_1 PB_2 PB_f0 PB_f1 PB_f2
  clear QB_0 QB_1 QB_2 QB_f0 QB_f1 QB_f2
  have hs4 := hb.size
  try simp only [World.size_alloc, World.size_setCell] at hs4
  replace bw : Below w.heap.size w w4 := dy_end (by go_grown) hb
  replace h := Lv.on h hb
  replace h2 := Lv.on h2 hb
  replace PB := Blk.on PB hb
  replace QB := Blk.on QB hb
  clear hb
  have PB_0 := Blk.cell PB 0 rfl
  have PB_1 := Blk.cell PB 1 rfl
  have PB_2 := Blk.cell PB 2 rfl
  have PB_f0 := Blk.free PB 0
  have PB_f1 := Blk.free PB 1
  have PB_f2 := Blk.free PB 2
  have QB_0 := Blk.cell QB 0 rfl
  have QB_1 := Blk.cell QB 1 rfl
  have QB_2 := Blk.cell QB 2 rfl
  have QB_f0 := Blk.free QB 0
  have QB_f1 := Blk.free QB 1
  have QB_f2 := Blk.free QB 2
  clear pp pr
  go_wp2_with fail
  with_reducible refine (lnum_any _ _).mono ?_
  rintro e v0 ⟨rfl, rfl⟩
  go_wp2_with fail
  with_reducible refine (known_any (hT.onD (by go_grown))).mono ?_
  rintro e w5 ⟨rfl, hb⟩
  clear PB_0 PB_1 PB_2 PB_f0 PB_f1 PB_f2
  clear QB_0 QB_1 QB_2 QB_f0 QB_f1 QB_f2
  have hs5 := hb.size
  try simp only [World.size_alloc, World.size_setCell] at hs5
  replace bw : Below w.heap.size w w5 := dy_end (by go_grown) hb
  replace h := Lv.on h hb
  replace h2 := Lv.on h2 hb
  replace PB := Blk.on PB hb
  replace QB := Blk.on QB hb
  clear hb
  have PB_0 := Blk.cell PB 0 rfl
  have PB_1 := Blk.cell PB 1 rfl
  have PB_2 := Blk.cell PB 2 rfl
  have PB_f0 := Blk.free PB 0
  have PB_f1 := Blk.free PB 1
  have PB_f2 := Blk.free PB 2
  have QB_0 := Blk.cell QB 0 rfl
  have QB_1 := Blk.cell QB 1 rfl
  have QB_2 := Blk.cell QB 2 rfl
  have QB_f0 := Blk.free QB 0
  have QB_f1 := Blk.free QB 1
  have QB_f2 := Blk.free QB 2
  go_wp2_with fail
  go_ret
  exact ⟨rfl, by go_grown⟩

theorem SoftQuot_law (b : Bool) (A : Option Addr) (n c : Nat) (x : Int) (z : List Int) (b2 : Bool) (A2 : Option Addr) (n2 c2 : Nat) (x2 : Int) (z2 : List Int) (w : World) (g : IsRow .u64 w A n c z) (x0 : -9223372036854775808 ≤ x) (x1 : x ≤ 9223372036854775807) (g2 : IsRow .u64 w A2 n2 c2 z2) (x20 : -9223372036854775808 ≤ x2) (x21 : x2 ≤ 9223372036854775807) (hT : Tab w) :
    Calls Tryz.prog 9 #[dyV b A n c x, dyV b2 A2 n2 c2 x2] w fun e w' => e = .returned (.bool true) ∧ Below w.heap.size w w' := by
  obtain ⟨l, h⟩ := g.lv
  obtain ⟨l2, h2⟩ := g2.lv
  rcases Nat.lt_or_ge 20 n with hn | hn
  · exact SoftQuot_a b A c x b2 A2 n2 c2 x2 hn hT
  · rcases Nat.lt_or_ge 20 n2 with hn2 | hn2
    · exact SoftQuot_b b A c x b2 A2 c2 x2 hn hn2 hT
    · exact SoftQuot_m h hn h2 hn2 hT
end
end Go.Proofs.YtfjellhbcjnjkaaGreatDoor
