/-
  Layer 2, walks, part two: numbers held against each other; the normal number.
-/
import Derived.Test.YtigphbjgodfhpaaDoorNatB
namespace Go.Proofs.YtigphbjgodfhpaaDoor
open Go.RowKit
set_option linter.unusedVariables false

set_option maxHeartbeats 1000000 in
theorem answered_any (A : Option Addr) (c : Nat) (l : List Int) (w : World) (hlen : l.length ≤ 4096) :
    Calls Tryd.prog 53 #[.slice A l.length c] w fun e w' => e = .returned (.tuple #[.slice A l.length c, .int .i64 0]) ∧ w = w' := by
  go_enter Tryd.func53, Tryd.ntmps53
  go_wp2
  go_ret2
  exact ⟨rfl, rfl⟩
set_option maxHeartbeats 1000000 in
theorem answered_long (A : Option Addr) (c : Nat) (l : List Int) (w : World) (hlen : 4096 < l.length) :
    Calls Tryd.prog 53 #[.slice A l.length c] w fun e w' => e = .returned (.tuple #[.slice none 0 0, .int .i64 3]) ∧ w = w' := by
  go_enter Tryd.func53, Tryd.ntmps53
  go_wp2
  go_ret2
  exact ⟨rfl, rfl⟩

/-- a new number, and no error -/
def New2Post (l : List Int) (w : World) (e : Ending) (w' : World) : Prop :=
  ∃ A c, e = .returned (.tuple #[.slice A l.length c, .int .i64 0]) ∧ Own w' w.heap.size A c l ∧ Below w.heap.size w w'

set_option maxHeartbeats 1000000 in
theorem norm_any (A : Option Addr) (c : Nat) (l : List Int) (w : World) (h : Nums w w.heap.size A c l) (hl : Lim 18446744073709551616 l) (hlen : (norm l).length ≤ 4096) :
    Calls Tryd.prog 18 #[.slice A l.length c] w (New2Post (norm l) w) := by
  go_enter Tryd.func18, Tryd.ntmps18
  go_wp2_with (first
    | (go_at_call 51; ((with_reducible refine (taken_any A c l _ _ h hl hlen).mono ?_); rintro e w' ⟨A', c', rfl, ht, rfl⟩))
    | (go_at_call 52; ((with_reducible refine (clone_any A' c' (norm l) _ (ht.nums h) (by omega)).mono ?_); rintro e w' ⟨A2, c2, rfl, hown, hb⟩)))
  go_ret2
  exact ⟨A2, c2, rfl, hown, hb⟩
theorem clone_nil (w : World) : Calls Tryd.prog 52 #[.slice none 0 0] w (NewPost [] w) := clone_any none 0 [] w (Nums.nil _ _) (by simp)
set_option maxHeartbeats 1000000 in
theorem norm_long (A : Option Addr) (c : Nat) (l : List Int) (w : World) (h : Nums w w.heap.size A c l) (hl : Lim 18446744073709551616 l) (hlen : 4096 < (norm l).length) :
    Calls Tryd.prog 18 #[.slice A l.length c] w fun e w' => ∃ v, e = .returned (.tuple #[v, .int .i64 2]) ∧ Below w.heap.size w w' := by
  go_enter Tryd.func18, Tryd.ntmps18
  go_wp2_with (first
    | (go_at_call 51; ((with_reducible refine (taken_long A c l _ _ h hl hlen).mono ?_); rintro e w' ⟨rfl, rfl⟩))
    | (go_at_call 52; ((with_reducible refine (clone_nil _).mono ?_); rintro e w' ⟨A2, c2, rfl, hown, hb⟩)))
  go_ret2
  exact ⟨_, rfl, hb⟩

/-! ### which is greater -/
def sg (x y : Int) : Int := if x < y then -1 else if x > y then 1 else 0
theorem sg_lt {x y : Int} (h : x < y) : sg x y = -1 := by unfold sg; rw [if_pos h]
theorem sg_gt {x y : Int} (h : y < x) : sg x y = 1 := by unfold sg; rw [if_neg (by omega), if_pos h]
theorem sg_eq (x : Int) : sg x x = 0 := by unfold sg; simp

set_option maxHeartbeats 1000000 in
theorem cmpw_any (x y : Int) (w : World) :
    Calls Tryd.prog 74 #[.int .u64 x, .int .u64 y] w fun e w' => e = .returned (.int .i64 (sg x y)) ∧ w = w' := by
  rcases Int.lt_trichotomy x y with h | h | h
  · rw [sg_lt h]
    go_enter Tryd.func74, Tryd.ntmps74
    go_wp2
    go_ret
    exact ⟨rfl, rfl⟩
  · subst h
    rw [sg_eq]
    go_enter Tryd.func74, Tryd.ntmps74
    go_wp2
    go_ret
    exact ⟨rfl, rfl⟩
  · rw [sg_gt h]
    go_enter Tryd.func74, Tryd.ntmps74
    go_wp2
    go_ret
    exact ⟨rfl, rfl⟩

theorem quiet_add_same {P : Program} {f : FuncId} {args : Array Value} {w : World} {a n : Nat} {v : Value}
    (h : Calls P f args (w.drewN (a + n)) fun e w' => e = .returned v ∧ w' = w.drewN (a + n)) :
    Calls P f args (w.drewN (a + n)) fun e w'' => e = .returned v ∧ ∃ m, w'' = w.drewN (a + m) :=
  h.mono fun _ _ ⟨he, hm⟩ => ⟨he, n, hm⟩

def CmpPost (v : Int) (w : World) (e : Ending) (w' : World) : Prop := e = .returned (.int .i64 v) ∧ ∃ n, w' = w.drewN n
theorem cmpw_quiet (x y : Int) (w : World) : Calls Tryd.prog 74 #[.int .u64 x, .int .u64 y] w fun e w' => e = .returned (.int .i64 (sg x y)) ∧ w' = w :=
  (cmpw_any x y w).mono fun _ _ ⟨a, b⟩ => ⟨a, b.symm⟩

set_option maxHeartbeats 2000000 in
theorem compare_any (A : Option Addr) (c : Nat) (l : List Int) (A2 : Option Addr) (c2 : Nat) (m : List Int) (w : World) (h : Nums w w.heap.size A c l) (hl : Lim 18446744073709551616 l)
    (h2 : Nums w w.heap.size A2 c2 m) (hl2 : Lim 18446744073709551616 m) (nl : Normal l) (nm : Normal m) :
    Calls Tryd.prog 50 #[.slice A l.length c, .slice A2 m.length c2] w (CmpPost (sg (val 18446744073709551616 l) (val 18446744073709551616 m)) w) := by
  have hm := h.length
  have hm2 := h2.length
  by_cases hlen : l.length = m.length
  · have h0 : ((l.length : Int) != (m.length : Int)) = false := by simp; omega
    have HL := Lib.hid hlen
    have hlt : (l.length : Int) ≤ m.length := by omega
    have hlt2 : (m.length : Int) ≤ l.length := by omega
    clear hlen
    go_enter Tryd.func50, Tryd.ntmps50
    go_wp2_with fail
    go_loopw [19] (fun i wr => ∃ k n : Nat, k ≤ l.length ∧ (∀ j, l.length - k ≤ j → D l j = D m j) ∧ i = .int .i64 k ∧ wr = w.drewN n) (fun i _ => l.length - (intOf i).toNat)
    case atStart => exact ⟨0, 0, Nat.zero_le _, fun j hj => by rw [D_out (by omega), D_out (by have := HL.out; omega)], rfl, rfl⟩
    case round =>
      obtain ⟨k, n, hk, hz, rfl, rfl⟩ := hrel
      have HZ := Lib.hid hz
      clear hz
      by_cases hkl : k < l.length
      · obtain ⟨j, hj⟩ : ∃ j, l.length - 1 - k = j := ⟨_, rfl⟩
        have he : (l.length : Int) - 1 - k = j := by omega
        have hj1 : j < l.length := by omega
        have hj2 : j < m.length := by omega
        obtain ⟨ad, rfl, hb, hc⟩ := h.at_ hj1
        obtain ⟨ad2, rfl, hb2, hc2⟩ := h2.at_ hj2
        have i0 : (0 : Int) ≤ j := by omega
        have i1 : (j : Int) < l.length := by omega
        have i2 : (j : Int) < m.length := by omega
        have HJ := Lib.hid hj
        clear hj
        by_cases hd : D l j = D m j
        · have hd' : (D l j != D m j) = false := by simpa using hd
          have HD := Lib.hid hd
          clear hd
          go_wp2_with fail
          go_quiet (fail)
          go_wp2_with fail
          go_roundw
          case rel =>
            refine ⟨k + 1, _, by omega, fun i hi => ?_, by go_num, rfl⟩
            rcases Nat.lt_or_ge i (l.length - k) with h3 | h3
            · obtain rfl : i = j := by have := HJ.out; omega
              exact HD.out
            · exact HZ.out i h3
          case measure => simp [intOf]; omega
        · have hd' : (D l j != D m j) = true := by simpa using hd
          have hs : sg (D l j) (D m j) = sg (val 18446744073709551616 l) (val 18446744073709551616 m) := by
            have hj := HJ.out
            have hu : ∀ i, j < i → i < l.length → D l i = D m i := fun i h3 h4 => HZ.out i (by omega)
            rcases Int.lt_trichotomy (D l j) (D m j) with h3 | h3 | h3
            · have := S_lt_of_digit (b := 18446744073709551616) (by omega) hl hl2 hj1 hu h3
              rw [S_val (Nat.le_refl _), S_val (by omega)] at this
              rw [sg_lt h3, sg_lt this]
            · exact absurd h3 hd
            · have := S_lt_of_digit (b := 18446744073709551616) (by omega) hl2 hl hj1 (fun i h4 h5 => (hu i h4 h5).symm) h3
              rw [S_val (Nat.le_refl _), S_val (by omega)] at this
              rw [sg_gt h3, sg_gt this]
          have HS := Lib.hid hs
          clear hs hd
          go_wp2_with fail
          go_quiet (fail)
          go_wp2_with fail
          go_quiet ((go_at_call 74; first | exact quiet_add_same (cmpw_quiet _ _ _) | exact Calls.quiet_of_same (cmpw_quiet _ _ _)))
          go_wp2_with fail
          go_ret
          exact ⟨ret_int HS.out, _, by rw [World.drewN_drewN, World.drewN_drewN]⟩
      · obtain rfl : k = l.length := by omega
        have hs : (0 : Int) = sg (val 18446744073709551616 l) (val 18446744073709551616 m) := by
          have : l = m := D_ext HL.out fun i hi => HZ.out i (by omega)
          rw [this, sg_eq]
        have HS := Lib.hid hs
        clear hs
        go_wp2_with fail
        go_ret
        exact ⟨ret_int HS.out, _, rfl⟩
  · have hne : ((l.length : Int) == (m.length : Int)) = false := by simp; omega
    have hne' : ((l.length : Int) != (m.length : Int)) = true := by simp; omega
    have hs : Lib.compareInt l.length m.length = sg (val 18446744073709551616 l) (val 18446744073709551616 m) := by
      rcases Nat.lt_or_ge l.length m.length with k | k
      · rw [sg_lt (longer_greater (by omega) hl hl2 nm k)]
        unfold Lib.compareInt; rw [if_pos (by omega)]
      · have k' : m.length < l.length := by omega
        rw [sg_gt (longer_greater (by omega) hl2 hl nl k')]
        unfold Lib.compareInt; rw [if_neg (by omega), if_pos (by omega)]
    have HS := Lib.hid hs
    clear hs
    go_enter Tryd.func50, Tryd.ntmps50
    go_wp2_with (go_at_call 73; refine (Tryd.cmp_Compare_int _ _ _).mono ?_; rintro e w' ⟨rfl, rfl⟩)
    go_ret
    exact ⟨ret_int HS.out, 0, rfl⟩

set_option maxHeartbeats 1000000 in
theorem Cmp_any (A : Option Addr) (c : Nat) (l : List Int) (A2 : Option Addr) (c2 : Nat) (m : List Int) (w : World) (h : Nums w w.heap.size A c l) (hl : Lim 18446744073709551616 l)
    (h2 : Nums w w.heap.size A2 c2 m) (hl2 : Lim 18446744073709551616 m) (hlen : (norm l).length ≤ 4096) (hlen2 : (norm m).length ≤ 4096) :
    Calls Tryd.prog 17 #[.slice A l.length c, .slice A2 m.length c2] w
      fun e w' => e = .returned (.tuple #[.int .i64 (sg (val 18446744073709551616 l) (val 18446744073709551616 m)), .int .i64 0]) ∧ ∃ n, w' = w.drewN n := by
  have e1 := norm_val 18446744073709551616 l
  have e2 := norm_val 18446744073709551616 m
  rw [← e1, ← e2]
  clear e1 e2
  go_enter Tryd.func17, Tryd.ntmps17
  go_wp2_with (first
    | (go_at_call 49; ((with_reducible refine (both_any A c l A2 c2 m _ _ h hl hlen h2 hl2 hlen2).mono ?_); rintro e w' ⟨A', c', A2', c2', rfl, ht, ht2, rfl⟩))
    | (go_at_call 50; ((with_reducible refine (compare_any A' c' (norm l) A2' c2' (norm m) _ (ht.nums h) (norm_lim hl) (ht2.nums h2) (norm_lim hl2) (norm_normal l) (norm_normal m)).mono ?_); rintro e w' ⟨rfl, n, rfl⟩)))
  go_ret2
  exact ⟨rfl, n, rfl⟩
set_option maxHeartbeats 1000000 in
theorem Cmp_long (A : Option Addr) (c : Nat) (l : List Int) (w : World) (h : Nums w w.heap.size A c l) (hl : Lim 18446744073709551616 l) (hlen : 4096 < (norm l).length) :
    Calls Tryd.prog 17 #[.slice A l.length c, .slice none 0 0] w fun e w' => e = .returned (.tuple #[.int .i64 0, .int .i64 2]) ∧ w = w' := by
  go_enter Tryd.func17, Tryd.ntmps17
  go_wp2_with (first
    | (go_at_call 49; ((with_reducible refine (both_long_nil A c l _ _ h hl hlen).mono ?_); rintro e w' ⟨rfl, rfl⟩)))
  go_ret2
  exact ⟨rfl, rfl⟩
end Go.Proofs.YtigphbjgodfhpaaDoor
