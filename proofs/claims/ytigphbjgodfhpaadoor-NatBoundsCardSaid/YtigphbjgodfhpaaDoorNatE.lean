/-
  Layer 2, walks, part four: the program's sums, differences, products.
-/
import Derived.Test.YtigphbjgodfhpaaDoorNatD
namespace Go.Proofs.YtigphbjgodfhpaaDoor
open Go.RowKit
set_option linter.unusedVariables false

/-- a new number of this value, and no error -/
def Made2 (v : Int) (w : World) (e : Ending) (w' : World) : Prop :=
  ∃ s A c, e = .returned (.tuple #[.slice A s.length c, .int .i64 0]) ∧ Lim 18446744073709551616 s ∧ Normal s ∧ val 18446744073709551616 s = v ∧ Own w' w.heap.size A c s ∧ Below w.heap.size w w'
/-- no number, and an error -/
def Fails (n : Int) (w : World) (e : Ending) (w' : World) : Prop := e = .returned (.tuple #[.slice none 0 0, .int .i64 n]) ∧ Below w.heap.size w w'
theorem below_drewN {B : Nat} {a w : World} (h : Below B a w) (n : Nat) : Below B a (w.drewN n) := ⟨h.os, h.tape, h.output, h.size, h.block⟩

set_option maxHeartbeats 1000000 in
theorem Add_any (A : Option Addr) (c : Nat) (l : List Int) (A2 : Option Addr) (c2 : Nat) (m : List Int) (w : World) (h : Nums w w.heap.size A c l) (hl : Lim 18446744073709551616 l)
    (h2 : Nums w w.heap.size A2 c2 m) (hl2 : Lim 18446744073709551616 m) (hlen : (norm l).length ≤ 4096) (hlen2 : (norm m).length ≤ 4096)
    (hv : val 18446744073709551616 l + val 18446744073709551616 m < 18446744073709551616 ^ 4096) :
    Calls Tryd.prog 23 #[.slice A l.length c, .slice A2 m.length c2] w (Made2 (val 18446744073709551616 l + val 18446744073709551616 m) w) := by
  have e1 := norm_val 18446744073709551616 l
  have e2 := norm_val 18446744073709551616 m
  rw [← e1, ← e2] at hv
  rw [← e1, ← e2]
  clear e1 e2
  have HV := Lib.hid hv
  clear hv
  go_enter Tryd.func23, Tryd.ntmps23
  go_wp2_with (first
    | (go_at_call 49; ((with_reducible refine (both_any A c l A2 c2 m _ _ h hl hlen h2 hl2 hlen2).mono ?_); rintro e w' ⟨A', c', A2', c2', rfl, ht, ht2, rfl⟩))
    | (go_at_call 54; ((with_reducible refine (sum_any A' c' (norm l) A2' c2' (norm m) _ (ht.nums h) (norm_lim hl) (ht2.nums h2) (norm_lim hl2) (by omega) (by omega)).mono ?_); rintro e w' ⟨s, A3, c3, rfl, hs1, hs2, hs3, hs4, hs5⟩; have hsl := length_le_of_lt (b := 18446744073709551616) (k := 4096) (by omega) hs1 hs2 (by rw [hs3]; exact HV.out); have HS3 := Lib.hid hs3; clear hs3))
    | (go_at_call 53; ((with_reducible refine (answered_any A3 c3 s _ hsl).mono ?_); rintro e w' ⟨rfl, rfl⟩)))
  go_ret2
  exact ⟨s, A3, c3, rfl, hs1, hs2, HS3.out, hs4, hs5⟩

set_option maxHeartbeats 1000000 in
theorem Add_long (A : Option Addr) (c : Nat) (l : List Int) (A2 : Option Addr) (c2 : Nat) (m : List Int) (w : World) (h : Nums w w.heap.size A c l) (hl : Lim 18446744073709551616 l)
    (h2 : Nums w w.heap.size A2 c2 m) (hl2 : Lim 18446744073709551616 m) (hlen : (norm l).length ≤ 4096) (hlen2 : (norm m).length ≤ 4096)
    (hv : 18446744073709551616 ^ 4096 ≤ val 18446744073709551616 l + val 18446744073709551616 m) :
    Calls Tryd.prog 23 #[.slice A l.length c, .slice A2 m.length c2] w (Fails 3 w) := by
  have e1 := norm_val 18446744073709551616 l
  have e2 := norm_val 18446744073709551616 m
  rw [← e1, ← e2] at hv
  clear e1 e2
  have HV := Lib.hid hv
  clear hv
  go_enter Tryd.func23, Tryd.ntmps23
  go_wp2_with (first
    | (go_at_call 49; ((with_reducible refine (both_any A c l A2 c2 m _ _ h hl hlen h2 hl2 hlen2).mono ?_); rintro e w' ⟨A', c', A2', c2', rfl, ht, ht2, rfl⟩))
    | (go_at_call 54; ((with_reducible refine (sum_any A' c' (norm l) A2' c2' (norm m) _ (ht.nums h) (norm_lim hl) (ht2.nums h2) (norm_lim hl2) (by omega) (by omega)).mono ?_); rintro e w' ⟨s, A3, c3, rfl, hs1, hs2, hs3, hs4, hs5⟩; have hsl := lt_length_of_ge (b := 18446744073709551616) (k := 4096) (by omega) hs1 (by rw [hs3]; exact HV.out); have HS3 := Lib.hid hs3; clear hs3))
    | (go_at_call 53; ((with_reducible refine (answered_long A3 c3 s _ hsl).mono ?_); rintro e w' ⟨rfl, rfl⟩)))
  go_ret2
  exact ⟨rfl, hs5⟩

set_option maxHeartbeats 1000000 in
theorem Sub_any (A : Option Addr) (c : Nat) (l : List Int) (A2 : Option Addr) (c2 : Nat) (m : List Int) (w : World) (h : Nums w w.heap.size A c l) (hl : Lim 18446744073709551616 l)
    (h2 : Nums w w.heap.size A2 c2 m) (hl2 : Lim 18446744073709551616 m) (hlen : (norm l).length ≤ 4096) (hlen2 : (norm m).length ≤ 4096)
    (hv : val 18446744073709551616 m ≤ val 18446744073709551616 l) :
    Calls Tryd.prog 25 #[.slice A l.length c, .slice A2 m.length c2] w (Made2 (val 18446744073709551616 l - val 18446744073709551616 m) w) := by
  have e1 := norm_val 18446744073709551616 l
  have e2 := norm_val 18446744073709551616 m
  rw [← e1, ← e2] at hv
  rw [← e1, ← e2]
  clear e1 e2
  have hs : 0 ≤ sg (val 18446744073709551616 (norm l)) (val 18446744073709551616 (norm m)) := by unfold sg; split <;> (try split) <;> omega
  go_enter Tryd.func25, Tryd.ntmps25
  go_wp2_with (first
    | (go_at_call 49; ((with_reducible refine (both_any A c l A2 c2 m _ _ h hl hlen h2 hl2 hlen2).mono ?_); rintro e w' ⟨A', c', A2', c2', rfl, ht, ht2, rfl⟩))
    | (go_at_call 50; ((with_reducible refine (compare_any A' c' (norm l) A2' c2' (norm m) _ (ht.nums h) (norm_lim hl) (ht2.nums h2) (norm_lim hl2) (norm_normal l) (norm_normal m)).mono ?_); rintro e w' ⟨rfl, n, rfl⟩))
    | (go_at_call 58; ((with_reducible refine (difference_any A' c' (norm l) A2' c2' (norm m) _ ((ht.nums h).drewN n) (norm_lim hl) ((ht2.nums h2).drewN n) (norm_lim hl2) (by omega) hv (norm_normal m)).mono ?_); rintro e w' ⟨s, A3, c3, rfl, hs1, hs2, hs3, hs4, hs5⟩; have HS3 := Lib.hid hs3; clear hs3)))
  go_ret2
  exact ⟨s, A3, c3, rfl, hs1, hs2, HS3.out, hs4, (below_drewN (Below.refl _ w) n).trans hs5⟩

set_option maxHeartbeats 1000000 in
theorem Sub_less (A : Option Addr) (c : Nat) (l : List Int) (A2 : Option Addr) (c2 : Nat) (m : List Int) (w : World) (h : Nums w w.heap.size A c l) (hl : Lim 18446744073709551616 l)
    (h2 : Nums w w.heap.size A2 c2 m) (hl2 : Lim 18446744073709551616 m) (hlen : (norm l).length ≤ 4096) (hlen2 : (norm m).length ≤ 4096)
    (hv : val 18446744073709551616 l < val 18446744073709551616 m) :
    Calls Tryd.prog 25 #[.slice A l.length c, .slice A2 m.length c2] w (Fails 2 w) := by
  have e1 := norm_val 18446744073709551616 l
  have e2 := norm_val 18446744073709551616 m
  rw [← e1, ← e2] at hv
  clear e1 e2
  have hs : sg (val 18446744073709551616 (norm l)) (val 18446744073709551616 (norm m)) < 0 := by rw [sg_lt hv]; omega
  go_enter Tryd.func25, Tryd.ntmps25
  go_wp2_with (first
    | (go_at_call 49; ((with_reducible refine (both_any A c l A2 c2 m _ _ h hl hlen h2 hl2 hlen2).mono ?_); rintro e w' ⟨A', c', A2', c2', rfl, ht, ht2, rfl⟩))
    | (go_at_call 50; ((with_reducible refine (compare_any A' c' (norm l) A2' c2' (norm m) _ (ht.nums h) (norm_lim hl) (ht2.nums h2) (norm_lim hl2) (norm_normal l) (norm_normal m)).mono ?_); rintro e w' ⟨rfl, n, rfl⟩)))
  go_ret2
  exact ⟨rfl, below_drewN (Below.refl _ w) n⟩
end Go.Proofs.YtigphbjgodfhpaaDoor
