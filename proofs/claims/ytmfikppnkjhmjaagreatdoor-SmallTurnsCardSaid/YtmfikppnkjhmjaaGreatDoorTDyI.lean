/-
  Layer 3, walks, part six: signs, heights, places, steps. (Written by wip/tools/gen_dyi.py.)
-/
import Derived.Test.YtmfikppnkjhmjaaGreatDoorTDyH
import Derived.Lib.QuietBelow
namespace Go.Proofs.YtmfikppnkjhmjaaGreatDoor
open Go.RowKit
set_option linter.unusedVariables false
set_option linter.unusedSimpArgs false

abbrev stV (A : Option Addr) (n c : Nat) (h : Bool) : Value := .agg #[.slice A n c, .bool h]
abbrev plV (at_ : Int) : Value := .agg #[.int .i64 at_]
theorem noU2 (A : Option Addr) (n c : Nat) (h : Bool) : NoU [.slice A n c, .bool h] := by
  intro i y
  rcases i with _ | _ | i <;> simp
/-- steps are handed back -/
def StepV (v : Int) (w : World) (e : Ending) (w' : World) : Prop :=
  ∃ l A c, e = .returned (.tuple #[stV A l.length c false, .int .i64 0]) ∧ Normal l ∧ Hid (val 18446744073709551616 l = v) ∧ l.length ≤ 4096 ∧ Lv w' A l.length c l ∧ Below w.heap.size w w'
theorem sgn_dn {b : Bool} {l : List Int} {x : Int} {d : Nf} (hd : Dn b l x d) (hl : Lim 18446744073709551616 l) : sgnV b l.length = sgn d := by
  unfold sgnV sgn
  by_cases h0 : d.man = 0
  · rw [if_pos h0, if_pos ((hd.nil hl).2 h0)]
  · rw [if_neg h0, if_neg (fun e => h0 ((hd.nil hl).1 e)), hd.neg]

section
variable {b : Bool} {A : Option Addr} {n c : Nat} {x : Int} {l : List Int} {w : World}
set_option maxRecDepth 100000 in
set_option maxHeartbeats 4000000 in
theorem dturned_any (b : Bool) (A : Option Addr) (n c : Nat) (x : Int) (w : World) :
    Calls Tryz.prog 36 #[dyV b A n c x] w fun e w' => e = .returned (dyV (!b) A n c x) ∧ Below w.heap.size w w' := by
  have PB := Blk.new w [.bool b, .slice A n c, .int .i64 x] 31
  have DB := Blk.new (w.alloc (.cells #[.bool b, .slice A n c, .int .i64 x] 31)) [.bool false, .slice none 0 0, .int .i64 0] 31
  simp only [World.size_alloc] at DB
  replace PB := Blk.alloc PB (.cells #[.bool false, .slice none 0 0, .int .i64 0] 31)
  have bw : Below w.heap.size w ((w.alloc (.cells #[.bool b, .slice A n c, .int .i64 x] 31)).alloc (.cells #[.bool false, .slice none 0 0, .int .i64 0] 31)) := by go_grown
  have PB_0 := Blk.cell PB 0 rfl
  have PB_1 := Blk.cell PB 1 rfl
  have PB_2 := Blk.cell PB 2 rfl
  have PB_f0 := Blk.free PB 0
  have PB_f1 := Blk.free PB 1
  have PB_f2 := Blk.free PB 2
  have DB_0 := Blk.cell DB 0 rfl
  have DB_1 := Blk.cell DB 1 rfl
  have DB_2 := Blk.cell DB 2 rfl
  have DB_f0 := Blk.free DB 0
  have DB_f1 := Blk.free DB 1
  have DB_f2 := Blk.free DB 2
  go_enter Tryz.func36, Tryz.ntmps36
  go_wp2_with fail
  refine bodyPost_ret (v := dyV (!b) A n c x) (by simp [results, Tryz.results36, go_sem]) rfl ?_
  exact ⟨rfl, by go_grown⟩


theorem Bits_is (h : Lv w A n c l) (hn : n ≤ 4096) {k : Nat} (hk : IsBits (val 18446744073709551616 l) k) : Calls Tryz.prog 85 #[.slice A n c] w fun e w' => e = .returned (.tuple #[.int .i64 k, .int .i64 0]) ∧ w = w' := by
  refine (Bits_lv h hn).mono ?_
  rintro e w' ⟨k', rfl, hk', _, rfl⟩
  rw [hk'.out.unique hk]
  exact ⟨rfl, rfl⟩
set_option maxRecDepth 100000 in
set_option maxHeartbeats 4000000 in
theorem height_any (h : Lv w A n c l) (hn : n ≤ 4096) {k : Nat} (hk : IsBits (val 18446744073709551616 l) k) (x0 : -1048576 ≤ x) (x1 : x ≤ 1048576) :
    Calls Tryz.prog 70 #[dyV b A n c x] w fun e w' => e = .returned (.int .i64 (x + k)) ∧ Below w.heap.size w w' := by
  have PB := Blk.new w [.bool b, .slice A n c, .int .i64 x] 31
  have bw : Below w.heap.size w (w.alloc (.cells #[.bool b, .slice A n c, .int .i64 x] 31)) := by go_grown
  have PB_0 := Blk.cell PB 0 rfl
  have PB_1 := Blk.cell PB 1 rfl
  have PB_2 := Blk.cell PB 2 rfl
  have PB_f0 := Blk.free PB 0
  have PB_f1 := Blk.free PB 1
  have PB_f2 := Blk.free PB 2
  have hk9 : k ≤ 262144 := by have := bits_le (N := 4096) (n := k) (v := val 18446744073709551616 l) (by have := (val_bound (b := 18446744073709551616) (by omega) h.2.2).2; exact Int.lt_of_lt_of_le this (pow_le' (by omega) (by rw [h.1]; exact hn))) hk; omega
  have HK := Lib.hid hk
  clear hk
  go_enter Tryz.func70, Tryz.ntmps70
  go_wp2_with fail
  with_reducible refine (Bits_is (h.on (by go_grown)) hn HK.out).mono ?_
  rintro e w1 ⟨rfl, rfl⟩
  go_wp2_with fail
  go_ret
  exact ⟨rfl, by go_grown⟩

set_option maxRecDepth 100000 in
set_option maxHeartbeats 4000000 in
theorem tooFar_true (b b2 : Bool) (A A2 : Option Addr) (n n2 c c2 : Nat) {x x2 : Int} (w : World) (x0 : -1048576 ≤ x) (x1 : x ≤ 1048576) (y0 : -1048576 ≤ x2) (y1 : x2 ≤ 1048576) (hf : 262144 < x - x2 ∨ 262144 < x2 - x) :
    Calls Tryz.prog 63 #[dyV b A n c x, dyV b2 A2 n2 c2 x2] w fun e w' => e = .returned (.bool true) ∧ Below w.heap.size w w' := by
  have PB := Blk.new w [.bool b, .slice A n c, .int .i64 x] 31
  have QB := Blk.new (w.alloc (.cells #[.bool b, .slice A n c, .int .i64 x] 31)) [.bool b2, .slice A2 n2 c2, .int .i64 x2] 31
  simp only [World.size_alloc] at QB
  replace PB := Blk.alloc PB (.cells #[.bool b2, .slice A2 n2 c2, .int .i64 x2] 31)
  have bw : Below w.heap.size w ((w.alloc (.cells #[.bool b, .slice A n c, .int .i64 x] 31)).alloc (.cells #[.bool b2, .slice A2 n2 c2, .int .i64 x2] 31)) := by go_grown
  have PB_0 := Blk.cell PB 0 rfl
  have PB_1 := Blk.cell PB 1 rfl
  have PB_2 := Blk.cell PB 2 rfl
  have PB_f0 := Blk.free PB 0
  have PB_f1 := Blk.free PB 1
  have PB_f2 := Blk.free PB 2
  have QB_0 := Blk.cell QB 0 rfl
  have QB_1 := Blk.cell QB 1 rfl
  have QB_2 := Blk.cell QB 2 rfl
  have QB_f0 := Blk.free QB 0
  have QB_f1 := Blk.free QB 1
  have QB_f2 := Blk.free QB 2
  have hd : decide (max x x2 - min x x2 > 262144) = true := by simp; omega
  go_enter Tryz.func63, Tryz.ntmps63
  go_wp2_with fail
  go_ret
  exact ⟨rfl, by go_grown⟩

set_option maxRecDepth 100000 in
set_option maxHeartbeats 4000000 in
theorem tooFar_false (b b2 : Bool) (A A2 : Option Addr) (n n2 c c2 : Nat) {x x2 : Int} (w : World) (x0 : -1048576 ≤ x) (x1 : x ≤ 1048576) (y0 : -1048576 ≤ x2) (y1 : x2 ≤ 1048576) (hf : x - x2 ≤ 262144 ∧ x2 - x ≤ 262144) :
    Calls Tryz.prog 63 #[dyV b A n c x, dyV b2 A2 n2 c2 x2] w fun e w' => e = .returned (.bool false) ∧ Below w.heap.size w w' := by
  have PB := Blk.new w [.bool b, .slice A n c, .int .i64 x] 31
  have QB := Blk.new (w.alloc (.cells #[.bool b, .slice A n c, .int .i64 x] 31)) [.bool b2, .slice A2 n2 c2, .int .i64 x2] 31
  simp only [World.size_alloc] at QB
  replace PB := Blk.alloc PB (.cells #[.bool b2, .slice A2 n2 c2, .int .i64 x2] 31)
  have bw : Below w.heap.size w ((w.alloc (.cells #[.bool b, .slice A n c, .int .i64 x] 31)).alloc (.cells #[.bool b2, .slice A2 n2 c2, .int .i64 x2] 31)) := by go_grown
  have PB_0 := Blk.cell PB 0 rfl
  have PB_1 := Blk.cell PB 1 rfl
  have PB_2 := Blk.cell PB 2 rfl
  have PB_f0 := Blk.free PB 0
  have PB_f1 := Blk.free PB 1
  have PB_f2 := Blk.free PB 2
  have QB_0 := Blk.cell QB 0 rfl
  have QB_1 := Blk.cell QB 1 rfl
  have QB_2 := Blk.cell QB 2 rfl
  have QB_f0 := Blk.free QB 0
  have QB_f1 := Blk.free QB 1
  have QB_f2 := Blk.free QB 2
  have hd : decide (max x x2 - min x x2 > 262144) = false := by simp; omega
  go_enter Tryz.func63, Tryz.ntmps63
  go_wp2_with fail
  go_ret
  exact ⟨rfl, by go_grown⟩

set_option maxRecDepth 100000 in
set_option maxHeartbeats 4000000 in
theorem carried_no (A : Option Addr) (n c : Nat) (hf : Bool) (w : World) :
    Calls Tryz.prog 92 #[stV A n c hf, .bool false] w fun e w' => e = .returned (.slice A n c) ∧ Below w.heap.size w w' := by
  have PB := Blk.new w [.slice A n c, .bool hf] 100
  have bw : Below w.heap.size w (w.alloc (.cells #[.slice A n c, .bool hf] 100)) := by go_grown
  have PB_0 := Blk.cell PB 0 rfl
  have PB_1 := Blk.cell PB 1 rfl
  have PB_f0 := Blk.free PB 0
  have PB_f1 := Blk.free PB 1
  go_enter Tryz.func92, Tryz.ntmps92
  go_wp2_with fail
  go_ret
  exact ⟨rfl, by go_grown⟩

set_option maxRecDepth 100000 in
set_option maxHeartbeats 4000000 in
theorem number_any (h : Lv w A n c l) (hn : n ≤ 4096) (hT : Tab w) (x0 : -1048576 ≤ x) (x1 : x ≤ 1048576) :
    Calls Tryz.prog 83 #[plV x, .bool b, stV A n c false] w (DyK (nfl b (val 18446744073709551616 l) x) 0 w) := by
  have PB := Blk.new w [.int .i64 x] 80
  have SB := Blk.new (w.alloc (.cells #[.int .i64 x] 80)) [.slice A n c, .bool false] 100
  simp only [World.size_alloc] at SB
  replace PB := Blk.alloc PB (.cells #[.slice A n c, .bool false] 100)
  have DB := Blk.new ((w.alloc (.cells #[.int .i64 x] 80)).alloc (.cells #[.slice A n c, .bool false] 100)) [.bool false, .slice none 0 0, .int .i64 0] 31
  simp only [World.size_alloc] at DB
  replace PB := Blk.alloc PB (.cells #[.bool false, .slice none 0 0, .int .i64 0] 31)
  replace SB := Blk.alloc SB (.cells #[.bool false, .slice none 0 0, .int .i64 0] 31)
  have bw : Below w.heap.size w (((w.alloc (.cells #[.int .i64 x] 80)).alloc (.cells #[.slice A n c, .bool false] 100)).alloc (.cells #[.bool false, .slice none 0 0, .int .i64 0] 31)) := by go_grown
  have PB_0 := Blk.cell PB 0 rfl
  have PB_f0 := Blk.free PB 0
  have SB_0 := Blk.cell SB 0 rfl
  have SB_1 := Blk.cell SB 1 rfl
  have SB_f0 := Blk.free SB 0
  have SB_f1 := Blk.free SB 1
  have DB_0 := Blk.cell DB 0 rfl
  have DB_1 := Blk.cell DB 1 rfl
  have DB_2 := Blk.cell DB 2 rfl
  have DB_f0 := Blk.free DB 0
  have DB_f1 := Blk.free DB 1
  have DB_f2 := Blk.free DB 2
  go_enter Tryz.func83, Tryz.ntmps83
  go_wp2_with fail
  with_reducible refine (normal_any (b := b) (x := x) (h.on (by go_grown)) hn (hT.onD (by go_grown)) (by omega) (by omega)).mono ?_
  rintro e w1 ⟨b1, q1, A1, c1, x1, rfl, hd1, m1, hb⟩
  clear PB_0 PB_f0
  clear SB_0 SB_1 SB_f0 SB_f1
  clear DB_0 DB_1 DB_2 DB_f0 DB_f1 DB_f2
  have hs1 := hb.size
  try simp only [World.size_alloc, World.size_setCell] at hs1
  replace bw : Below w.heap.size w w1 := dy_end (by go_grown) hb
  replace PB := Blk.on PB hb
  replace SB := Blk.on SB hb
  replace DB := Blk.on DB hb
  clear hb
  have PB_0 := Blk.cell PB 0 rfl
  have PB_f0 := Blk.free PB 0
  have SB_0 := Blk.cell SB 0 rfl
  have SB_1 := Blk.cell SB 1 rfl
  have SB_f0 := Blk.free SB 0
  have SB_f1 := Blk.free SB 1
  have DB_0 := Blk.cell DB 0 rfl
  have DB_1 := Blk.cell DB 1 rfl
  have DB_2 := Blk.cell DB 2 rfl
  have DB_f0 := Blk.free DB 0
  have DB_f1 := Blk.free DB 1
  have DB_f2 := Blk.free DB 2
  go_wp2_with fail
  refine bodyPost_ret (v := .tuple #[dyV b1 A1 q1.length c1 x1, .int .i64 0]) (by simp [results, Tryz.results83, go_sem, DB_0, DB_1, DB_2]) rfl ?_
  exact ⟨b1, q1, A1, c1, x1, rfl, hd1, m1.put DB _ _ _ _ _, by go_grown⟩

end
end Go.Proofs.YtmfikppnkjhmjaaGreatDoor
