/-
  Layer 3: sums, differences, products.
-/
import Derived.Test.YtcdbjlmegkcaiaaGreatDoorYDyG
import Derived.Lib.QuietBelow
namespace Go.Proofs.YtcdbjlmegkcaiaaGreatDoor
open Go.RowKit
set_option linter.unusedVariables false
set_option linter.unusedSimpArgs false

abbrev stV (A : Option Addr) (n c : Nat) (h : Bool) : Value := .agg #[.slice A n c, .bool h]
abbrev plV (at_ : Int) : Value := .agg #[.int .i64 at_]
theorem noU2 (A : Option Addr) (n c : Nat) (h : Bool) : NoU [.slice A n c, .bool h] := by
  intro i y
  rcases i with _ | _ | i <;> simp
/-- steps are handed back -/
def StepV (v : Int) (w : World) (e : Ending) (w' : World) : Prop :=
  ∃ l A c, e = .returned (.tuple #[stV A l.length c false, .int .i64 0]) ∧ Normal l ∧ Hid (val 18446744073709551616 l = v) ∧ l.length ≤ 4096 ∧ Lv w' A l.length c l ∧ Below w.heap.size w w'
theorem sgn_dn {b : Bool} {l : List Int} {x : Int} {d : Nf} (hd : Dn b l x d) (hl : Lim 18446744073709551616 l) : sgnV b l.length = sgn d := by
  unfold sgnV sgn
  by_cases h0 : d.man = 0
  · rw [if_pos h0, if_pos ((hd.nil hl).2 h0)]
  · rw [if_neg h0, if_neg (fun e => h0 ((hd.nil hl).1 e)), hd.neg]

section
variable {b : Bool} {A : Option Addr} {n c : Nat} {x : Int} {l : List Int} {w : World}
set_option maxRecDepth 100000 in
set_option maxHeartbeats 4000000 in
theorem dturned_any (b : Bool) (A : Option Addr) (n c : Nat) (x : Int) (w : World) :
    Calls Tryz.prog 28 #[dyV b A n c x] w fun e w' => e = .returned (dyV (!b) A n c x) ∧ Below w.heap.size w w' := by
  have PB := Blk.new w [.bool b, .slice A n c, .int .i64 x] 40
  have DB := Blk.new (w.alloc (.cells #[.bool b, .slice A n c, .int .i64 x] 40)) [.bool false, .slice none 0 0, .int .i64 0] 40
  simp only [World.size_alloc] at DB
  replace PB := Blk.alloc PB (.cells #[.bool false, .slice none 0 0, .int .i64 0] 40)
  have bw : Below w.heap.size w ((w.alloc (.cells #[.bool b, .slice A n c, .int .i64 x] 40)).alloc (.cells #[.bool false, .slice none 0 0, .int .i64 0] 40)) := by go_grown
  have PB_0 := Blk.cell PB 0 rfl
  have PB_1 := Blk.cell PB 1 rfl
  have PB_2 := Blk.cell PB 2 rfl
  have PB_f0 := Blk.free PB 0
  have PB_f1 := Blk.free PB 1
  have PB_f2 := Blk.free PB 2
  have DB_0 := Blk.cell DB 0 rfl
  have DB_1 := Blk.cell DB 1 rfl
  have DB_2 := Blk.cell DB 2 rfl
  have DB_f0 := Blk.free DB 0
  have DB_f1 := Blk.free DB 1
  have DB_f2 := Blk.free DB 2
  go_enter Tryz.func28, Tryz.ntmps28
  go_wp2_with fail
  refine bodyPost_ret (v := dyV (!b) A n c x) (by simp [results, Tryz.results28, go_sem]) rfl ?_
  exact ⟨rfl, by go_grown⟩


theorem Bits_is (h : Lv w A n c l) (hn : n ≤ 4096) {k : Nat} (hk : IsBits (val 18446744073709551616 l) k) : Calls Tryz.prog 83 #[.slice A n c] w fun e w' => e = .returned (.tuple #[.int .i64 k, .int .i64 0]) ∧ w = w' := by
  refine (Bits_lv h hn).mono ?_
  rintro e w' ⟨k', rfl, hk', _, rfl⟩
  rw [hk'.out.unique hk]
  exact ⟨rfl, rfl⟩
set_option maxRecDepth 100000 in
set_option maxHeartbeats 4000000 in
theorem height_any (h : Lv w A n c l) (hn : n ≤ 4096) {k : Nat} (hk : IsBits (val 18446744073709551616 l) k) (x0 : -1048576 ≤ x) (x1 : x ≤ 1048576) :
    Calls Tryz.prog 64 #[dyV b A n c x] w fun e w' => e = .returned (.int .i64 (x + k)) ∧ Below w.heap.size w w' := by
  have PB := Blk.new w [.bool b, .slice A n c, .int .i64 x] 40
  have bw : Below w.heap.size w (w.alloc (.cells #[.bool b, .slice A n c, .int .i64 x] 40)) := by go_grown
  have PB_0 := Blk.cell PB 0 rfl
  have PB_1 := Blk.cell PB 1 rfl
  have PB_2 := Blk.cell PB 2 rfl
  have PB_f0 := Blk.free PB 0
  have PB_f1 := Blk.free PB 1
  have PB_f2 := Blk.free PB 2
  have hk9 : k ≤ 262144 := by have := bits_le (N := 4096) (n := k) (v := val 18446744073709551616 l) (by have := (val_bound (b := 18446744073709551616) (by omega) h.2.2).2; exact Int.lt_of_lt_of_le this (pow_le' (by omega) (by rw [h.1]; exact hn))) hk; omega
  have HK := Lib.hid hk
  clear hk
  go_enter Tryz.func64, Tryz.ntmps64
  go_wp2_with fail
  with_reducible refine (Bits_is (h.on (by go_grown)) hn HK.out).mono ?_
  rintro e w1 ⟨rfl, rfl⟩
  go_wp2_with fail
  go_ret
  exact ⟨rfl, by go_grown⟩

set_option maxRecDepth 100000 in
set_option maxHeartbeats 4000000 in
theorem tooFar_true (b b2 : Bool) (A A2 : Option Addr) (n n2 c c2 : Nat) {x x2 : Int} (w : World) (x0 : -1048576 ≤ x) (x1 : x ≤ 1048576) (y0 : -1048576 ≤ x2) (y1 : x2 ≤ 1048576) (hf : 262144 < x - x2 ∨ 262144 < x2 - x) :
    Calls Tryz.prog 53 #[dyV b A n c x, dyV b2 A2 n2 c2 x2] w fun e w' => e = .returned (.bool true) ∧ Below w.heap.size w w' := by
  have PB := Blk.new w [.bool b, .slice A n c, .int .i64 x] 40
  have QB := Blk.new (w.alloc (.cells #[.bool b, .slice A n c, .int .i64 x] 40)) [.bool b2, .slice A2 n2 c2, .int .i64 x2] 40
  simp only [World.size_alloc] at QB
  replace PB := Blk.alloc PB (.cells #[.bool b2, .slice A2 n2 c2, .int .i64 x2] 40)
  have bw : Below w.heap.size w ((w.alloc (.cells #[.bool b, .slice A n c, .int .i64 x] 40)).alloc (.cells #[.bool b2, .slice A2 n2 c2, .int .i64 x2] 40)) := by go_grown
  have PB_0 := Blk.cell PB 0 rfl
  have PB_1 := Blk.cell PB 1 rfl
  have PB_2 := Blk.cell PB 2 rfl
  have PB_f0 := Blk.free PB 0
  have PB_f1 := Blk.free PB 1
  have PB_f2 := Blk.free PB 2
  have QB_0 := Blk.cell QB 0 rfl
  have QB_1 := Blk.cell QB 1 rfl
  have QB_2 := Blk.cell QB 2 rfl
  have QB_f0 := Blk.free QB 0
  have QB_f1 := Blk.free QB 1
  have QB_f2 := Blk.free QB 2
  have hd : decide (max x x2 - min x x2 > 262144) = true := by simp; omega
  go_enter Tryz.func53, Tryz.ntmps53
  go_wp2_with fail
  go_ret
  exact ⟨rfl, by go_grown⟩

set_option maxRecDepth 100000 in
set_option maxHeartbeats 4000000 in
theorem tooFar_false (b b2 : Bool) (A A2 : Option Addr) (n n2 c c2 : Nat) {x x2 : Int} (w : World) (x0 : -1048576 ≤ x) (x1 : x ≤ 1048576) (y0 : -1048576 ≤ x2) (y1 : x2 ≤ 1048576) (hf : x - x2 ≤ 262144 ∧ x2 - x ≤ 262144) :
    Calls Tryz.prog 53 #[dyV b A n c x, dyV b2 A2 n2 c2 x2] w fun e w' => e = .returned (.bool false) ∧ Below w.heap.size w w' := by
  have PB := Blk.new w [.bool b, .slice A n c, .int .i64 x] 40
  have QB := Blk.new (w.alloc (.cells #[.bool b, .slice A n c, .int .i64 x] 40)) [.bool b2, .slice A2 n2 c2, .int .i64 x2] 40
  simp only [World.size_alloc] at QB
  replace PB := Blk.alloc PB (.cells #[.bool b2, .slice A2 n2 c2, .int .i64 x2] 40)
  have bw : Below w.heap.size w ((w.alloc (.cells #[.bool b, .slice A n c, .int .i64 x] 40)).alloc (.cells #[.bool b2, .slice A2 n2 c2, .int .i64 x2] 40)) := by go_grown
  have PB_0 := Blk.cell PB 0 rfl
  have PB_1 := Blk.cell PB 1 rfl
  have PB_2 := Blk.cell PB 2 rfl
  have PB_f0 := Blk.free PB 0
  have PB_f1 := Blk.free PB 1
  have PB_f2 := Blk.free PB 2
  have QB_0 := Blk.cell QB 0 rfl
  have QB_1 := Blk.cell QB 1 rfl
  have QB_2 := Blk.cell QB 2 rfl
  have QB_f0 := Blk.free QB 0
  have QB_f1 := Blk.free QB 1
  have QB_f2 := Blk.free QB 2
  have hd : decide (max x x2 - min x x2 > 262144) = false := by simp; omega
  go_enter Tryz.func53, Tryz.ntmps53
  go_wp2_with fail
  go_ret
  exact ⟨rfl, by go_grown⟩

set_option maxRecDepth 100000 in
set_option maxHeartbeats 4000000 in
theorem carried_no (A : Option Addr) (n c : Nat) (hf : Bool) (w : World) :
    Calls Tryz.prog 86 #[stV A n c hf, .bool false] w fun e w' => e = .returned (.slice A n c) ∧ Below w.heap.size w w' := by
  have PB := Blk.new w [.slice A n c, .bool hf] 106
  have bw : Below w.heap.size w (w.alloc (.cells #[.slice A n c, .bool hf] 106)) := by go_grown
  have PB_0 := Blk.cell PB 0 rfl
  have PB_1 := Blk.cell PB 1 rfl
  have PB_f0 := Blk.free PB 0
  have PB_f1 := Blk.free PB 1
  go_enter Tryz.func86, Tryz.ntmps86
  go_wp2_with fail
  go_ret
  exact ⟨rfl, by go_grown⟩

set_option maxRecDepth 100000 in
set_option maxHeartbeats 4000000 in
theorem number_any (h : Lv w A n c l) (hn : n ≤ 4096) (hT : Tab w) (x0 : -1048576 ≤ x) (x1 : x ≤ 1048576) :
    Calls Tryz.prog 74 #[plV x, .bool b, stV A n c false] w (DyK (nfl b (val 18446744073709551616 l) x) 0 w) := by
  have PB := Blk.new w [.int .i64 x] 85
  have SB := Blk.new (w.alloc (.cells #[.int .i64 x] 85)) [.slice A n c, .bool false] 106
  simp only [World.size_alloc] at SB
  replace PB := Blk.alloc PB (.cells #[.slice A n c, .bool false] 106)
  have DB := Blk.new ((w.alloc (.cells #[.int .i64 x] 85)).alloc (.cells #[.slice A n c, .bool false] 106)) [.bool false, .slice none 0 0, .int .i64 0] 40
  simp only [World.size_alloc] at DB
  replace PB := Blk.alloc PB (.cells #[.bool false, .slice none 0 0, .int .i64 0] 40)
  replace SB := Blk.alloc SB (.cells #[.bool false, .slice none 0 0, .int .i64 0] 40)
  have bw : Below w.heap.size w (((w.alloc (.cells #[.int .i64 x] 85)).alloc (.cells #[.slice A n c, .bool false] 106)).alloc (.cells #[.bool false, .slice none 0 0, .int .i64 0] 40)) := by go_grown
  have PB_0 := Blk.cell PB 0 rfl
  have PB_f0 := Blk.free PB 0
  have SB_0 := Blk.cell SB 0 rfl
  have SB_1 := Blk.cell SB 1 rfl
  have SB_f0 := Blk.free SB 0
  have SB_f1 := Blk.free SB 1
  have DB_0 := Blk.cell DB 0 rfl
  have DB_1 := Blk.cell DB 1 rfl
  have DB_2 := Blk.cell DB 2 rfl
  have DB_f0 := Blk.free DB 0
  have DB_f1 := Blk.free DB 1
  have DB_f2 := Blk.free DB 2
  go_enter Tryz.func74, Tryz.ntmps74
  go_wp2_with fail
  with_reducible refine (normal_any (b := b) (x := x) (h.on (by go_grown)) hn (hT.onD (by go_grown)) (by omega) (by omega)).mono ?_
  rintro e w1 ⟨b1, q1, A1, c1, x1, rfl, hd1, m1, hb⟩
  clear PB_0 PB_f0
  clear SB_0 SB_1 SB_f0 SB_f1
  clear DB_0 DB_1 DB_2 DB_f0 DB_f1 DB_f2
  have hs1 := hb.size
  try simp only [World.size_alloc, World.size_setCell] at hs1
  replace bw : Below w.heap.size w w1 := dy_end (by go_grown) hb
  replace PB := Blk.on PB hb
  replace SB := Blk.on SB hb
  replace DB := Blk.on DB hb
  clear hb
  have PB_0 := Blk.cell PB 0 rfl
  have PB_f0 := Blk.free PB 0
  have SB_0 := Blk.cell SB 0 rfl
  have SB_1 := Blk.cell SB 1 rfl
  have SB_f0 := Blk.free SB 0
  have SB_f1 := Blk.free SB 1
  have DB_0 := Blk.cell DB 0 rfl
  have DB_1 := Blk.cell DB 1 rfl
  have DB_2 := Blk.cell DB 2 rfl
  have DB_f0 := Blk.free DB 0
  have DB_f1 := Blk.free DB 1
  have DB_f2 := Blk.free DB 2
  go_wp2_with fail
  refine bodyPost_ret (v := .tuple #[dyV b1 A1 q1.length c1 x1, .int .i64 0]) (by simp [results, Tryz.results74, go_sem, DB_0, DB_1, DB_2]) rfl ?_
  exact ⟨b1, q1, A1, c1, x1, rfl, hd1, m1.put DB _ _ _ _ _, by go_grown⟩

end
end Go.Proofs.YtcdbjlmegkcaiaaGreatDoor
namespace Go.Proofs.YtcdbjlmegkcaiaaGreatDoor
open Go.RowKit
set_option linter.unusedVariables false
set_option linter.unusedSimpArgs false

section
variable {b : Bool} {A : Option Addr} {n c : Nat} {x : Int} {l : List Int} {w : World}
theorem Shl_gen (h : Lv w A n c l) (hn : n ≤ 4096) (j : Nat) (i : Int) (hi : i = (j : Int)) (hv0 : val 18446744073709551616 l ≠ 0) (hv : val 18446744073709551616 l * 2 ^ j < 2 ^ 262144) :
    Calls Tryz.prog 84 #[.slice A n c, .int .i64 i] w (GoodV (val 18446744073709551616 l * 2 ^ j) w) := by
  subst hi
  have := Shl_any A c l w h.2.1 h.2.2 (norm_le h.1 hn) j hv0 hv
  rw [h.1] at this
  exact this.mono fun e w' q => q.goodV (by rw [pow64]; exact hv)
set_option maxRecDepth 100000 in
set_option maxHeartbeats 4000000 in
theorem bring_eq (h : Lv w A n c l) (hn : n ≤ 4096) (nl : Normal l) :
    Calls Tryz.prog 72 #[plV x, dyV b A n c x] w (StepV (val 18446744073709551616 l) w) := by
  have PB := Blk.new w [.int .i64 x] 85
  have QB := Blk.new (w.alloc (.cells #[.int .i64 x] 85)) [.bool b, .slice A n c, .int .i64 x] 40
  simp only [World.size_alloc] at QB
  replace PB := Blk.alloc PB (.cells #[.bool b, .slice A n c, .int .i64 x] 40)
  have SB := Blk.new ((w.alloc (.cells #[.int .i64 x] 85)).alloc (.cells #[.bool b, .slice A n c, .int .i64 x] 40)) [.slice none 0 0, .bool false] 106
  simp only [World.size_alloc] at SB
  replace PB := Blk.alloc PB (.cells #[.slice none 0 0, .bool false] 106)
  replace QB := Blk.alloc QB (.cells #[.slice none 0 0, .bool false] 106)
  have bw : Below w.heap.size w (((w.alloc (.cells #[.int .i64 x] 85)).alloc (.cells #[.bool b, .slice A n c, .int .i64 x] 40)).alloc (.cells #[.slice none 0 0, .bool false] 106)) := by go_grown
  have PB_0 := Blk.cell PB 0 rfl
  have PB_f0 := Blk.free PB 0
  have QB_0 := Blk.cell QB 0 rfl
  have QB_1 := Blk.cell QB 1 rfl
  have QB_2 := Blk.cell QB 2 rfl
  have QB_f0 := Blk.free QB 0
  have QB_f1 := Blk.free QB 1
  have QB_f2 := Blk.free QB 2
  have SB_0 := Blk.cell SB 0 rfl
  have SB_1 := Blk.cell SB 1 rfl
  have SB_f0 := Blk.free SB 0
  have SB_f1 := Blk.free SB 1
  go_enter Tryz.func72, Tryz.ntmps72
  go_wp2_with fail
  refine bodyPost_ret (v := .tuple #[stV A n c false, .int .i64 0]) (by simp [results, Tryz.results72, go_sem]) rfl ?_
  refine ⟨l, A, c, by rw [h.1], nl, rfl, by rw [h.1]; exact hn, ?_, by go_grown⟩
  rw [h.1]
  exact h.on (by go_grown)

set_option maxRecDepth 100000 in
set_option maxHeartbeats 4000000 in
theorem bring_gt (h : Lv w A n c l) (hn : n ≤ 4096) {p : Int} (hp : p < x) (x0 : -1048576 ≤ p) (x1 : x ≤ 1048576) (hv0 : val 18446744073709551616 l ≠ 0) (hv : val 18446744073709551616 l * 2 ^ (x - p).toNat < 2 ^ 262144) :
    Calls Tryz.prog 72 #[plV p, dyV b A n c x] w (StepV (val 18446744073709551616 l * 2 ^ (x - p).toNat) w) := by
  have PB := Blk.new w [.int .i64 p] 85
  have QB := Blk.new (w.alloc (.cells #[.int .i64 p] 85)) [.bool b, .slice A n c, .int .i64 x] 40
  simp only [World.size_alloc] at QB
  replace PB := Blk.alloc PB (.cells #[.bool b, .slice A n c, .int .i64 x] 40)
  have SB := Blk.new ((w.alloc (.cells #[.int .i64 p] 85)).alloc (.cells #[.bool b, .slice A n c, .int .i64 x] 40)) [.slice none 0 0, .bool false] 106
  simp only [World.size_alloc] at SB
  replace PB := Blk.alloc PB (.cells #[.slice none 0 0, .bool false] 106)
  replace QB := Blk.alloc QB (.cells #[.slice none 0 0, .bool false] 106)
  have bw : Below w.heap.size w (((w.alloc (.cells #[.int .i64 p] 85)).alloc (.cells #[.bool b, .slice A n c, .int .i64 x] 40)).alloc (.cells #[.slice none 0 0, .bool false] 106)) := by go_grown
  have PB_0 := Blk.cell PB 0 rfl
  have PB_f0 := Blk.free PB 0
  have QB_0 := Blk.cell QB 0 rfl
  have QB_1 := Blk.cell QB 1 rfl
  have QB_2 := Blk.cell QB 2 rfl
  have QB_f0 := Blk.free QB 0
  have QB_f1 := Blk.free QB 1
  have QB_f2 := Blk.free QB 2
  have SB_0 := Blk.cell SB 0 rfl
  have SB_1 := Blk.cell SB 1 rfl
  have SB_f0 := Blk.free SB 0
  have SB_f1 := Blk.free SB 1
  have t1 : decide (x < p) = false := by simp; omega
  have t2 : (x == p) = false := beq_eq_false_iff_ne.2 (by omega)
  have hj : x - p = ((x - p).toNat : Int) := by omega
  have HV := Lib.hid hv
  have HV0 := Lib.hid hv0
  have HJ := Lib.hid hj
  clear hv hv0 hj
  go_enter Tryz.func72, Tryz.ntmps72
  go_wp2_with fail
  with_reducible refine (Shl_gen (h.on (by go_grown)) hn (x - p).toNat (x - p) HJ.out HV0.out HV.out).mono ?_
  rintro e w1 ⟨q1, A1, c1, rfl, n1, v1, k1, m1, hb⟩
  clear PB_0 PB_f0
  clear QB_0 QB_1 QB_2 QB_f0 QB_f1 QB_f2
  clear SB_0 SB_1 SB_f0 SB_f1
  have hs1 := hb.size
  try simp only [World.size_alloc, World.size_setCell] at hs1
  replace bw : Below w.heap.size w w1 := dy_end (by go_grown) hb
  replace PB := Blk.on PB hb
  replace QB := Blk.on QB hb
  replace SB := Blk.on SB hb
  clear hb
  have PB_0 := Blk.cell PB 0 rfl
  have PB_f0 := Blk.free PB 0
  have QB_0 := Blk.cell QB 0 rfl
  have QB_1 := Blk.cell QB 1 rfl
  have QB_2 := Blk.cell QB 2 rfl
  have QB_f0 := Blk.free QB 0
  have QB_f1 := Blk.free QB 1
  have QB_f2 := Blk.free QB 2
  have SB_0 := Blk.cell SB 0 rfl
  have SB_1 := Blk.cell SB 1 rfl
  have SB_f0 := Blk.free SB 0
  have SB_f1 := Blk.free SB 1
  go_wp2_with fail
  refine bodyPost_ret (v := .tuple #[stV A1 q1.length c1 false, .int .i64 0]) (by simp [results, Tryz.results72, go_sem, SB_0, SB_1]) rfl ?_
  refine ⟨q1, A1, c1, rfl, n1, v1, k1, ?_, by go_grown⟩
  exact ((m1.setB SB (noU2 _ _ _ _) 0 _).setB (SB.set_ 0 _) (noU2 _ _ _ _) 0 _).setB ((SB.set_ 0 _).set_ 0 _) (noU2 _ _ _ _) 1 _


variable {A2 : Option Addr} {n2 c2 : Nat} {l2 : List Int}
theorem Blk.drew {w : World} {g : Nat} {vs : List Value} (h : Blk w g vs) : Blk w.drew g vs := h
theorem and_keep {W W' : World} {g B : Nat} {u0 u1 v0 v1 : Value} (hb : Below B W W') (h0 : g < B) (h1 : g + 1 < B) (h : W.cell? ⟨g, 0, none⟩ = some u0 ∧ W.cell? ⟨g, 1, none⟩ = some u1 ∧ W.cell? ⟨g + 1, 0, none⟩ = some v0 ∧ W.cell? ⟨g + 1, 1, none⟩ = some v1) :
    W'.cell? ⟨g, 0, none⟩ = some u0 ∧ W'.cell? ⟨g, 1, none⟩ = some u1 ∧ W'.cell? ⟨g + 1, 0, none⟩ = some v0 ∧ W'.cell? ⟨g + 1, 1, none⟩ = some v1 :=
  ⟨(hb.cell (p := ⟨g, 0, none⟩) h0).trans h.1, (hb.cell (p := ⟨g, 1, none⟩) h0).trans h.2.1, (hb.cell (p := ⟨g + 1, 0, none⟩) h1).trans h.2.2.1, (hb.cell (p := ⟨g + 1, 1, none⟩) h1).trans h.2.2.2⟩
set_option maxRecDepth 100000 in
set_option maxHeartbeats 4000000 in
theorem and_any (h : Lv w A n c l) (hn : n ≤ 4096) (h2 : Lv w A2 n2 c2 l2) (hn2 : n2 ≤ 4096) (hv : val 18446744073709551616 l + val 18446744073709551616 l2 < 18446744073709551616 ^ 4096) :
    Calls Tryz.prog 73 #[stV A n c false, stV A2 n2 c2 false] w (StepV (val 18446744073709551616 l + val 18446744073709551616 l2) w) := by
  have PB := Blk.new w [.slice A n c, .bool false] 106
  have QB := Blk.new (w.alloc (.cells #[.slice A n c, .bool false] 106)) [.slice A2 n2 c2, .bool false] 106
  simp only [World.size_alloc] at QB
  replace PB := Blk.alloc PB (.cells #[.slice A2 n2 c2, .bool false] 106)
  have SB := Blk.new ((w.alloc (.cells #[.slice A n c, .bool false] 106)).alloc (.cells #[.slice A2 n2 c2, .bool false] 106)) [.slice none 0 0, .bool false] 106
  simp only [World.size_alloc] at SB
  replace PB := Blk.alloc PB (.cells #[.slice none 0 0, .bool false] 106)
  replace QB := Blk.alloc QB (.cells #[.slice none 0 0, .bool false] 106)
  have bw : Below w.heap.size w (((w.alloc (.cells #[.slice A n c, .bool false] 106)).alloc (.cells #[.slice A2 n2 c2, .bool false] 106)).alloc (.cells #[.slice none 0 0, .bool false] 106)) := by go_grown
  have PB_0 := Blk.cell PB 0 rfl
  have PB_1 := Blk.cell PB 1 rfl
  have PB_f0 := Blk.free PB 0
  have PB_f1 := Blk.free PB 1
  have QB_0 := Blk.cell QB 0 rfl
  have QB_1 := Blk.cell QB 1 rfl
  have QB_f0 := Blk.free QB 0
  have QB_f1 := Blk.free QB 1
  have SB_0 := Blk.cell SB 0 rfl
  have SB_1 := Blk.cell SB 1 rfl
  have SB_f0 := Blk.free SB 0
  have SB_f1 := Blk.free SB 1
  have HV := Lib.hid hv
  clear hv
  go_enter Tryz.func73, Tryz.ntmps73
  go_wp2_with fail
  refine wp_region_held_drew (S := fun w' : World => w'.cell? ⟨w.heap.size, 0, none⟩ = some (.slice A n c) ∧ w'.cell? ⟨w.heap.size, 1, none⟩ = some (.bool false) ∧ w'.cell? ⟨w.heap.size + 1, 0, none⟩ = some (.slice A2 n2 c2) ∧ w'.cell? ⟨w.heap.size + 1, 1, none⟩ = some (.bool false)) (by kernel_rfl) ⟨PB_0, PB_1, QB_0, QB_1⟩ (fun hHeld => ?_)
  refine wpAnyH_take (i := 0) (v := ?v0) rfl (by kernel_rfl) (by kernel_rfl) (by kernel_rfl) (fun _ _ _ h => h) (Or.inl ⟨by rfl, ?hy0⟩) (by assumption) ?rest0
  case hy0 => (intro w hSw; (try dsimp only at hSw); go_simp; try with_reducible rfl)
  simp only [Act.put, List.setIfInBounds_toArray, List.set_cons_zero, List.set_cons_succ, List.getElem_toArray, List.getElem_cons_zero, List.getElem_cons_succ]
  refine wpAnyH_take (i := 1) (v := ?v1) rfl (by kernel_rfl) (by kernel_rfl) (by kernel_rfl) (fun _ _ _ h => h) (Or.inl ⟨by rfl, ?hy1⟩) (by assumption) ?rest1
  case hy1 => (intro w hSw; (try dsimp only at hSw); go_simp; try with_reducible rfl)
  simp only [Act.put, List.setIfInBounds_toArray, List.set_cons_zero, List.set_cons_succ, List.getElem_toArray, List.getElem_cons_zero, List.getElem_cons_succ]
  refine wpAnyH_take (i := 2) (v := ?v2) rfl (by kernel_rfl) (by kernel_rfl) (by kernel_rfl) (fun _ _ _ h => h) (Or.inl ⟨by rfl, ?hy2⟩) (by assumption) ?rest2
  case hy2 => (intro w hSw; (try dsimp only at hSw); go_simp; try with_reducible rfl)
  simp only [Act.put, List.setIfInBounds_toArray, List.set_cons_zero, List.set_cons_succ, List.getElem_toArray, List.getElem_cons_zero, List.getElem_cons_succ]
  refine wpAnyH_take (i := 3) (v := ?v3) rfl (by kernel_rfl) (by kernel_rfl) (by kernel_rfl) (fun _ _ _ h => h) (Or.inl ⟨by rfl, ?hy3⟩) (by assumption) ?rest3
  case hy3 => (intro w hSw; (try dsimp only at hSw); go_simp; try with_reducible rfl)
  simp only [Act.put, List.setIfInBounds_toArray, List.set_cons_zero, List.set_cons_succ, List.getElem_toArray, List.getElem_cons_zero, List.getElem_cons_succ]
  refine wpAnyH_take (i := 4) (v := ?v4) rfl (by kernel_rfl) (by kernel_rfl) (by kernel_rfl) (fun _ _ _ h => h) (Or.inl ⟨by rfl, ?hy4⟩) (by assumption) ?rest4
  case hy4 => (intro w hSw; (try dsimp only at hSw); go_simp; try with_reducible rfl)
  simp only [Act.put, List.setIfInBounds_toArray, List.set_cons_zero, List.set_cons_succ, List.getElem_toArray, List.getElem_cons_zero, List.getElem_cons_succ]
  refine wpAnyH_take (i := 5) (v := ?v5) rfl (by kernel_rfl) (by kernel_rfl) (by kernel_rfl) (fun _ _ _ h => h) (Or.inl ⟨by rfl, ?hy5⟩) (by assumption) ?rest5
  case hy5 => (intro w hSw; (try dsimp only at hSw); go_simp; try with_reducible rfl)
  simp only [Act.put, List.setIfInBounds_toArray, List.set_cons_zero, List.set_cons_succ, List.getElem_toArray, List.getElem_cons_zero, List.getElem_cons_succ]
  refine wpAnyH_take (i := 6) (v := undef) rfl (by kernel_rfl) (by kernel_rfl) (by kernel_rfl) (fun _ _ _ h => h) (Or.inr ⟨by rfl, rfl⟩) (by assumption) ?_
  simp only [Act.put, List.setIfInBounds_toArray, List.set_cons_zero, List.set_cons_succ, List.getElem_toArray, List.getElem_cons_zero, List.getElem_cons_succ]
  refine wpAnyH_take (i := 7) (v := undef) rfl (by kernel_rfl) (by kernel_rfl) (by kernel_rfl) (fun _ _ _ h => h) (Or.inr ⟨by rfl, rfl⟩) (by assumption) ?_
  simp only [Act.put, List.setIfInBounds_toArray, List.set_cons_zero, List.set_cons_succ, List.getElem_toArray, List.getElem_cons_zero, List.getElem_cons_succ]
  refine wpAnyH_take (i := 8) (v := ?v8) rfl (by kernel_rfl) (by kernel_rfl) (by kernel_rfl) (fun _ _ _ h => h) (Or.inl ⟨by rfl, ?hy8⟩) (by assumption) ?rest8
  case hy8 => (intro w hSw; (try dsimp only at hSw); go_simp; try with_reducible rfl)
  simp only [Act.put, List.setIfInBounds_toArray, List.set_cons_zero, List.set_cons_succ, List.getElem_toArray, List.getElem_cons_zero, List.getElem_cons_succ]
  refine wpAnyH_ready (rs := [9]) (by kernel_rfl) (by simp) ?_
  refine AllReadyH.cons rfl (fun K hK => ?_) AllReadyH.nil
  go_simp
  with_reducible refine (carried_no A2 n2 c2 false _).mono ?_
  rintro e w1 ⟨rfl, hb1⟩
  have hs1 := hb1.size
  simp only [World.size_alloc, World.size_drew] at hs1
  refine hK.out _ _ (and_keep hb1 (by simp; omega) (by simp) (by assumption)) (fun hHeld => ?_)
  clear hK K
  try simp only [Act.put, List.setIfInBounds_toArray, List.set_cons_zero, List.set_cons_succ, List.getElem_toArray, List.getElem_cons_zero, List.getElem_cons_succ]
  refine wpAnyH_ready (rs := [10]) (by kernel_rfl) (by simp) ?_
  refine AllReadyH.cons rfl (fun K hK => ?_) AllReadyH.nil
  go_simp
  with_reducible refine (Add_val (h.on (dy_end (by go_grown) hb1)) (h2.on (dy_end (by go_grown) hb1)) hn hn2 HV.out).mono ?_
  rintro e w2 ⟨q1, A1, c1, rfl, n1, v1, k1, m1, hb2⟩
  refine hK.out _ _ (and_keep hb2 (by omega) (by omega) (by assumption)) (fun hHeld => ?_)
  clear hK K
  try simp only [Act.put, List.setIfInBounds_toArray, List.set_cons_zero, List.set_cons_succ, List.getElem_toArray, List.getElem_cons_zero, List.getElem_cons_succ]
  refine wpAnyH_take (i := 11) (v := ?v11) rfl (by kernel_rfl) (by kernel_rfl) (by kernel_rfl) (fun _ _ _ h => h) (Or.inl ⟨by rfl, ?hy11⟩) (by assumption) ?rest11
  case hy11 => (intro w hSw; (try dsimp only at hSw); go_simp; try with_reducible rfl)
  simp only [Act.put, List.setIfInBounds_toArray, List.set_cons_zero, List.set_cons_succ, List.getElem_toArray, List.getElem_cons_zero, List.getElem_cons_succ]
  refine wpAnyH_take (i := 12) (v := ?v12) rfl (by kernel_rfl) (by kernel_rfl) (by kernel_rfl) (fun _ _ _ h => h) (Or.inl ⟨by rfl, ?hy12⟩) (by assumption) ?rest12
  case hy12 => (intro w hSw; (try dsimp only at hSw); go_simp; try with_reducible rfl)
  simp only [Act.put, List.setIfInBounds_toArray, List.set_cons_zero, List.set_cons_succ, List.getElem_toArray, List.getElem_cons_zero, List.getElem_cons_succ]
  refine wpAnyH_take (i := 13) (v := ?v13) rfl (by kernel_rfl) (by kernel_rfl) (by kernel_rfl) (fun _ _ _ h => h) (Or.inl ⟨by rfl, ?hy13⟩) (by assumption) ?rest13
  case hy13 => (intro w hSw; (try dsimp only at hSw); go_simp; try with_reducible rfl)
  simp only [Act.put, List.setIfInBounds_toArray, List.set_cons_zero, List.set_cons_succ, List.getElem_toArray, List.getElem_cons_zero, List.getElem_cons_succ]
  refine wpAnyH_take (i := 14) (v := ?v14) rfl (by kernel_rfl) (by kernel_rfl) (by kernel_rfl) (fun _ _ _ h => h) (Or.inl ⟨by rfl, ?hy14⟩) (by assumption) ?rest14
  case hy14 => (intro w hSw; (try dsimp only at hSw); go_simp; try with_reducible rfl)
  simp only [Act.put, List.setIfInBounds_toArray, List.set_cons_zero, List.set_cons_succ, List.getElem_toArray, List.getElem_cons_zero, List.getElem_cons_succ]
  refine wpAnyH_take (i := 15) (v := ?v15) rfl (by kernel_rfl) (by kernel_rfl) (by kernel_rfl) (fun _ _ _ h => h) (Or.inl ⟨by rfl, ?hy15⟩) (by assumption) ?rest15
  case hy15 => (intro w hSw; (try dsimp only at hSw); go_simp; try with_reducible rfl)
  simp only [Act.put, List.setIfInBounds_toArray, List.set_cons_zero, List.set_cons_succ, List.getElem_toArray, List.getElem_cons_zero, List.getElem_cons_succ]
  refine wpAnyH_done (by kernel_rfl) ?_ _
  have b1 : Below w.heap.size w w1 := dy_end (by go_grown) hb1
  replace bw : Below w.heap.size w w2 := dy_end b1 hb2
  clear PB_0 PB_1 PB_f0 PB_f1
  replace PB := ((Blk.drew PB).on hb1).on hb2
  clear QB_0 QB_1 QB_f0 QB_f1
  replace QB := ((Blk.drew QB).on hb1).on hb2
  clear SB_0 SB_1 SB_f0 SB_f1
  replace SB := ((Blk.drew SB).on hb1).on hb2
  have PB_0 := Blk.cell PB 0 rfl
  have PB_1 := Blk.cell PB 1 rfl
  have PB_f0 := Blk.free PB 0
  have PB_f1 := Blk.free PB 1
  have QB_0 := Blk.cell QB 0 rfl
  have QB_1 := Blk.cell QB 1 rfl
  have QB_f0 := Blk.free QB 0
  have QB_f1 := Blk.free QB 1
  have SB_0 := Blk.cell SB 0 rfl
  have SB_1 := Blk.cell SB 1 rfl
  have SB_f0 := Blk.free SB 0
  have SB_f1 := Blk.free SB 1
  clear hb1 hb2 b1 hHeld
  go_wp2_with fail
  refine bodyPost_ret (v := .tuple #[stV A1 q1.length c1 false, .int .i64 0]) (by simp [results, Tryz.results73, go_sem, SB_0, SB_1]) rfl ?_
  refine ⟨q1, A1, c1, rfl, n1, v1, k1, ?_, by go_grown⟩
  exact (m1.setB SB (noU2 _ _ _ _) 0 _).setB (SB.set_ 0 _) (noU2 _ _ _ _) 1 _

set_option maxRecDepth 100000 in
set_option maxHeartbeats 4000000 in
theorem less_yes (h : Lv w A n c l) (hn : n ≤ 4096) (h2 : Lv w A2 n2 c2 l2) (hn2 : n2 ≤ 4096) (hv : val 18446744073709551616 l2 ≤ val 18446744073709551616 l) :
    Calls Tryz.prog 75 #[stV A n c false, stV A2 n2 c2 false] w (StepV (val 18446744073709551616 l - val 18446744073709551616 l2) w) := by
  have PB := Blk.new w [.slice A n c, .bool false] 106
  have QB := Blk.new (w.alloc (.cells #[.slice A n c, .bool false] 106)) [.slice A2 n2 c2, .bool false] 106
  simp only [World.size_alloc] at QB
  replace PB := Blk.alloc PB (.cells #[.slice A2 n2 c2, .bool false] 106)
  have SB := Blk.new ((w.alloc (.cells #[.slice A n c, .bool false] 106)).alloc (.cells #[.slice A2 n2 c2, .bool false] 106)) [.slice none 0 0, .bool false] 106
  simp only [World.size_alloc] at SB
  replace PB := Blk.alloc PB (.cells #[.slice none 0 0, .bool false] 106)
  replace QB := Blk.alloc QB (.cells #[.slice none 0 0, .bool false] 106)
  have bw : Below w.heap.size w (((w.alloc (.cells #[.slice A n c, .bool false] 106)).alloc (.cells #[.slice A2 n2 c2, .bool false] 106)).alloc (.cells #[.slice none 0 0, .bool false] 106)) := by go_grown
  have PB_0 := Blk.cell PB 0 rfl
  have PB_1 := Blk.cell PB 1 rfl
  have PB_f0 := Blk.free PB 0
  have PB_f1 := Blk.free PB 1
  have QB_0 := Blk.cell QB 0 rfl
  have QB_1 := Blk.cell QB 1 rfl
  have QB_f0 := Blk.free QB 0
  have QB_f1 := Blk.free QB 1
  have SB_0 := Blk.cell SB 0 rfl
  have SB_1 := Blk.cell SB 1 rfl
  have SB_f0 := Blk.free SB 0
  have SB_f1 := Blk.free SB 1
  have HV := Lib.hid hv
  clear hv
  go_enter Tryz.func75, Tryz.ntmps75
  go_wp2_with fail
  refine wp_region_held_drew (S := fun w' : World => w'.cell? ⟨w.heap.size, 0, none⟩ = some (.slice A n c) ∧ w'.cell? ⟨w.heap.size, 1, none⟩ = some (.bool false) ∧ w'.cell? ⟨w.heap.size + 1, 0, none⟩ = some (.slice A2 n2 c2) ∧ w'.cell? ⟨w.heap.size + 1, 1, none⟩ = some (.bool false)) (by kernel_rfl) ⟨PB_0, PB_1, QB_0, QB_1⟩ (fun hHeld => ?_)
  refine wpAnyH_take (i := 0) (v := ?v0) rfl (by kernel_rfl) (by kernel_rfl) (by kernel_rfl) (fun _ _ _ h => h) (Or.inl ⟨by rfl, ?hy0⟩) (by assumption) ?rest0
  case hy0 => (intro w hSw; (try dsimp only at hSw); go_simp; try with_reducible rfl)
  simp only [Act.put, List.setIfInBounds_toArray, List.set_cons_zero, List.set_cons_succ, List.getElem_toArray, List.getElem_cons_zero, List.getElem_cons_succ]
  refine wpAnyH_take (i := 1) (v := ?v1) rfl (by kernel_rfl) (by kernel_rfl) (by kernel_rfl) (fun _ _ _ h => h) (Or.inl ⟨by rfl, ?hy1⟩) (by assumption) ?rest1
  case hy1 => (intro w hSw; (try dsimp only at hSw); go_simp; try with_reducible rfl)
  simp only [Act.put, List.setIfInBounds_toArray, List.set_cons_zero, List.set_cons_succ, List.getElem_toArray, List.getElem_cons_zero, List.getElem_cons_succ]
  refine wpAnyH_take (i := 2) (v := ?v2) rfl (by kernel_rfl) (by kernel_rfl) (by kernel_rfl) (fun _ _ _ h => h) (Or.inl ⟨by rfl, ?hy2⟩) (by assumption) ?rest2
  case hy2 => (intro w hSw; (try dsimp only at hSw); go_simp; try with_reducible rfl)
  simp only [Act.put, List.setIfInBounds_toArray, List.set_cons_zero, List.set_cons_succ, List.getElem_toArray, List.getElem_cons_zero, List.getElem_cons_succ]
  refine wpAnyH_take (i := 3) (v := ?v3) rfl (by kernel_rfl) (by kernel_rfl) (by kernel_rfl) (fun _ _ _ h => h) (Or.inl ⟨by rfl, ?hy3⟩) (by assumption) ?rest3
  case hy3 => (intro w hSw; (try dsimp only at hSw); go_simp; try with_reducible rfl)
  simp only [Act.put, List.setIfInBounds_toArray, List.set_cons_zero, List.set_cons_succ, List.getElem_toArray, List.getElem_cons_zero, List.getElem_cons_succ]
  refine wpAnyH_take (i := 4) (v := ?v4) rfl (by kernel_rfl) (by kernel_rfl) (by kernel_rfl) (fun _ _ _ h => h) (Or.inl ⟨by rfl, ?hy4⟩) (by assumption) ?rest4
  case hy4 => (intro w hSw; (try dsimp only at hSw); go_simp; try with_reducible rfl)
  simp only [Act.put, List.setIfInBounds_toArray, List.set_cons_zero, List.set_cons_succ, List.getElem_toArray, List.getElem_cons_zero, List.getElem_cons_succ]
  refine wpAnyH_take (i := 5) (v := ?v5) rfl (by kernel_rfl) (by kernel_rfl) (by kernel_rfl) (fun _ _ _ h => h) (Or.inl ⟨by rfl, ?hy5⟩) (by assumption) ?rest5
  case hy5 => (intro w hSw; (try dsimp only at hSw); go_simp; try with_reducible rfl)
  simp only [Act.put, List.setIfInBounds_toArray, List.set_cons_zero, List.set_cons_succ, List.getElem_toArray, List.getElem_cons_zero, List.getElem_cons_succ]
  refine wpAnyH_take (i := 6) (v := undef) rfl (by kernel_rfl) (by kernel_rfl) (by kernel_rfl) (fun _ _ _ h => h) (Or.inr ⟨by rfl, rfl⟩) (by assumption) ?_
  simp only [Act.put, List.setIfInBounds_toArray, List.set_cons_zero, List.set_cons_succ, List.getElem_toArray, List.getElem_cons_zero, List.getElem_cons_succ]
  refine wpAnyH_take (i := 7) (v := undef) rfl (by kernel_rfl) (by kernel_rfl) (by kernel_rfl) (fun _ _ _ h => h) (Or.inr ⟨by rfl, rfl⟩) (by assumption) ?_
  simp only [Act.put, List.setIfInBounds_toArray, List.set_cons_zero, List.set_cons_succ, List.getElem_toArray, List.getElem_cons_zero, List.getElem_cons_succ]
  refine wpAnyH_take (i := 8) (v := undef) rfl (by kernel_rfl) (by kernel_rfl) (by kernel_rfl) (fun _ _ _ h => h) (Or.inr ⟨by rfl, rfl⟩) (by assumption) ?_
  simp only [Act.put, List.setIfInBounds_toArray, List.set_cons_zero, List.set_cons_succ, List.getElem_toArray, List.getElem_cons_zero, List.getElem_cons_succ]
  refine wpAnyH_take (i := 9) (v := ?v9) rfl (by kernel_rfl) (by kernel_rfl) (by kernel_rfl) (fun _ _ _ h => h) (Or.inl ⟨by rfl, ?hy9⟩) (by assumption) ?rest9
  case hy9 => (intro w hSw; (try dsimp only at hSw); go_simp; try with_reducible rfl)
  simp only [Act.put, List.setIfInBounds_toArray, List.set_cons_zero, List.set_cons_succ, List.getElem_toArray, List.getElem_cons_zero, List.getElem_cons_succ]
  refine wpAnyH_ready (rs := [10]) (by kernel_rfl) (by simp) ?_
  refine AllReadyH.cons rfl (fun K hK => ?_) AllReadyH.nil
  go_simp
  with_reducible refine (carried_no A2 n2 c2 false _).mono ?_
  rintro e w1 ⟨rfl, hb1⟩
  have hs1 := hb1.size
  simp only [World.size_alloc, World.size_drew] at hs1
  refine hK.out _ _ (and_keep hb1 (by simp; omega) (by simp) (by assumption)) (fun hHeld => ?_)
  clear hK K
  try simp only [Act.put, List.setIfInBounds_toArray, List.set_cons_zero, List.set_cons_succ, List.getElem_toArray, List.getElem_cons_zero, List.getElem_cons_succ]
  refine wpAnyH_ready (rs := [11]) (by kernel_rfl) (by simp) ?_
  refine AllReadyH.cons rfl (fun K hK => ?_) AllReadyH.nil
  go_simp
  with_reducible refine (Sub_val (h.on (dy_end (by go_grown) hb1)) (h2.on (dy_end (by go_grown) hb1)) hn hn2 HV.out).mono ?_
  rintro e w2 ⟨q1, A1, c1, rfl, n1, v1, k1, m1, hb2⟩
  refine hK.out _ _ (and_keep hb2 (by omega) (by omega) (by assumption)) (fun hHeld => ?_)
  clear hK K
  try simp only [Act.put, List.setIfInBounds_toArray, List.set_cons_zero, List.set_cons_succ, List.getElem_toArray, List.getElem_cons_zero, List.getElem_cons_succ]
  refine wpAnyH_take (i := 12) (v := ?v12) rfl (by kernel_rfl) (by kernel_rfl) (by kernel_rfl) (fun _ _ _ h => h) (Or.inl ⟨by rfl, ?hy12⟩) (by assumption) ?rest12
  case hy12 => (intro w hSw; (try dsimp only at hSw); go_simp; try with_reducible rfl)
  simp only [Act.put, List.setIfInBounds_toArray, List.set_cons_zero, List.set_cons_succ, List.getElem_toArray, List.getElem_cons_zero, List.getElem_cons_succ]
  refine wpAnyH_take (i := 13) (v := ?v13) rfl (by kernel_rfl) (by kernel_rfl) (by kernel_rfl) (fun _ _ _ h => h) (Or.inl ⟨by rfl, ?hy13⟩) (by assumption) ?rest13
  case hy13 => (intro w hSw; (try dsimp only at hSw); go_simp; try with_reducible rfl)
  simp only [Act.put, List.setIfInBounds_toArray, List.set_cons_zero, List.set_cons_succ, List.getElem_toArray, List.getElem_cons_zero, List.getElem_cons_succ]
  refine wpAnyH_take (i := 14) (v := ?v14) rfl (by kernel_rfl) (by kernel_rfl) (by kernel_rfl) (fun _ _ _ h => h) (Or.inl ⟨by rfl, ?hy14⟩) (by assumption) ?rest14
  case hy14 => (intro w hSw; (try dsimp only at hSw); go_simp; try with_reducible rfl)
  simp only [Act.put, List.setIfInBounds_toArray, List.set_cons_zero, List.set_cons_succ, List.getElem_toArray, List.getElem_cons_zero, List.getElem_cons_succ]
  refine wpAnyH_take (i := 15) (v := ?v15) rfl (by kernel_rfl) (by kernel_rfl) (by kernel_rfl) (fun _ _ _ h => h) (Or.inl ⟨by rfl, ?hy15⟩) (by assumption) ?rest15
  case hy15 => (intro w hSw; (try dsimp only at hSw); go_simp; try with_reducible rfl)
  simp only [Act.put, List.setIfInBounds_toArray, List.set_cons_zero, List.set_cons_succ, List.getElem_toArray, List.getElem_cons_zero, List.getElem_cons_succ]
  refine wpAnyH_take (i := 16) (v := ?v16) rfl (by kernel_rfl) (by kernel_rfl) (by kernel_rfl) (fun _ _ _ h => h) (Or.inl ⟨by rfl, ?hy16⟩) (by assumption) ?rest16
  case hy16 => (intro w hSw; (try dsimp only at hSw); go_simp; try with_reducible rfl)
  simp only [Act.put, List.setIfInBounds_toArray, List.set_cons_zero, List.set_cons_succ, List.getElem_toArray, List.getElem_cons_zero, List.getElem_cons_succ]
  refine wpAnyH_done (by kernel_rfl) ?_ _
  have b1 : Below w.heap.size w w1 := dy_end (by go_grown) hb1
  replace bw : Below w.heap.size w w2 := dy_end b1 hb2
  clear PB_0 PB_1 PB_f0 PB_f1
  replace PB := ((Blk.drew PB).on hb1).on hb2
  clear QB_0 QB_1 QB_f0 QB_f1
  replace QB := ((Blk.drew QB).on hb1).on hb2
  clear SB_0 SB_1 SB_f0 SB_f1
  replace SB := ((Blk.drew SB).on hb1).on hb2
  have PB_0 := Blk.cell PB 0 rfl
  have PB_1 := Blk.cell PB 1 rfl
  have PB_f0 := Blk.free PB 0
  have PB_f1 := Blk.free PB 1
  have QB_0 := Blk.cell QB 0 rfl
  have QB_1 := Blk.cell QB 1 rfl
  have QB_f0 := Blk.free QB 0
  have QB_f1 := Blk.free QB 1
  have SB_0 := Blk.cell SB 0 rfl
  have SB_1 := Blk.cell SB 1 rfl
  have SB_f0 := Blk.free SB 0
  have SB_f1 := Blk.free SB 1
  clear hb1 hb2 b1 hHeld
  go_wp2_with fail
  refine bodyPost_ret (v := .tuple #[stV A1 q1.length c1 false, .int .i64 0]) (by simp [results, Tryz.results75, go_sem, SB_0, SB_1]) rfl ?_
  refine ⟨q1, A1, c1, rfl, n1, v1, k1, ?_, by go_grown⟩
  exact (m1.setB SB (noU2 _ _ _ _) 0 _).setB (SB.set_ 0 _) (noU2 _ _ _ _) 1 _

set_option maxRecDepth 100000 in
set_option maxHeartbeats 4000000 in
theorem less_no (h : Lv w A n c l) (hn : n ≤ 4096) (h2 : Lv w A2 n2 c2 l2) (hn2 : n2 ≤ 4096) (hv : val 18446744073709551616 l < val 18446744073709551616 l2) :
    Calls Tryz.prog 75 #[stV A n c false, stV A2 n2 c2 false] w fun e w' => e = .returned (.tuple #[stV none 0 0 false, .int .i64 2]) ∧ Below w.heap.size w w' := by
  have PB := Blk.new w [.slice A n c, .bool false] 106
  have QB := Blk.new (w.alloc (.cells #[.slice A n c, .bool false] 106)) [.slice A2 n2 c2, .bool false] 106
  simp only [World.size_alloc] at QB
  replace PB := Blk.alloc PB (.cells #[.slice A2 n2 c2, .bool false] 106)
  have SB := Blk.new ((w.alloc (.cells #[.slice A n c, .bool false] 106)).alloc (.cells #[.slice A2 n2 c2, .bool false] 106)) [.slice none 0 0, .bool false] 106
  simp only [World.size_alloc] at SB
  replace PB := Blk.alloc PB (.cells #[.slice none 0 0, .bool false] 106)
  replace QB := Blk.alloc QB (.cells #[.slice none 0 0, .bool false] 106)
  have bw : Below w.heap.size w (((w.alloc (.cells #[.slice A n c, .bool false] 106)).alloc (.cells #[.slice A2 n2 c2, .bool false] 106)).alloc (.cells #[.slice none 0 0, .bool false] 106)) := by go_grown
  have PB_0 := Blk.cell PB 0 rfl
  have PB_1 := Blk.cell PB 1 rfl
  have PB_f0 := Blk.free PB 0
  have PB_f1 := Blk.free PB 1
  have QB_0 := Blk.cell QB 0 rfl
  have QB_1 := Blk.cell QB 1 rfl
  have QB_f0 := Blk.free QB 0
  have QB_f1 := Blk.free QB 1
  have SB_0 := Blk.cell SB 0 rfl
  have SB_1 := Blk.cell SB 1 rfl
  have SB_f0 := Blk.free SB 0
  have SB_f1 := Blk.free SB 1
  have HV := Lib.hid hv
  clear hv
  go_enter Tryz.func75, Tryz.ntmps75
  go_wp2_with fail
  refine wp_region_held_drew (S := fun w' : World => w'.cell? ⟨w.heap.size, 0, none⟩ = some (.slice A n c) ∧ w'.cell? ⟨w.heap.size, 1, none⟩ = some (.bool false) ∧ w'.cell? ⟨w.heap.size + 1, 0, none⟩ = some (.slice A2 n2 c2) ∧ w'.cell? ⟨w.heap.size + 1, 1, none⟩ = some (.bool false)) (by kernel_rfl) ⟨PB_0, PB_1, QB_0, QB_1⟩ (fun hHeld => ?_)
  refine wpAnyH_take (i := 0) (v := ?v0) rfl (by kernel_rfl) (by kernel_rfl) (by kernel_rfl) (fun _ _ _ h => h) (Or.inl ⟨by rfl, ?hy0⟩) (by assumption) ?rest0
  case hy0 => (intro w hSw; (try dsimp only at hSw); go_simp; try with_reducible rfl)
  simp only [Act.put, List.setIfInBounds_toArray, List.set_cons_zero, List.set_cons_succ, List.getElem_toArray, List.getElem_cons_zero, List.getElem_cons_succ]
  refine wpAnyH_take (i := 1) (v := ?v1) rfl (by kernel_rfl) (by kernel_rfl) (by kernel_rfl) (fun _ _ _ h => h) (Or.inl ⟨by rfl, ?hy1⟩) (by assumption) ?rest1
  case hy1 => (intro w hSw; (try dsimp only at hSw); go_simp; try with_reducible rfl)
  simp only [Act.put, List.setIfInBounds_toArray, List.set_cons_zero, List.set_cons_succ, List.getElem_toArray, List.getElem_cons_zero, List.getElem_cons_succ]
  refine wpAnyH_take (i := 2) (v := ?v2) rfl (by kernel_rfl) (by kernel_rfl) (by kernel_rfl) (fun _ _ _ h => h) (Or.inl ⟨by rfl, ?hy2⟩) (by assumption) ?rest2
  case hy2 => (intro w hSw; (try dsimp only at hSw); go_simp; try with_reducible rfl)
  simp only [Act.put, List.setIfInBounds_toArray, List.set_cons_zero, List.set_cons_succ, List.getElem_toArray, List.getElem_cons_zero, List.getElem_cons_succ]
  refine wpAnyH_take (i := 3) (v := ?v3) rfl (by kernel_rfl) (by kernel_rfl) (by kernel_rfl) (fun _ _ _ h => h) (Or.inl ⟨by rfl, ?hy3⟩) (by assumption) ?rest3
  case hy3 => (intro w hSw; (try dsimp only at hSw); go_simp; try with_reducible rfl)
  simp only [Act.put, List.setIfInBounds_toArray, List.set_cons_zero, List.set_cons_succ, List.getElem_toArray, List.getElem_cons_zero, List.getElem_cons_succ]
  refine wpAnyH_take (i := 4) (v := ?v4) rfl (by kernel_rfl) (by kernel_rfl) (by kernel_rfl) (fun _ _ _ h => h) (Or.inl ⟨by rfl, ?hy4⟩) (by assumption) ?rest4
  case hy4 => (intro w hSw; (try dsimp only at hSw); go_simp; try with_reducible rfl)
  simp only [Act.put, List.setIfInBounds_toArray, List.set_cons_zero, List.set_cons_succ, List.getElem_toArray, List.getElem_cons_zero, List.getElem_cons_succ]
  refine wpAnyH_take (i := 5) (v := ?v5) rfl (by kernel_rfl) (by kernel_rfl) (by kernel_rfl) (fun _ _ _ h => h) (Or.inl ⟨by rfl, ?hy5⟩) (by assumption) ?rest5
  case hy5 => (intro w hSw; (try dsimp only at hSw); go_simp; try with_reducible rfl)
  simp only [Act.put, List.setIfInBounds_toArray, List.set_cons_zero, List.set_cons_succ, List.getElem_toArray, List.getElem_cons_zero, List.getElem_cons_succ]
  refine wpAnyH_take (i := 6) (v := undef) rfl (by kernel_rfl) (by kernel_rfl) (by kernel_rfl) (fun _ _ _ h => h) (Or.inr ⟨by rfl, rfl⟩) (by assumption) ?_
  simp only [Act.put, List.setIfInBounds_toArray, List.set_cons_zero, List.set_cons_succ, List.getElem_toArray, List.getElem_cons_zero, List.getElem_cons_succ]
  refine wpAnyH_take (i := 7) (v := undef) rfl (by kernel_rfl) (by kernel_rfl) (by kernel_rfl) (fun _ _ _ h => h) (Or.inr ⟨by rfl, rfl⟩) (by assumption) ?_
  simp only [Act.put, List.setIfInBounds_toArray, List.set_cons_zero, List.set_cons_succ, List.getElem_toArray, List.getElem_cons_zero, List.getElem_cons_succ]
  refine wpAnyH_take (i := 8) (v := undef) rfl (by kernel_rfl) (by kernel_rfl) (by kernel_rfl) (fun _ _ _ h => h) (Or.inr ⟨by rfl, rfl⟩) (by assumption) ?_
  simp only [Act.put, List.setIfInBounds_toArray, List.set_cons_zero, List.set_cons_succ, List.getElem_toArray, List.getElem_cons_zero, List.getElem_cons_succ]
  refine wpAnyH_take (i := 9) (v := ?v9) rfl (by kernel_rfl) (by kernel_rfl) (by kernel_rfl) (fun _ _ _ h => h) (Or.inl ⟨by rfl, ?hy9⟩) (by assumption) ?rest9
  case hy9 => (intro w hSw; (try dsimp only at hSw); go_simp; try with_reducible rfl)
  simp only [Act.put, List.setIfInBounds_toArray, List.set_cons_zero, List.set_cons_succ, List.getElem_toArray, List.getElem_cons_zero, List.getElem_cons_succ]
  refine wpAnyH_ready (rs := [10]) (by kernel_rfl) (by simp) ?_
  refine AllReadyH.cons rfl (fun K hK => ?_) AllReadyH.nil
  go_simp
  with_reducible refine (carried_no A2 n2 c2 false _).mono ?_
  rintro e w1 ⟨rfl, hb1⟩
  have hs1 := hb1.size
  simp only [World.size_alloc, World.size_drew] at hs1
  refine hK.out _ _ (and_keep hb1 (by simp; omega) (by simp) (by assumption)) (fun hHeld => ?_)
  clear hK K
  try simp only [Act.put, List.setIfInBounds_toArray, List.set_cons_zero, List.set_cons_succ, List.getElem_toArray, List.getElem_cons_zero, List.getElem_cons_succ]
  refine wpAnyH_ready (rs := [11]) (by kernel_rfl) (by simp) ?_
  refine AllReadyH.cons rfl (fun K hK => ?_) AllReadyH.nil
  go_simp
  with_reducible refine (Sub_bad (h.on (dy_end (by go_grown) hb1)) (h2.on (dy_end (by go_grown) hb1)) hn hn2 HV.out).mono ?_
  rintro e w2 ⟨rfl, hb2⟩
  refine hK.out _ _ (and_keep hb2 (by omega) (by omega) (by assumption)) (fun hHeld => ?_)
  clear hK K
  try simp only [Act.put, List.setIfInBounds_toArray, List.set_cons_zero, List.set_cons_succ, List.getElem_toArray, List.getElem_cons_zero, List.getElem_cons_succ]
  refine wpAnyH_take (i := 12) (v := ?v12) rfl (by kernel_rfl) (by kernel_rfl) (by kernel_rfl) (fun _ _ _ h => h) (Or.inl ⟨by rfl, ?hy12⟩) (by assumption) ?rest12
  case hy12 => (intro w hSw; (try dsimp only at hSw); go_simp; try with_reducible rfl)
  simp only [Act.put, List.setIfInBounds_toArray, List.set_cons_zero, List.set_cons_succ, List.getElem_toArray, List.getElem_cons_zero, List.getElem_cons_succ]
  refine wpAnyH_take (i := 13) (v := ?v13) rfl (by kernel_rfl) (by kernel_rfl) (by kernel_rfl) (fun _ _ _ h => h) (Or.inl ⟨by rfl, ?hy13⟩) (by assumption) ?rest13
  case hy13 => (intro w hSw; (try dsimp only at hSw); go_simp; try with_reducible rfl)
  simp only [Act.put, List.setIfInBounds_toArray, List.set_cons_zero, List.set_cons_succ, List.getElem_toArray, List.getElem_cons_zero, List.getElem_cons_succ]
  refine wpAnyH_take (i := 14) (v := ?v14) rfl (by kernel_rfl) (by kernel_rfl) (by kernel_rfl) (fun _ _ _ h => h) (Or.inl ⟨by rfl, ?hy14⟩) (by assumption) ?rest14
  case hy14 => (intro w hSw; (try dsimp only at hSw); go_simp; try with_reducible rfl)
  simp only [Act.put, List.setIfInBounds_toArray, List.set_cons_zero, List.set_cons_succ, List.getElem_toArray, List.getElem_cons_zero, List.getElem_cons_succ]
  refine wpAnyH_take (i := 15) (v := ?v15) rfl (by kernel_rfl) (by kernel_rfl) (by kernel_rfl) (fun _ _ _ h => h) (Or.inl ⟨by rfl, ?hy15⟩) (by assumption) ?rest15
  case hy15 => (intro w hSw; (try dsimp only at hSw); go_simp; try with_reducible rfl)
  simp only [Act.put, List.setIfInBounds_toArray, List.set_cons_zero, List.set_cons_succ, List.getElem_toArray, List.getElem_cons_zero, List.getElem_cons_succ]
  refine wpAnyH_take (i := 16) (v := ?v16) rfl (by kernel_rfl) (by kernel_rfl) (by kernel_rfl) (fun _ _ _ h => h) (Or.inl ⟨by rfl, ?hy16⟩) (by assumption) ?rest16
  case hy16 => (intro w hSw; (try dsimp only at hSw); go_simp; try with_reducible rfl)
  simp only [Act.put, List.setIfInBounds_toArray, List.set_cons_zero, List.set_cons_succ, List.getElem_toArray, List.getElem_cons_zero, List.getElem_cons_succ]
  refine wpAnyH_done (by kernel_rfl) ?_ _
  have b1 : Below w.heap.size w w1 := dy_end (by go_grown) hb1
  replace bw : Below w.heap.size w w2 := dy_end b1 hb2
  clear PB_0 PB_1 PB_f0 PB_f1
  replace PB := ((Blk.drew PB).on hb1).on hb2
  clear QB_0 QB_1 QB_f0 QB_f1
  replace QB := ((Blk.drew QB).on hb1).on hb2
  clear SB_0 SB_1 SB_f0 SB_f1
  replace SB := ((Blk.drew SB).on hb1).on hb2
  have PB_0 := Blk.cell PB 0 rfl
  have PB_1 := Blk.cell PB 1 rfl
  have PB_f0 := Blk.free PB 0
  have PB_f1 := Blk.free PB 1
  have QB_0 := Blk.cell QB 0 rfl
  have QB_1 := Blk.cell QB 1 rfl
  have QB_f0 := Blk.free QB 0
  have QB_f1 := Blk.free QB 1
  have SB_0 := Blk.cell SB 0 rfl
  have SB_1 := Blk.cell SB 1 rfl
  have SB_f0 := Blk.free SB 0
  have SB_f1 := Blk.free SB 1
  clear hb1 hb2 b1 hHeld
  go_wp2_with fail
  refine bodyPost_ret (v := .tuple #[stV none 0 0 false, .int .i64 2]) (by simp [results, Tryz.results75, go_sem, SB_0, SB_1]) rfl ?_
  exact ⟨rfl, by go_grown⟩

end
end Go.Proofs.YtcdbjlmegkcaiaaGreatDoor
namespace Go.Proofs.YtcdbjlmegkcaiaaGreatDoor
open Go.RowKit Go.Sort
set_option linter.unusedVariables false
set_option linter.unusedSimpArgs false

section
variable {b : Bool} {A : Option Addr} {n c : Nat} {x : Int} {l : List Int} {w : World}
variable {b2 : Bool} {A2 : Option Addr} {n2 c2 : Nat} {x2 : Int} {l2 : List Int}
set_option maxRecDepth 100000 in
set_option maxHeartbeats 4000000 in
theorem pairOf_any (h : Lv w A n c l) (hn : n ≤ 4096) (h2 : Lv w A2 n2 c2 l2) (hn2 : n2 ≤ 4096) {k k2 : Nat} (hk : IsBits (val 18446744073709551616 l) k) (hk2 : IsBits (val 18446744073709551616 l2) k2) (x0 : -1048576 ≤ x) (x1 : x ≤ 1048576) (y0 : -1048576 ≤ x2) (y1 : x2 ≤ 1048576) (q0 : k ≤ 300000) (q1 : k2 ≤ 300000) (hm : max (x + (k : Int)) (x2 + (k2 : Int)) - min x x2 < 262144) :
    Calls Tryz.prog 54 #[dyV b A n c x, dyV b2 A2 n2 c2 x2] w fun e w' => e = .returned (.agg #[.int .i64 (min x x2), .bool b, .slice A n c, .int .i64 x, .bool b2, .slice A2 n2 c2, .int .i64 x2]) ∧ Below w.heap.size w w' := by
  have PB := Blk.new w [.bool b, .slice A n c, .int .i64 x] 40
  have QB := Blk.new (w.alloc (.cells #[.bool b, .slice A n c, .int .i64 x] 40)) [.bool b2, .slice A2 n2 c2, .int .i64 x2] 40
  simp only [World.size_alloc] at QB
  replace PB := Blk.alloc PB (.cells #[.bool b2, .slice A2 n2 c2, .int .i64 x2] 40)
  have RB := Blk.new ((w.alloc (.cells #[.bool b, .slice A n c, .int .i64 x] 40)).alloc (.cells #[.bool b2, .slice A2 n2 c2, .int .i64 x2] 40)) [.int .i64 0, .bool false, .slice none 0 0, .int .i64 0, .bool false, .slice none 0 0, .int .i64 0] 87
  simp only [World.size_alloc] at RB
  replace PB := Blk.alloc PB (.cells #[.int .i64 0, .bool false, .slice none 0 0, .int .i64 0, .bool false, .slice none 0 0, .int .i64 0] 87)
  replace QB := Blk.alloc QB (.cells #[.int .i64 0, .bool false, .slice none 0 0, .int .i64 0, .bool false, .slice none 0 0, .int .i64 0] 87)
  have bw : Below w.heap.size w (((w.alloc (.cells #[.bool b, .slice A n c, .int .i64 x] 40)).alloc (.cells #[.bool b2, .slice A2 n2 c2, .int .i64 x2] 40)).alloc (.cells #[.int .i64 0, .bool false, .slice none 0 0, .int .i64 0, .bool false, .slice none 0 0, .int .i64 0] 87)) := by go_grown
  have PB_0 := Blk.cell PB 0 rfl
  have PB_1 := Blk.cell PB 1 rfl
  have PB_2 := Blk.cell PB 2 rfl
  have PB_f0 := Blk.free PB 0
  have PB_f1 := Blk.free PB 1
  have PB_f2 := Blk.free PB 2
  have QB_0 := Blk.cell QB 0 rfl
  have QB_1 := Blk.cell QB 1 rfl
  have QB_2 := Blk.cell QB 2 rfl
  have QB_f0 := Blk.free QB 0
  have QB_f1 := Blk.free QB 1
  have QB_f2 := Blk.free QB 2
  have RB_0 := Blk.cell RB 0 rfl
  have RB_1 := Blk.cell RB 1 rfl
  have RB_2 := Blk.cell RB 2 rfl
  have RB_3 := Blk.cell RB 3 rfl
  have RB_4 := Blk.cell RB 4 rfl
  have RB_5 := Blk.cell RB 5 rfl
  have RB_6 := Blk.cell RB 6 rfl
  have RB_f0 := Blk.free RB 0
  have RB_f1 := Blk.free RB 1
  have RB_f2 := Blk.free RB 2
  have RB_f3 := Blk.free RB 3
  have RB_f4 := Blk.free RB 4
  have RB_f5 := Blk.free RB 5
  have RB_f6 := Blk.free RB 6
  have mb : -1048576 ≤ min x x2 ∧ min x x2 ≤ 1048576 ∧ max (x + (k : Int)) (x2 + (k2 : Int)) ≤ 2000000 ∧ -2000000 ≤ max (x + (k : Int)) (x2 + (k2 : Int)) := by omega
  obtain ⟨mb1, mb2, mb3, mb4⟩ := mb
  have hd : decide (262144 ≤ IntKind.i64.wrap (max (x + (k : Int)) (x2 + (k2 : Int)) - min x x2)) = false := by rw [IntWalk.i64_in _ (by omega)]; simp; omega
  go_enter Tryz.func54, Tryz.ntmps54
  go_wp2_with fail
  have cA := fun d os => Calls.regrown_of (d := d) (os := os) (height_any (b := b) (h.on (Below.trans bw ((below_regrown _ d os).mono bw.size))) hn hk x0 x1)
  have cB := fun d os => Calls.regrown_of (d := d) (os := os) (height_any (b := b2) (h2.on (Below.trans bw ((below_regrown _ d os).mono bw.size))) hn2 hk2 y0 y1)
  have PB_r0 := cell_regrown PB_0
  have PB_r1 := cell_regrown PB_1
  have PB_r2 := cell_regrown PB_2
  have QB_r0 := cell_regrown QB_0
  have QB_r1 := cell_regrown QB_1
  have QB_r2 := cell_regrown QB_2
  refine wp_region_quiet_below mixed (by kernel_rfl) ?_
  repeat (quiet_step (first | (with_reducible exact cA _ _) | (with_reducible exact cB _ _)))
  refine wpQuiet_nil ?_
  intro _ hw'
  obtain ⟨⟨dq, osq⟩, hw''⟩ := hw'
  subst hw''
  have hb := below_regrown (((w.alloc (.cells #[.bool b, .slice A n c, .int .i64 x] 40)).alloc (.cells #[.bool b2, .slice A2 n2 c2, .int .i64 x2] 40)).alloc (.cells #[.int .i64 0, .bool false, .slice none 0 0, .int .i64 0, .bool false, .slice none 0 0, .int .i64 0] 87)) dq osq
  clear PB_r0 PB_r1 PB_r2 QB_r0 QB_r1 QB_r2 cA cB
  generalize grow (redrawn (((w.alloc (.cells #[.bool b, .slice A n c, .int .i64 x] 40)).alloc (.cells #[.bool b2, .slice A2 n2 c2, .int .i64 x2] 40)).alloc (.cells #[.int .i64 0, .bool false, .slice none 0 0, .int .i64 0, .bool false, .slice none 0 0, .int .i64 0] 87)) dq) osq = w1 at hb ⊢
  clear PB_0 PB_1 PB_2 PB_f0 PB_f1 PB_f2
  clear QB_0 QB_1 QB_2 QB_f0 QB_f1 QB_f2
  clear RB_0 RB_1 RB_2 RB_3 RB_4 RB_5 RB_6 RB_f0 RB_f1 RB_f2 RB_f3 RB_f4 RB_f5 RB_f6
  replace bw : Below w.heap.size w w1 := dy_end (by go_grown) hb
  replace PB := Blk.on PB hb
  replace QB := Blk.on QB hb
  replace RB := Blk.on RB hb
  have hs := hb.size
  simp only [World.size_alloc] at hs
  clear hb
  have PB_0 := Blk.cell PB 0 rfl
  have PB_1 := Blk.cell PB 1 rfl
  have PB_2 := Blk.cell PB 2 rfl
  have PB_f0 := Blk.free PB 0
  have PB_f1 := Blk.free PB 1
  have PB_f2 := Blk.free PB 2
  have QB_0 := Blk.cell QB 0 rfl
  have QB_1 := Blk.cell QB 1 rfl
  have QB_2 := Blk.cell QB 2 rfl
  have QB_f0 := Blk.free QB 0
  have QB_f1 := Blk.free QB 1
  have QB_f2 := Blk.free QB 2
  have RB_0 := Blk.cell RB 0 rfl
  have RB_1 := Blk.cell RB 1 rfl
  have RB_2 := Blk.cell RB 2 rfl
  have RB_3 := Blk.cell RB 3 rfl
  have RB_4 := Blk.cell RB 4 rfl
  have RB_5 := Blk.cell RB 5 rfl
  have RB_6 := Blk.cell RB 6 rfl
  have RB_f0 := Blk.free RB 0
  have RB_f1 := Blk.free RB 1
  have RB_f2 := Blk.free RB 2
  have RB_f3 := Blk.free RB 3
  have RB_f4 := Blk.free RB 4
  have RB_f5 := Blk.free RB 5
  have RB_f6 := Blk.free RB 6
  go_wp2_with fail
  refine bodyPost_ret (v := (.agg #[.int .i64 (min x x2), .bool b, .slice A n c, .int .i64 x, .bool b2, .slice A2 n2 c2, .int .i64 x2])) (by simp [results, Tryz.results54, go_sem, RB_0, RB_1, RB_2, RB_3, RB_4, RB_5, RB_6]) rfl ?_
  exact ⟨rfl, by go_grown⟩

end
end Go.Proofs.YtcdbjlmegkcaiaaGreatDoor
namespace Go.Proofs.YtcdbjlmegkcaiaaGreatDoor
open Go.RowKit Go.Sort
set_option linter.unusedVariables false
set_option linter.unusedSimpArgs false

section
variable {b : Bool} {A : Option Addr} {n c : Nat} {x : Int} {l : List Int} {w : World}
variable {b2 : Bool} {A2 : Option Addr} {n2 c2 : Nat} {x2 : Int} {l2 : List Int}
theorem bring_any (h : Lv w A n c l) (hn : n ≤ 4096) (nl : Normal l) {p : Int} (hp : p ≤ x) (x0 : -1048576 ≤ p) (x1 : x ≤ 1048576) (hv0 : val 18446744073709551616 l ≠ 0) (hv : val 18446744073709551616 l * 2 ^ (x - p).toNat < 2 ^ 262144) :
    Calls Tryz.prog 72 #[plV p, dyV b A n c x] w (StepV (val 18446744073709551616 l * 2 ^ (x - p).toNat) w) := by
  by_cases e : p = x
  · subst e
    have := bring_eq (b := b) (x := p) h hn nl
    rw [Int.sub_self, Int.toNat_zero, Int.pow_zero, Int.mul_one]
    exact this
  · exact bring_gt h hn (by omega) x0 x1 hv0 hv
theorem num_dn {b : Bool} {l : List Int} {x : Int} {d : Nf} (hd : Dn b l x d) (hl : Lim 18446744073709551616 l) : d.num = if b then -(val 18446744073709551616 l) else val 18446744073709551616 l := by
  unfold Nf.num
  rw [hd.neg, hd.man hl]
section
variable {d d2 : Nf} {p : Int} (hd : Dn b l x d) (hd2 : Dn b2 l2 x2 d2) (hl : Lim 18446744073709551616 l) (hl2 : Lim 18446744073709551616 l2) (hp : p ≤ x) (hp2 : p ≤ x2)
include hd hd2 hl hl2 hp hp2
theorem total_same (hb : b = b2) : nfl b (val 18446744073709551616 l * 2 ^ (x - p).toNat + val 18446744073709551616 l2 * 2 ^ (x2 - p).toNat) p = sumN d d2 := by
  have h := sumN_of (s := d.num) (e := x) (t := d2.num) (f := x2) hp hp2
  have e1 := nf_self hd.2.2.2
  have e2 := nf_self hd2.2.2.2
  rw [hd.exp] at e1
  rw [hd2.exp] at e2
  rw [e1, e2] at h
  rw [← h, num_dn hd hl, num_dn hd2 hl2]
  subst hb
  unfold nfl
  congr 1
  cases b <;> simp <;> grind
theorem total_diff (hb : b ≠ b2) : nfl b (val 18446744073709551616 l * 2 ^ (x - p).toNat - val 18446744073709551616 l2 * 2 ^ (x2 - p).toNat) p = sumN d d2 ∧ nfl b2 (val 18446744073709551616 l2 * 2 ^ (x2 - p).toNat - val 18446744073709551616 l * 2 ^ (x - p).toNat) p = sumN d d2 := by
  have h := sumN_of (s := d.num) (e := x) (t := d2.num) (f := x2) hp hp2
  have e1 := nf_self hd.2.2.2
  have e2 := nf_self hd2.2.2.2
  rw [hd.exp] at e1
  rw [hd2.exp] at e2
  rw [e1, e2] at h
  rw [← h, num_dn hd hl, num_dn hd2 hl2]
  unfold nfl
  cases b <;> cases b2 <;> simp at hb ⊢ <;> (constructor <;> congr 1 <;> grind)
end
set_option maxRecDepth 100000 in
set_option maxHeartbeats 4000000 in
theorem total_s (h : Lv w A n c l) (hn : n ≤ 4096) (nl : Normal l) (h2 : Lv w A2 n2 c2 l2) (hn2 : n2 ≤ 4096) (nl2 : Normal l2) (hT : Tab w) {d : Nf} {p : Int} (hp : p ≤ x) (hp2 : p ≤ x2) (x0 : -1048576 ≤ p) (x1 : x ≤ 1048576) (y1 : x2 ≤ 1048576) (hb : b = b2) (HV : Hid (val 18446744073709551616 l ≠ 0 ∧ val 18446744073709551616 l * 2 ^ (x - p).toNat < 2 ^ 262144 ∧ val 18446744073709551616 l2 ≠ 0 ∧ val 18446744073709551616 l2 * 2 ^ (x2 - p).toNat < 2 ^ 262144 ∧ val 18446744073709551616 l * 2 ^ (x - p).toNat + val 18446744073709551616 l2 * 2 ^ (x2 - p).toNat < 18446744073709551616 ^ 4096)) (HT2 : Hid (nfl b (val 18446744073709551616 l * 2 ^ (x - p).toNat + val 18446744073709551616 l2 * 2 ^ (x2 - p).toNat) p = d)) :
    Calls Tryz.prog 55 #[(.agg #[.int .i64 p, .bool b, .slice A n c, .int .i64 x, .bool b2, .slice A2 n2 c2, .int .i64 x2])] w (DyK d 0 w) := by
  have PB := Blk.new w [.int .i64 p, .bool b, .slice A n c, .int .i64 x, .bool b2, .slice A2 n2 c2, .int .i64 x2] 87
  have DB := Blk.new (w.alloc (.cells #[.int .i64 p, .bool b, .slice A n c, .int .i64 x, .bool b2, .slice A2 n2 c2, .int .i64 x2] 87)) [.bool false, .slice none 0 0, .int .i64 0] 40
  simp only [World.size_alloc] at DB
  replace PB := Blk.alloc PB (.cells #[.bool false, .slice none 0 0, .int .i64 0] 40)
  have bw : Below w.heap.size w ((w.alloc (.cells #[.int .i64 p, .bool b, .slice A n c, .int .i64 x, .bool b2, .slice A2 n2 c2, .int .i64 x2] 87)).alloc (.cells #[.bool false, .slice none 0 0, .int .i64 0] 40)) := by go_grown
  have PB_0 := Blk.cell PB 0 rfl
  have PB_1 := Blk.cell PB 1 rfl
  have PB_2 := Blk.cell PB 2 rfl
  have PB_3 := Blk.cell PB 3 rfl
  have PB_4 := Blk.cell PB 4 rfl
  have PB_5 := Blk.cell PB 5 rfl
  have PB_6 := Blk.cell PB 6 rfl
  have PB_f0 := Blk.free PB 0
  have PB_f1 := Blk.free PB 1
  have PB_f2 := Blk.free PB 2
  have PB_f3 := Blk.free PB 3
  have PB_f4 := Blk.free PB 4
  have PB_f5 := Blk.free PB 5
  have PB_f6 := Blk.free PB 6
  have DB_0 := Blk.cell DB 0 rfl
  have DB_1 := Blk.cell DB 1 rfl
  have DB_2 := Blk.cell DB 2 rfl
  have DB_f0 := Blk.free DB 0
  have DB_f1 := Blk.free DB 1
  have DB_f2 := Blk.free DB 2
  subst hb
  go_enter Tryz.func55, Tryz.ntmps55
  go_wp2_with fail
  with_reducible refine (bring_any (b := b) (x := x) (h.on (by go_grown)) hn nl hp x0 x1 HV.out.1 HV.out.2.1).mono ?_
  rintro e w1 ⟨s1, S1, t1, rfl, ns1, vs1, ks1, ms1, hb⟩
  clear PB_0 PB_1 PB_2 PB_3 PB_4 PB_5 PB_6 PB_f0 PB_f1 PB_f2 PB_f3 PB_f4 PB_f5 PB_f6
  clear DB_0 DB_1 DB_2 DB_f0 DB_f1 DB_f2
  have hs1 := hb.size
  try simp only [World.size_alloc, World.size_setCell] at hs1
  replace bw : Below w.heap.size w w1 := dy_end (by go_grown) hb
  replace PB := Blk.on PB hb
  replace DB := Blk.on DB hb
  clear hb
  have PB_0 := Blk.cell PB 0 rfl
  have PB_1 := Blk.cell PB 1 rfl
  have PB_2 := Blk.cell PB 2 rfl
  have PB_3 := Blk.cell PB 3 rfl
  have PB_4 := Blk.cell PB 4 rfl
  have PB_5 := Blk.cell PB 5 rfl
  have PB_6 := Blk.cell PB 6 rfl
  have PB_f0 := Blk.free PB 0
  have PB_f1 := Blk.free PB 1
  have PB_f2 := Blk.free PB 2
  have PB_f3 := Blk.free PB 3
  have PB_f4 := Blk.free PB 4
  have PB_f5 := Blk.free PB 5
  have PB_f6 := Blk.free PB 6
  have DB_0 := Blk.cell DB 0 rfl
  have DB_1 := Blk.cell DB 1 rfl
  have DB_2 := Blk.cell DB 2 rfl
  have DB_f0 := Blk.free DB 0
  have DB_f1 := Blk.free DB 1
  have DB_f2 := Blk.free DB 2
  replace ms1 := Lv.alloc ms1 (.cells #[.slice S1 s1.length t1, .bool false] 106)
  replace PB := Blk.alloc PB (.cells #[.slice S1 s1.length t1, .bool false] 106)
  replace DB := Blk.alloc DB (.cells #[.slice S1 s1.length t1, .bool false] 106)
  have AB := Blk.new w1 [.slice S1 s1.length t1, .bool false] 106
  have PB_v0_0 := Blk.cell PB 0 rfl
  have PB_v0_1 := Blk.cell PB 1 rfl
  have PB_v0_2 := Blk.cell PB 2 rfl
  have PB_v0_3 := Blk.cell PB 3 rfl
  have PB_v0_4 := Blk.cell PB 4 rfl
  have PB_v0_5 := Blk.cell PB 5 rfl
  have PB_v0_6 := Blk.cell PB 6 rfl
  have PB_v0_f0 := Blk.free PB 0
  have PB_v0_f1 := Blk.free PB 1
  have PB_v0_f2 := Blk.free PB 2
  have PB_v0_f3 := Blk.free PB 3
  have PB_v0_f4 := Blk.free PB 4
  have PB_v0_f5 := Blk.free PB 5
  have PB_v0_f6 := Blk.free PB 6
  have DB_v1_0 := Blk.cell DB 0 rfl
  have DB_v1_1 := Blk.cell DB 1 rfl
  have DB_v1_2 := Blk.cell DB 2 rfl
  have DB_v1_f0 := Blk.free DB 0
  have DB_v1_f1 := Blk.free DB 1
  have DB_v1_f2 := Blk.free DB 2
  have AB_0 := Blk.cell AB 0 rfl
  have AB_1 := Blk.cell AB 1 rfl
  have AB_f0 := Blk.free AB 0
  have AB_f1 := Blk.free AB 1
  go_wp2_with fail
  with_reducible refine (bring_any (b := b) (x := x2) (h2.on (by go_grown)) hn2 nl2 hp2 x0 y1 HV.out.2.2.1 HV.out.2.2.2.1).mono ?_
  rintro e w2 ⟨s2, S2, t2, rfl, ns2, vs2, ks2, ms2, hb⟩
  clear PB_0 PB_1 PB_2 PB_3 PB_4 PB_5 PB_6 PB_f0 PB_f1 PB_f2 PB_f3 PB_f4 PB_f5 PB_f6 PB_v0_0 PB_v0_1 PB_v0_2 PB_v0_3 PB_v0_4 PB_v0_5 PB_v0_6 PB_v0_f0 PB_v0_f1 PB_v0_f2 PB_v0_f3 PB_v0_f4 PB_v0_f5 PB_v0_f6
  clear DB_0 DB_1 DB_2 DB_f0 DB_f1 DB_f2 DB_v1_0 DB_v1_1 DB_v1_2 DB_v1_f0 DB_v1_f1 DB_v1_f2
  clear AB_0 AB_1 AB_f0 AB_f1
  have hs2 := hb.size
  try simp only [World.size_alloc, World.size_setCell] at hs2
  replace bw : Below w.heap.size w w2 := dy_end (by go_grown) hb
  replace ms1 := Lv.on ms1 hb
  replace PB := Blk.on PB hb
  replace DB := Blk.on DB hb
  replace AB := Blk.on AB hb
  clear hb
  have PB_0 := Blk.cell PB 0 rfl
  have PB_1 := Blk.cell PB 1 rfl
  have PB_2 := Blk.cell PB 2 rfl
  have PB_3 := Blk.cell PB 3 rfl
  have PB_4 := Blk.cell PB 4 rfl
  have PB_5 := Blk.cell PB 5 rfl
  have PB_6 := Blk.cell PB 6 rfl
  have PB_f0 := Blk.free PB 0
  have PB_f1 := Blk.free PB 1
  have PB_f2 := Blk.free PB 2
  have PB_f3 := Blk.free PB 3
  have PB_f4 := Blk.free PB 4
  have PB_f5 := Blk.free PB 5
  have PB_f6 := Blk.free PB 6
  have DB_0 := Blk.cell DB 0 rfl
  have DB_1 := Blk.cell DB 1 rfl
  have DB_2 := Blk.cell DB 2 rfl
  have DB_f0 := Blk.free DB 0
  have DB_f1 := Blk.free DB 1
  have DB_f2 := Blk.free DB 2
  have AB_0 := Blk.cell AB 0 rfl
  have AB_1 := Blk.cell AB 1 rfl
  have AB_f0 := Blk.free AB 0
  have AB_f1 := Blk.free AB 1
  replace ms1 := Lv.alloc ms1 (.cells #[.slice S2 s2.length t2, .bool false] 106)
  replace ms2 := Lv.alloc ms2 (.cells #[.slice S2 s2.length t2, .bool false] 106)
  replace PB := Blk.alloc PB (.cells #[.slice S2 s2.length t2, .bool false] 106)
  replace DB := Blk.alloc DB (.cells #[.slice S2 s2.length t2, .bool false] 106)
  replace AB := Blk.alloc AB (.cells #[.slice S2 s2.length t2, .bool false] 106)
  have BB := Blk.new w2 [.slice S2 s2.length t2, .bool false] 106
  have PB_v2_0 := Blk.cell PB 0 rfl
  have PB_v2_1 := Blk.cell PB 1 rfl
  have PB_v2_2 := Blk.cell PB 2 rfl
  have PB_v2_3 := Blk.cell PB 3 rfl
  have PB_v2_4 := Blk.cell PB 4 rfl
  have PB_v2_5 := Blk.cell PB 5 rfl
  have PB_v2_6 := Blk.cell PB 6 rfl
  have PB_v2_f0 := Blk.free PB 0
  have PB_v2_f1 := Blk.free PB 1
  have PB_v2_f2 := Blk.free PB 2
  have PB_v2_f3 := Blk.free PB 3
  have PB_v2_f4 := Blk.free PB 4
  have PB_v2_f5 := Blk.free PB 5
  have PB_v2_f6 := Blk.free PB 6
  have DB_v3_0 := Blk.cell DB 0 rfl
  have DB_v3_1 := Blk.cell DB 1 rfl
  have DB_v3_2 := Blk.cell DB 2 rfl
  have DB_v3_f0 := Blk.free DB 0
  have DB_v3_f1 := Blk.free DB 1
  have DB_v3_f2 := Blk.free DB 2
  have AB_v4_0 := Blk.cell AB 0 rfl
  have AB_v4_1 := Blk.cell AB 1 rfl
  have AB_v4_f0 := Blk.free AB 0
  have AB_v4_f1 := Blk.free AB 1
  have BB_0 := Blk.cell BB 0 rfl
  have BB_1 := Blk.cell BB 1 rfl
  have BB_f0 := Blk.free BB 0
  have BB_f1 := Blk.free BB 1
  go_wp2_with fail
  with_reducible refine (and_any ms1 ks1 ms2 ks2 (by rw [vs1.out, vs2.out]; exact HV.out.2.2.2.2)).mono ?_
  rintro e w3 ⟨s3, S3, t3, rfl, ns3, vs3, ks3, ms3, hb⟩
  clear PB_0 PB_1 PB_2 PB_3 PB_4 PB_5 PB_6 PB_f0 PB_f1 PB_f2 PB_f3 PB_f4 PB_f5 PB_f6 PB_v2_0 PB_v2_1 PB_v2_2 PB_v2_3 PB_v2_4 PB_v2_5 PB_v2_6 PB_v2_f0 PB_v2_f1 PB_v2_f2 PB_v2_f3 PB_v2_f4 PB_v2_f5 PB_v2_f6
  clear DB_0 DB_1 DB_2 DB_f0 DB_f1 DB_f2 DB_v3_0 DB_v3_1 DB_v3_2 DB_v3_f0 DB_v3_f1 DB_v3_f2
  clear AB_0 AB_1 AB_f0 AB_f1 AB_v4_0 AB_v4_1 AB_v4_f0 AB_v4_f1
  clear BB_0 BB_1 BB_f0 BB_f1
  have hs3 := hb.size
  try simp only [World.size_alloc, World.size_setCell] at hs3
  replace bw : Below w.heap.size w w3 := dy_end (by go_grown) hb
  replace ms1 := Lv.on ms1 hb
  replace ms2 := Lv.on ms2 hb
  replace PB := Blk.on PB hb
  replace DB := Blk.on DB hb
  replace AB := Blk.on AB hb
  replace BB := Blk.on BB hb
  clear hb
  have PB_0 := Blk.cell PB 0 rfl
  have PB_1 := Blk.cell PB 1 rfl
  have PB_2 := Blk.cell PB 2 rfl
  have PB_3 := Blk.cell PB 3 rfl
  have PB_4 := Blk.cell PB 4 rfl
  have PB_5 := Blk.cell PB 5 rfl
  have PB_6 := Blk.cell PB 6 rfl
  have PB_f0 := Blk.free PB 0
  have PB_f1 := Blk.free PB 1
  have PB_f2 := Blk.free PB 2
  have PB_f3 := Blk.free PB 3
  have PB_f4 := Blk.free PB 4
  have PB_f5 := Blk.free PB 5
  have PB_f6 := Blk.free PB 6
  have DB_0 := Blk.cell DB 0 rfl
  have DB_1 := Blk.cell DB 1 rfl
  have DB_2 := Blk.cell DB 2 rfl
  have DB_f0 := Blk.free DB 0
  have DB_f1 := Blk.free DB 1
  have DB_f2 := Blk.free DB 2
  have AB_0 := Blk.cell AB 0 rfl
  have AB_1 := Blk.cell AB 1 rfl
  have AB_f0 := Blk.free AB 0
  have AB_f1 := Blk.free AB 1
  have BB_0 := Blk.cell BB 0 rfl
  have BB_1 := Blk.cell BB 1 rfl
  have BB_f0 := Blk.free BB 0
  have BB_f1 := Blk.free BB 1
  replace ms1 := Lv.alloc ms1 (.cells #[.slice S3 s3.length t3, .bool false] 106)
  replace ms2 := Lv.alloc ms2 (.cells #[.slice S3 s3.length t3, .bool false] 106)
  replace ms3 := Lv.alloc ms3 (.cells #[.slice S3 s3.length t3, .bool false] 106)
  replace PB := Blk.alloc PB (.cells #[.slice S3 s3.length t3, .bool false] 106)
  replace DB := Blk.alloc DB (.cells #[.slice S3 s3.length t3, .bool false] 106)
  replace AB := Blk.alloc AB (.cells #[.slice S3 s3.length t3, .bool false] 106)
  replace BB := Blk.alloc BB (.cells #[.slice S3 s3.length t3, .bool false] 106)
  have CB := Blk.new w3 [.slice S3 s3.length t3, .bool false] 106
  have PB_v5_0 := Blk.cell PB 0 rfl
  have PB_v5_1 := Blk.cell PB 1 rfl
  have PB_v5_2 := Blk.cell PB 2 rfl
  have PB_v5_3 := Blk.cell PB 3 rfl
  have PB_v5_4 := Blk.cell PB 4 rfl
  have PB_v5_5 := Blk.cell PB 5 rfl
  have PB_v5_6 := Blk.cell PB 6 rfl
  have PB_v5_f0 := Blk.free PB 0
  have PB_v5_f1 := Blk.free PB 1
  have PB_v5_f2 := Blk.free PB 2
  have PB_v5_f3 := Blk.free PB 3
  have PB_v5_f4 := Blk.free PB 4
  have PB_v5_f5 := Blk.free PB 5
  have PB_v5_f6 := Blk.free PB 6
  have DB_v6_0 := Blk.cell DB 0 rfl
  have DB_v6_1 := Blk.cell DB 1 rfl
  have DB_v6_2 := Blk.cell DB 2 rfl
  have DB_v6_f0 := Blk.free DB 0
  have DB_v6_f1 := Blk.free DB 1
  have DB_v6_f2 := Blk.free DB 2
  have AB_v7_0 := Blk.cell AB 0 rfl
  have AB_v7_1 := Blk.cell AB 1 rfl
  have AB_v7_f0 := Blk.free AB 0
  have AB_v7_f1 := Blk.free AB 1
  have BB_v8_0 := Blk.cell BB 0 rfl
  have BB_v8_1 := Blk.cell BB 1 rfl
  have BB_v8_f0 := Blk.free BB 0
  have BB_v8_f1 := Blk.free BB 1
  have CB_0 := Blk.cell CB 0 rfl
  have CB_1 := Blk.cell CB 1 rfl
  have CB_f0 := Blk.free CB 0
  have CB_f1 := Blk.free CB 1
  go_wp2_with fail
  with_reducible refine (number_any (b := b) (x := p) ms3 ks3 (hT.onD (by go_grown)) x0 (by omega)).mono ?_
  rintro e w4 ⟨b4, q4, A4, c4, x4, rfl, hd4, m4, hb⟩
  clear PB_0 PB_1 PB_2 PB_3 PB_4 PB_5 PB_6 PB_f0 PB_f1 PB_f2 PB_f3 PB_f4 PB_f5 PB_f6 PB_v5_0 PB_v5_1 PB_v5_2 PB_v5_3 PB_v5_4 PB_v5_5 PB_v5_6 PB_v5_f0 PB_v5_f1 PB_v5_f2 PB_v5_f3 PB_v5_f4 PB_v5_f5 PB_v5_f6
  clear DB_0 DB_1 DB_2 DB_f0 DB_f1 DB_f2 DB_v6_0 DB_v6_1 DB_v6_2 DB_v6_f0 DB_v6_f1 DB_v6_f2
  clear AB_0 AB_1 AB_f0 AB_f1 AB_v7_0 AB_v7_1 AB_v7_f0 AB_v7_f1
  clear BB_0 BB_1 BB_f0 BB_f1 BB_v8_0 BB_v8_1 BB_v8_f0 BB_v8_f1
  clear CB_0 CB_1 CB_f0 CB_f1
  have hs4 := hb.size
  try simp only [World.size_alloc, World.size_setCell] at hs4
  replace bw : Below w.heap.size w w4 := dy_end (by go_grown) hb
  replace ms1 := Lv.on ms1 hb
  replace ms2 := Lv.on ms2 hb
  replace ms3 := Lv.on ms3 hb
  replace PB := Blk.on PB hb
  replace DB := Blk.on DB hb
  replace AB := Blk.on AB hb
  replace BB := Blk.on BB hb
  replace CB := Blk.on CB hb
  clear hb
  have PB_0 := Blk.cell PB 0 rfl
  have PB_1 := Blk.cell PB 1 rfl
  have PB_2 := Blk.cell PB 2 rfl
  have PB_3 := Blk.cell PB 3 rfl
  have PB_4 := Blk.cell PB 4 rfl
  have PB_5 := Blk.cell PB 5 rfl
  have PB_6 := Blk.cell PB 6 rfl
  have PB_f0 := Blk.free PB 0
  have PB_f1 := Blk.free PB 1
  have PB_f2 := Blk.free PB 2
  have PB_f3 := Blk.free PB 3
  have PB_f4 := Blk.free PB 4
  have PB_f5 := Blk.free PB 5
  have PB_f6 := Blk.free PB 6
  have DB_0 := Blk.cell DB 0 rfl
  have DB_1 := Blk.cell DB 1 rfl
  have DB_2 := Blk.cell DB 2 rfl
  have DB_f0 := Blk.free DB 0
  have DB_f1 := Blk.free DB 1
  have DB_f2 := Blk.free DB 2
  have AB_0 := Blk.cell AB 0 rfl
  have AB_1 := Blk.cell AB 1 rfl
  have AB_f0 := Blk.free AB 0
  have AB_f1 := Blk.free AB 1
  have BB_0 := Blk.cell BB 0 rfl
  have BB_1 := Blk.cell BB 1 rfl
  have BB_f0 := Blk.free BB 0
  have BB_f1 := Blk.free BB 1
  have CB_0 := Blk.cell CB 0 rfl
  have CB_1 := Blk.cell CB 1 rfl
  have CB_f0 := Blk.free CB 0
  have CB_f1 := Blk.free CB 1
  rw [vs3.out, vs1.out, vs2.out, HT2.out] at hd4
  go_wp2_with fail
  refine bodyPost_ret (v := .tuple #[dyV b4 A4 q4.length c4 x4, .int .i64 0]) (by simp [results, Tryz.results55, go_sem, DB_0, DB_1, DB_2]) rfl ?_
  exact ⟨b4, q4, A4, c4, x4, rfl, hd4, m4.put DB _ _ _ _ _, by go_grown⟩

set_option maxRecDepth 100000 in
set_option maxHeartbeats 4000000 in
theorem total_ge (h : Lv w A n c l) (hn : n ≤ 4096) (nl : Normal l) (h2 : Lv w A2 n2 c2 l2) (hn2 : n2 ≤ 4096) (nl2 : Normal l2) (hT : Tab w) {d : Nf} {p : Int} (hp : p ≤ x) (hp2 : p ≤ x2) (x0 : -1048576 ≤ p) (x1 : x ≤ 1048576) (y1 : x2 ≤ 1048576) (hb : b ≠ b2) (HV : Hid (val 18446744073709551616 l ≠ 0 ∧ val 18446744073709551616 l * 2 ^ (x - p).toNat < 2 ^ 262144 ∧ val 18446744073709551616 l2 ≠ 0 ∧ val 18446744073709551616 l2 * 2 ^ (x2 - p).toNat < 2 ^ 262144 ∧ val 18446744073709551616 l2 * 2 ^ (x2 - p).toNat ≤ val 18446744073709551616 l * 2 ^ (x - p).toNat)) (HT2 : Hid (nfl b (val 18446744073709551616 l * 2 ^ (x - p).toNat - val 18446744073709551616 l2 * 2 ^ (x2 - p).toNat) p = d)) :
    Calls Tryz.prog 55 #[(.agg #[.int .i64 p, .bool b, .slice A n c, .int .i64 x, .bool b2, .slice A2 n2 c2, .int .i64 x2])] w (DyK d 0 w) := by
  have PB := Blk.new w [.int .i64 p, .bool b, .slice A n c, .int .i64 x, .bool b2, .slice A2 n2 c2, .int .i64 x2] 87
  have DB := Blk.new (w.alloc (.cells #[.int .i64 p, .bool b, .slice A n c, .int .i64 x, .bool b2, .slice A2 n2 c2, .int .i64 x2] 87)) [.bool false, .slice none 0 0, .int .i64 0] 40
  simp only [World.size_alloc] at DB
  replace PB := Blk.alloc PB (.cells #[.bool false, .slice none 0 0, .int .i64 0] 40)
  have bw : Below w.heap.size w ((w.alloc (.cells #[.int .i64 p, .bool b, .slice A n c, .int .i64 x, .bool b2, .slice A2 n2 c2, .int .i64 x2] 87)).alloc (.cells #[.bool false, .slice none 0 0, .int .i64 0] 40)) := by go_grown
  have PB_0 := Blk.cell PB 0 rfl
  have PB_1 := Blk.cell PB 1 rfl
  have PB_2 := Blk.cell PB 2 rfl
  have PB_3 := Blk.cell PB 3 rfl
  have PB_4 := Blk.cell PB 4 rfl
  have PB_5 := Blk.cell PB 5 rfl
  have PB_6 := Blk.cell PB 6 rfl
  have PB_f0 := Blk.free PB 0
  have PB_f1 := Blk.free PB 1
  have PB_f2 := Blk.free PB 2
  have PB_f3 := Blk.free PB 3
  have PB_f4 := Blk.free PB 4
  have PB_f5 := Blk.free PB 5
  have PB_f6 := Blk.free PB 6
  have DB_0 := Blk.cell DB 0 rfl
  have DB_1 := Blk.cell DB 1 rfl
  have DB_2 := Blk.cell DB 2 rfl
  have DB_f0 := Blk.free DB 0
  have DB_f1 := Blk.free DB 1
  have DB_f2 := Blk.free DB 2
  have hbb : (b == b2) = false := beq_eq_false_iff_ne.2 hb
  go_enter Tryz.func55, Tryz.ntmps55
  go_wp2_with fail
  with_reducible refine (bring_any (b := b) (x := x) (h.on (by go_grown)) hn nl hp x0 x1 HV.out.1 HV.out.2.1).mono ?_
  rintro e w1 ⟨s1, S1, t1, rfl, ns1, vs1, ks1, ms1, hb⟩
  clear PB_0 PB_1 PB_2 PB_3 PB_4 PB_5 PB_6 PB_f0 PB_f1 PB_f2 PB_f3 PB_f4 PB_f5 PB_f6
  clear DB_0 DB_1 DB_2 DB_f0 DB_f1 DB_f2
  have hs1 := hb.size
  try simp only [World.size_alloc, World.size_setCell] at hs1
  replace bw : Below w.heap.size w w1 := dy_end (by go_grown) hb
  replace PB := Blk.on PB hb
  replace DB := Blk.on DB hb
  clear hb
  have PB_0 := Blk.cell PB 0 rfl
  have PB_1 := Blk.cell PB 1 rfl
  have PB_2 := Blk.cell PB 2 rfl
  have PB_3 := Blk.cell PB 3 rfl
  have PB_4 := Blk.cell PB 4 rfl
  have PB_5 := Blk.cell PB 5 rfl
  have PB_6 := Blk.cell PB 6 rfl
  have PB_f0 := Blk.free PB 0
  have PB_f1 := Blk.free PB 1
  have PB_f2 := Blk.free PB 2
  have PB_f3 := Blk.free PB 3
  have PB_f4 := Blk.free PB 4
  have PB_f5 := Blk.free PB 5
  have PB_f6 := Blk.free PB 6
  have DB_0 := Blk.cell DB 0 rfl
  have DB_1 := Blk.cell DB 1 rfl
  have DB_2 := Blk.cell DB 2 rfl
  have DB_f0 := Blk.free DB 0
  have DB_f1 := Blk.free DB 1
  have DB_f2 := Blk.free DB 2
  replace ms1 := Lv.alloc ms1 (.cells #[.slice S1 s1.length t1, .bool false] 106)
  replace PB := Blk.alloc PB (.cells #[.slice S1 s1.length t1, .bool false] 106)
  replace DB := Blk.alloc DB (.cells #[.slice S1 s1.length t1, .bool false] 106)
  have AB := Blk.new w1 [.slice S1 s1.length t1, .bool false] 106
  have PB_v0_0 := Blk.cell PB 0 rfl
  have PB_v0_1 := Blk.cell PB 1 rfl
  have PB_v0_2 := Blk.cell PB 2 rfl
  have PB_v0_3 := Blk.cell PB 3 rfl
  have PB_v0_4 := Blk.cell PB 4 rfl
  have PB_v0_5 := Blk.cell PB 5 rfl
  have PB_v0_6 := Blk.cell PB 6 rfl
  have PB_v0_f0 := Blk.free PB 0
  have PB_v0_f1 := Blk.free PB 1
  have PB_v0_f2 := Blk.free PB 2
  have PB_v0_f3 := Blk.free PB 3
  have PB_v0_f4 := Blk.free PB 4
  have PB_v0_f5 := Blk.free PB 5
  have PB_v0_f6 := Blk.free PB 6
  have DB_v1_0 := Blk.cell DB 0 rfl
  have DB_v1_1 := Blk.cell DB 1 rfl
  have DB_v1_2 := Blk.cell DB 2 rfl
  have DB_v1_f0 := Blk.free DB 0
  have DB_v1_f1 := Blk.free DB 1
  have DB_v1_f2 := Blk.free DB 2
  have AB_0 := Blk.cell AB 0 rfl
  have AB_1 := Blk.cell AB 1 rfl
  have AB_f0 := Blk.free AB 0
  have AB_f1 := Blk.free AB 1
  go_wp2_with fail
  with_reducible refine (bring_any (b := b2) (x := x2) (h2.on (by go_grown)) hn2 nl2 hp2 x0 y1 HV.out.2.2.1 HV.out.2.2.2.1).mono ?_
  rintro e w2 ⟨s2, S2, t2, rfl, ns2, vs2, ks2, ms2, hb⟩
  clear PB_0 PB_1 PB_2 PB_3 PB_4 PB_5 PB_6 PB_f0 PB_f1 PB_f2 PB_f3 PB_f4 PB_f5 PB_f6 PB_v0_0 PB_v0_1 PB_v0_2 PB_v0_3 PB_v0_4 PB_v0_5 PB_v0_6 PB_v0_f0 PB_v0_f1 PB_v0_f2 PB_v0_f3 PB_v0_f4 PB_v0_f5 PB_v0_f6
  clear DB_0 DB_1 DB_2 DB_f0 DB_f1 DB_f2 DB_v1_0 DB_v1_1 DB_v1_2 DB_v1_f0 DB_v1_f1 DB_v1_f2
  clear AB_0 AB_1 AB_f0 AB_f1
  have hs2 := hb.size
  try simp only [World.size_alloc, World.size_setCell] at hs2
  replace bw : Below w.heap.size w w2 := dy_end (by go_grown) hb
  replace ms1 := Lv.on ms1 hb
  replace PB := Blk.on PB hb
  replace DB := Blk.on DB hb
  replace AB := Blk.on AB hb
  clear hb
  have PB_0 := Blk.cell PB 0 rfl
  have PB_1 := Blk.cell PB 1 rfl
  have PB_2 := Blk.cell PB 2 rfl
  have PB_3 := Blk.cell PB 3 rfl
  have PB_4 := Blk.cell PB 4 rfl
  have PB_5 := Blk.cell PB 5 rfl
  have PB_6 := Blk.cell PB 6 rfl
  have PB_f0 := Blk.free PB 0
  have PB_f1 := Blk.free PB 1
  have PB_f2 := Blk.free PB 2
  have PB_f3 := Blk.free PB 3
  have PB_f4 := Blk.free PB 4
  have PB_f5 := Blk.free PB 5
  have PB_f6 := Blk.free PB 6
  have DB_0 := Blk.cell DB 0 rfl
  have DB_1 := Blk.cell DB 1 rfl
  have DB_2 := Blk.cell DB 2 rfl
  have DB_f0 := Blk.free DB 0
  have DB_f1 := Blk.free DB 1
  have DB_f2 := Blk.free DB 2
  have AB_0 := Blk.cell AB 0 rfl
  have AB_1 := Blk.cell AB 1 rfl
  have AB_f0 := Blk.free AB 0
  have AB_f1 := Blk.free AB 1
  replace ms1 := Lv.alloc ms1 (.cells #[.slice S2 s2.length t2, .bool false] 106)
  replace ms2 := Lv.alloc ms2 (.cells #[.slice S2 s2.length t2, .bool false] 106)
  replace PB := Blk.alloc PB (.cells #[.slice S2 s2.length t2, .bool false] 106)
  replace DB := Blk.alloc DB (.cells #[.slice S2 s2.length t2, .bool false] 106)
  replace AB := Blk.alloc AB (.cells #[.slice S2 s2.length t2, .bool false] 106)
  have BB := Blk.new w2 [.slice S2 s2.length t2, .bool false] 106
  have PB_v2_0 := Blk.cell PB 0 rfl
  have PB_v2_1 := Blk.cell PB 1 rfl
  have PB_v2_2 := Blk.cell PB 2 rfl
  have PB_v2_3 := Blk.cell PB 3 rfl
  have PB_v2_4 := Blk.cell PB 4 rfl
  have PB_v2_5 := Blk.cell PB 5 rfl
  have PB_v2_6 := Blk.cell PB 6 rfl
  have PB_v2_f0 := Blk.free PB 0
  have PB_v2_f1 := Blk.free PB 1
  have PB_v2_f2 := Blk.free PB 2
  have PB_v2_f3 := Blk.free PB 3
  have PB_v2_f4 := Blk.free PB 4
  have PB_v2_f5 := Blk.free PB 5
  have PB_v2_f6 := Blk.free PB 6
  have DB_v3_0 := Blk.cell DB 0 rfl
  have DB_v3_1 := Blk.cell DB 1 rfl
  have DB_v3_2 := Blk.cell DB 2 rfl
  have DB_v3_f0 := Blk.free DB 0
  have DB_v3_f1 := Blk.free DB 1
  have DB_v3_f2 := Blk.free DB 2
  have AB_v4_0 := Blk.cell AB 0 rfl
  have AB_v4_1 := Blk.cell AB 1 rfl
  have AB_v4_f0 := Blk.free AB 0
  have AB_v4_f1 := Blk.free AB 1
  have BB_0 := Blk.cell BB 0 rfl
  have BB_1 := Blk.cell BB 1 rfl
  have BB_f0 := Blk.free BB 0
  have BB_f1 := Blk.free BB 1
  go_wp2_with fail
  with_reducible refine (less_yes ms1 ks1 ms2 ks2 (by rw [vs1.out, vs2.out]; exact HV.out.2.2.2.2)).mono ?_
  rintro e w3 ⟨s3, S3, t3, rfl, ns3, vs3, ks3, ms3, hb⟩
  clear PB_0 PB_1 PB_2 PB_3 PB_4 PB_5 PB_6 PB_f0 PB_f1 PB_f2 PB_f3 PB_f4 PB_f5 PB_f6 PB_v2_0 PB_v2_1 PB_v2_2 PB_v2_3 PB_v2_4 PB_v2_5 PB_v2_6 PB_v2_f0 PB_v2_f1 PB_v2_f2 PB_v2_f3 PB_v2_f4 PB_v2_f5 PB_v2_f6
  clear DB_0 DB_1 DB_2 DB_f0 DB_f1 DB_f2 DB_v3_0 DB_v3_1 DB_v3_2 DB_v3_f0 DB_v3_f1 DB_v3_f2
  clear AB_0 AB_1 AB_f0 AB_f1 AB_v4_0 AB_v4_1 AB_v4_f0 AB_v4_f1
  clear BB_0 BB_1 BB_f0 BB_f1
  have hs3 := hb.size
  try simp only [World.size_alloc, World.size_setCell] at hs3
  replace bw : Below w.heap.size w w3 := dy_end (by go_grown) hb
  replace ms1 := Lv.on ms1 hb
  replace ms2 := Lv.on ms2 hb
  replace PB := Blk.on PB hb
  replace DB := Blk.on DB hb
  replace AB := Blk.on AB hb
  replace BB := Blk.on BB hb
  clear hb
  have PB_0 := Blk.cell PB 0 rfl
  have PB_1 := Blk.cell PB 1 rfl
  have PB_2 := Blk.cell PB 2 rfl
  have PB_3 := Blk.cell PB 3 rfl
  have PB_4 := Blk.cell PB 4 rfl
  have PB_5 := Blk.cell PB 5 rfl
  have PB_6 := Blk.cell PB 6 rfl
  have PB_f0 := Blk.free PB 0
  have PB_f1 := Blk.free PB 1
  have PB_f2 := Blk.free PB 2
  have PB_f3 := Blk.free PB 3
  have PB_f4 := Blk.free PB 4
  have PB_f5 := Blk.free PB 5
  have PB_f6 := Blk.free PB 6
  have DB_0 := Blk.cell DB 0 rfl
  have DB_1 := Blk.cell DB 1 rfl
  have DB_2 := Blk.cell DB 2 rfl
  have DB_f0 := Blk.free DB 0
  have DB_f1 := Blk.free DB 1
  have DB_f2 := Blk.free DB 2
  have AB_0 := Blk.cell AB 0 rfl
  have AB_1 := Blk.cell AB 1 rfl
  have AB_f0 := Blk.free AB 0
  have AB_f1 := Blk.free AB 1
  have BB_0 := Blk.cell BB 0 rfl
  have BB_1 := Blk.cell BB 1 rfl
  have BB_f0 := Blk.free BB 0
  have BB_f1 := Blk.free BB 1
  replace ms1 := Lv.alloc ms1 (.cells #[.slice S3 s3.length t3, .bool false] 106)
  replace ms2 := Lv.alloc ms2 (.cells #[.slice S3 s3.length t3, .bool false] 106)
  replace ms3 := Lv.alloc ms3 (.cells #[.slice S3 s3.length t3, .bool false] 106)
  replace PB := Blk.alloc PB (.cells #[.slice S3 s3.length t3, .bool false] 106)
  replace DB := Blk.alloc DB (.cells #[.slice S3 s3.length t3, .bool false] 106)
  replace AB := Blk.alloc AB (.cells #[.slice S3 s3.length t3, .bool false] 106)
  replace BB := Blk.alloc BB (.cells #[.slice S3 s3.length t3, .bool false] 106)
  have CB := Blk.new w3 [.slice S3 s3.length t3, .bool false] 106
  have PB_v5_0 := Blk.cell PB 0 rfl
  have PB_v5_1 := Blk.cell PB 1 rfl
  have PB_v5_2 := Blk.cell PB 2 rfl
  have PB_v5_3 := Blk.cell PB 3 rfl
  have PB_v5_4 := Blk.cell PB 4 rfl
  have PB_v5_5 := Blk.cell PB 5 rfl
  have PB_v5_6 := Blk.cell PB 6 rfl
  have PB_v5_f0 := Blk.free PB 0
  have PB_v5_f1 := Blk.free PB 1
  have PB_v5_f2 := Blk.free PB 2
  have PB_v5_f3 := Blk.free PB 3
  have PB_v5_f4 := Blk.free PB 4
  have PB_v5_f5 := Blk.free PB 5
  have PB_v5_f6 := Blk.free PB 6
  have DB_v6_0 := Blk.cell DB 0 rfl
  have DB_v6_1 := Blk.cell DB 1 rfl
  have DB_v6_2 := Blk.cell DB 2 rfl
  have DB_v6_f0 := Blk.free DB 0
  have DB_v6_f1 := Blk.free DB 1
  have DB_v6_f2 := Blk.free DB 2
  have AB_v7_0 := Blk.cell AB 0 rfl
  have AB_v7_1 := Blk.cell AB 1 rfl
  have AB_v7_f0 := Blk.free AB 0
  have AB_v7_f1 := Blk.free AB 1
  have BB_v8_0 := Blk.cell BB 0 rfl
  have BB_v8_1 := Blk.cell BB 1 rfl
  have BB_v8_f0 := Blk.free BB 0
  have BB_v8_f1 := Blk.free BB 1
  have CB_0 := Blk.cell CB 0 rfl
  have CB_1 := Blk.cell CB 1 rfl
  have CB_f0 := Blk.free CB 0
  have CB_f1 := Blk.free CB 1
  go_wp2_with fail
  with_reducible refine (number_any (b := b) (x := p) ms3 ks3 (hT.onD (by go_grown)) x0 (by omega)).mono ?_
  rintro e w4 ⟨b4, q4, A4, c4, x4, rfl, hd4, m4, hb⟩
  clear PB_0 PB_1 PB_2 PB_3 PB_4 PB_5 PB_6 PB_f0 PB_f1 PB_f2 PB_f3 PB_f4 PB_f5 PB_f6 PB_v5_0 PB_v5_1 PB_v5_2 PB_v5_3 PB_v5_4 PB_v5_5 PB_v5_6 PB_v5_f0 PB_v5_f1 PB_v5_f2 PB_v5_f3 PB_v5_f4 PB_v5_f5 PB_v5_f6
  clear DB_0 DB_1 DB_2 DB_f0 DB_f1 DB_f2 DB_v6_0 DB_v6_1 DB_v6_2 DB_v6_f0 DB_v6_f1 DB_v6_f2
  clear AB_0 AB_1 AB_f0 AB_f1 AB_v7_0 AB_v7_1 AB_v7_f0 AB_v7_f1
  clear BB_0 BB_1 BB_f0 BB_f1 BB_v8_0 BB_v8_1 BB_v8_f0 BB_v8_f1
  clear CB_0 CB_1 CB_f0 CB_f1
  have hs4 := hb.size
  try simp only [World.size_alloc, World.size_setCell] at hs4
  replace bw : Below w.heap.size w w4 := dy_end (by go_grown) hb
  replace ms1 := Lv.on ms1 hb
  replace ms2 := Lv.on ms2 hb
  replace ms3 := Lv.on ms3 hb
  replace PB := Blk.on PB hb
  replace DB := Blk.on DB hb
  replace AB := Blk.on AB hb
  replace BB := Blk.on BB hb
  replace CB := Blk.on CB hb
  clear hb
  have PB_0 := Blk.cell PB 0 rfl
  have PB_1 := Blk.cell PB 1 rfl
  have PB_2 := Blk.cell PB 2 rfl
  have PB_3 := Blk.cell PB 3 rfl
  have PB_4 := Blk.cell PB 4 rfl
  have PB_5 := Blk.cell PB 5 rfl
  have PB_6 := Blk.cell PB 6 rfl
  have PB_f0 := Blk.free PB 0
  have PB_f1 := Blk.free PB 1
  have PB_f2 := Blk.free PB 2
  have PB_f3 := Blk.free PB 3
  have PB_f4 := Blk.free PB 4
  have PB_f5 := Blk.free PB 5
  have PB_f6 := Blk.free PB 6
  have DB_0 := Blk.cell DB 0 rfl
  have DB_1 := Blk.cell DB 1 rfl
  have DB_2 := Blk.cell DB 2 rfl
  have DB_f0 := Blk.free DB 0
  have DB_f1 := Blk.free DB 1
  have DB_f2 := Blk.free DB 2
  have AB_0 := Blk.cell AB 0 rfl
  have AB_1 := Blk.cell AB 1 rfl
  have AB_f0 := Blk.free AB 0
  have AB_f1 := Blk.free AB 1
  have BB_0 := Blk.cell BB 0 rfl
  have BB_1 := Blk.cell BB 1 rfl
  have BB_f0 := Blk.free BB 0
  have BB_f1 := Blk.free BB 1
  have CB_0 := Blk.cell CB 0 rfl
  have CB_1 := Blk.cell CB 1 rfl
  have CB_f0 := Blk.free CB 0
  have CB_f1 := Blk.free CB 1
  rw [vs3.out, vs1.out, vs2.out, HT2.out] at hd4
  go_wp2_with fail
  refine bodyPost_ret (v := .tuple #[dyV b4 A4 q4.length c4 x4, .int .i64 0]) (by simp [results, Tryz.results55, go_sem, DB_0, DB_1, DB_2]) rfl ?_
  exact ⟨b4, q4, A4, c4, x4, rfl, hd4, m4.put DB _ _ _ _ _, by go_grown⟩

set_option maxRecDepth 100000 in
set_option maxHeartbeats 4000000 in
theorem total_lt (h : Lv w A n c l) (hn : n ≤ 4096) (nl : Normal l) (h2 : Lv w A2 n2 c2 l2) (hn2 : n2 ≤ 4096) (nl2 : Normal l2) (hT : Tab w) {d : Nf} {p : Int} (hp : p ≤ x) (hp2 : p ≤ x2) (x0 : -1048576 ≤ p) (x1 : x ≤ 1048576) (y1 : x2 ≤ 1048576) (hb : b ≠ b2) (HV : Hid (val 18446744073709551616 l ≠ 0 ∧ val 18446744073709551616 l * 2 ^ (x - p).toNat < 2 ^ 262144 ∧ val 18446744073709551616 l2 ≠ 0 ∧ val 18446744073709551616 l2 * 2 ^ (x2 - p).toNat < 2 ^ 262144 ∧ val 18446744073709551616 l * 2 ^ (x - p).toNat < val 18446744073709551616 l2 * 2 ^ (x2 - p).toNat)) (HT2 : Hid (nfl b2 (val 18446744073709551616 l2 * 2 ^ (x2 - p).toNat - val 18446744073709551616 l * 2 ^ (x - p).toNat) p = d)) :
    Calls Tryz.prog 55 #[(.agg #[.int .i64 p, .bool b, .slice A n c, .int .i64 x, .bool b2, .slice A2 n2 c2, .int .i64 x2])] w (DyK d 0 w) := by
  have PB := Blk.new w [.int .i64 p, .bool b, .slice A n c, .int .i64 x, .bool b2, .slice A2 n2 c2, .int .i64 x2] 87
  have DB := Blk.new (w.alloc (.cells #[.int .i64 p, .bool b, .slice A n c, .int .i64 x, .bool b2, .slice A2 n2 c2, .int .i64 x2] 87)) [.bool false, .slice none 0 0, .int .i64 0] 40
  simp only [World.size_alloc] at DB
  replace PB := Blk.alloc PB (.cells #[.bool false, .slice none 0 0, .int .i64 0] 40)
  have bw : Below w.heap.size w ((w.alloc (.cells #[.int .i64 p, .bool b, .slice A n c, .int .i64 x, .bool b2, .slice A2 n2 c2, .int .i64 x2] 87)).alloc (.cells #[.bool false, .slice none 0 0, .int .i64 0] 40)) := by go_grown
  have PB_0 := Blk.cell PB 0 rfl
  have PB_1 := Blk.cell PB 1 rfl
  have PB_2 := Blk.cell PB 2 rfl
  have PB_3 := Blk.cell PB 3 rfl
  have PB_4 := Blk.cell PB 4 rfl
  have PB_5 := Blk.cell PB 5 rfl
  have PB_6 := Blk.cell PB 6 rfl
  have PB_f0 := Blk.free PB 0
  have PB_f1 := Blk.free PB 1
  have PB_f2 := Blk.free PB 2
  have PB_f3 := Blk.free PB 3
  have PB_f4 := Blk.free PB 4
  have PB_f5 := Blk.free PB 5
  have PB_f6 := Blk.free PB 6
  have DB_0 := Blk.cell DB 0 rfl
  have DB_1 := Blk.cell DB 1 rfl
  have DB_2 := Blk.cell DB 2 rfl
  have DB_f0 := Blk.free DB 0
  have DB_f1 := Blk.free DB 1
  have DB_f2 := Blk.free DB 2
  have hbb : (b == b2) = false := beq_eq_false_iff_ne.2 hb
  go_enter Tryz.func55, Tryz.ntmps55
  go_wp2_with fail
  with_reducible refine (bring_any (b := b) (x := x) (h.on (by go_grown)) hn nl hp x0 x1 HV.out.1 HV.out.2.1).mono ?_
  rintro e w1 ⟨s1, S1, t1, rfl, ns1, vs1, ks1, ms1, hb⟩
  clear PB_0 PB_1 PB_2 PB_3 PB_4 PB_5 PB_6 PB_f0 PB_f1 PB_f2 PB_f3 PB_f4 PB_f5 PB_f6
  clear DB_0 DB_1 DB_2 DB_f0 DB_f1 DB_f2
  have hs1 := hb.size
  try simp only [World.size_alloc, World.size_setCell] at hs1
  replace bw : Below w.heap.size w w1 := dy_end (by go_grown) hb
  replace PB := Blk.on PB hb
  replace DB := Blk.on DB hb
  clear hb
  have PB_0 := Blk.cell PB 0 rfl
  have PB_1 := Blk.cell PB 1 rfl
  have PB_2 := Blk.cell PB 2 rfl
  have PB_3 := Blk.cell PB 3 rfl
  have PB_4 := Blk.cell PB 4 rfl
  have PB_5 := Blk.cell PB 5 rfl
  have PB_6 := Blk.cell PB 6 rfl
  have PB_f0 := Blk.free PB 0
  have PB_f1 := Blk.free PB 1
  have PB_f2 := Blk.free PB 2
  have PB_f3 := Blk.free PB 3
  have PB_f4 := Blk.free PB 4
  have PB_f5 := Blk.free PB 5
  have PB_f6 := Blk.free PB 6
  have DB_0 := Blk.cell DB 0 rfl
  have DB_1 := Blk.cell DB 1 rfl
  have DB_2 := Blk.cell DB 2 rfl
  have DB_f0 := Blk.free DB 0
  have DB_f1 := Blk.free DB 1
  have DB_f2 := Blk.free DB 2
  replace ms1 := Lv.alloc ms1 (.cells #[.slice S1 s1.length t1, .bool false] 106)
  replace PB := Blk.alloc PB (.cells #[.slice S1 s1.length t1, .bool false] 106)
  replace DB := Blk.alloc DB (.cells #[.slice S1 s1.length t1, .bool false] 106)
  have AB := Blk.new w1 [.slice S1 s1.length t1, .bool false] 106
  have PB_v0_0 := Blk.cell PB 0 rfl
  have PB_v0_1 := Blk.cell PB 1 rfl
  have PB_v0_2 := Blk.cell PB 2 rfl
  have PB_v0_3 := Blk.cell PB 3 rfl
  have PB_v0_4 := Blk.cell PB 4 rfl
  have PB_v0_5 := Blk.cell PB 5 rfl
  have PB_v0_6 := Blk.cell PB 6 rfl
  have PB_v0_f0 := Blk.free PB 0
  have PB_v0_f1 := Blk.free PB 1
  have PB_v0_f2 := Blk.free PB 2
  have PB_v0_f3 := Blk.free PB 3
  have PB_v0_f4 := Blk.free PB 4
  have PB_v0_f5 := Blk.free PB 5
  have PB_v0_f6 := Blk.free PB 6
  have DB_v1_0 := Blk.cell DB 0 rfl
  have DB_v1_1 := Blk.cell DB 1 rfl
  have DB_v1_2 := Blk.cell DB 2 rfl
  have DB_v1_f0 := Blk.free DB 0
  have DB_v1_f1 := Blk.free DB 1
  have DB_v1_f2 := Blk.free DB 2
  have AB_0 := Blk.cell AB 0 rfl
  have AB_1 := Blk.cell AB 1 rfl
  have AB_f0 := Blk.free AB 0
  have AB_f1 := Blk.free AB 1
  go_wp2_with fail
  with_reducible refine (bring_any (b := b2) (x := x2) (h2.on (by go_grown)) hn2 nl2 hp2 x0 y1 HV.out.2.2.1 HV.out.2.2.2.1).mono ?_
  rintro e w2 ⟨s2, S2, t2, rfl, ns2, vs2, ks2, ms2, hb⟩
  clear PB_0 PB_1 PB_2 PB_3 PB_4 PB_5 PB_6 PB_f0 PB_f1 PB_f2 PB_f3 PB_f4 PB_f5 PB_f6 PB_v0_0 PB_v0_1 PB_v0_2 PB_v0_3 PB_v0_4 PB_v0_5 PB_v0_6 PB_v0_f0 PB_v0_f1 PB_v0_f2 PB_v0_f3 PB_v0_f4 PB_v0_f5 PB_v0_f6
  clear DB_0 DB_1 DB_2 DB_f0 DB_f1 DB_f2 DB_v1_0 DB_v1_1 DB_v1_2 DB_v1_f0 DB_v1_f1 DB_v1_f2
  clear AB_0 AB_1 AB_f0 AB_f1
  have hs2 := hb.size
  try simp only [World.size_alloc, World.size_setCell] at hs2
  replace bw : Below w.heap.size w w2 := dy_end (by go_grown) hb
  replace ms1 := Lv.on ms1 hb
  replace PB := Blk.on PB hb
  replace DB := Blk.on DB hb
  replace AB := Blk.on AB hb
  clear hb
  have PB_0 := Blk.cell PB 0 rfl
  have PB_1 := Blk.cell PB 1 rfl
  have PB_2 := Blk.cell PB 2 rfl
  have PB_3 := Blk.cell PB 3 rfl
  have PB_4 := Blk.cell PB 4 rfl
  have PB_5 := Blk.cell PB 5 rfl
  have PB_6 := Blk.cell PB 6 rfl
  have PB_f0 := Blk.free PB 0
  have PB_f1 := Blk.free PB 1
  have PB_f2 := Blk.free PB 2
  have PB_f3 := Blk.free PB 3
  have PB_f4 := Blk.free PB 4
  have PB_f5 := Blk.free PB 5
  have PB_f6 := Blk.free PB 6
  have DB_0 := Blk.cell DB 0 rfl
  have DB_1 := Blk.cell DB 1 rfl
  have DB_2 := Blk.cell DB 2 rfl
  have DB_f0 := Blk.free DB 0
  have DB_f1 := Blk.free DB 1
  have DB_f2 := Blk.free DB 2
  have AB_0 := Blk.cell AB 0 rfl
  have AB_1 := Blk.cell AB 1 rfl
  have AB_f0 := Blk.free AB 0
  have AB_f1 := Blk.free AB 1
  replace ms1 := Lv.alloc ms1 (.cells #[.slice S2 s2.length t2, .bool false] 106)
  replace ms2 := Lv.alloc ms2 (.cells #[.slice S2 s2.length t2, .bool false] 106)
  replace PB := Blk.alloc PB (.cells #[.slice S2 s2.length t2, .bool false] 106)
  replace DB := Blk.alloc DB (.cells #[.slice S2 s2.length t2, .bool false] 106)
  replace AB := Blk.alloc AB (.cells #[.slice S2 s2.length t2, .bool false] 106)
  have BB := Blk.new w2 [.slice S2 s2.length t2, .bool false] 106
  have PB_v2_0 := Blk.cell PB 0 rfl
  have PB_v2_1 := Blk.cell PB 1 rfl
  have PB_v2_2 := Blk.cell PB 2 rfl
  have PB_v2_3 := Blk.cell PB 3 rfl
  have PB_v2_4 := Blk.cell PB 4 rfl
  have PB_v2_5 := Blk.cell PB 5 rfl
  have PB_v2_6 := Blk.cell PB 6 rfl
  have PB_v2_f0 := Blk.free PB 0
  have PB_v2_f1 := Blk.free PB 1
  have PB_v2_f2 := Blk.free PB 2
  have PB_v2_f3 := Blk.free PB 3
  have PB_v2_f4 := Blk.free PB 4
  have PB_v2_f5 := Blk.free PB 5
  have PB_v2_f6 := Blk.free PB 6
  have DB_v3_0 := Blk.cell DB 0 rfl
  have DB_v3_1 := Blk.cell DB 1 rfl
  have DB_v3_2 := Blk.cell DB 2 rfl
  have DB_v3_f0 := Blk.free DB 0
  have DB_v3_f1 := Blk.free DB 1
  have DB_v3_f2 := Blk.free DB 2
  have AB_v4_0 := Blk.cell AB 0 rfl
  have AB_v4_1 := Blk.cell AB 1 rfl
  have AB_v4_f0 := Blk.free AB 0
  have AB_v4_f1 := Blk.free AB 1
  have BB_0 := Blk.cell BB 0 rfl
  have BB_1 := Blk.cell BB 1 rfl
  have BB_f0 := Blk.free BB 0
  have BB_f1 := Blk.free BB 1
  go_wp2_with fail
  with_reducible refine (less_no ms1 ks1 ms2 ks2 (by rw [vs1.out, vs2.out]; exact HV.out.2.2.2.2)).mono ?_
  rintro e w3 ⟨rfl, hb⟩
  clear PB_0 PB_1 PB_2 PB_3 PB_4 PB_5 PB_6 PB_f0 PB_f1 PB_f2 PB_f3 PB_f4 PB_f5 PB_f6 PB_v2_0 PB_v2_1 PB_v2_2 PB_v2_3 PB_v2_4 PB_v2_5 PB_v2_6 PB_v2_f0 PB_v2_f1 PB_v2_f2 PB_v2_f3 PB_v2_f4 PB_v2_f5 PB_v2_f6
  clear DB_0 DB_1 DB_2 DB_f0 DB_f1 DB_f2 DB_v3_0 DB_v3_1 DB_v3_2 DB_v3_f0 DB_v3_f1 DB_v3_f2
  clear AB_0 AB_1 AB_f0 AB_f1 AB_v4_0 AB_v4_1 AB_v4_f0 AB_v4_f1
  clear BB_0 BB_1 BB_f0 BB_f1
  have hs3 := hb.size
  try simp only [World.size_alloc, World.size_setCell] at hs3
  replace bw : Below w.heap.size w w3 := dy_end (by go_grown) hb
  replace ms1 := Lv.on ms1 hb
  replace ms2 := Lv.on ms2 hb
  replace PB := Blk.on PB hb
  replace DB := Blk.on DB hb
  replace AB := Blk.on AB hb
  replace BB := Blk.on BB hb
  clear hb
  have PB_0 := Blk.cell PB 0 rfl
  have PB_1 := Blk.cell PB 1 rfl
  have PB_2 := Blk.cell PB 2 rfl
  have PB_3 := Blk.cell PB 3 rfl
  have PB_4 := Blk.cell PB 4 rfl
  have PB_5 := Blk.cell PB 5 rfl
  have PB_6 := Blk.cell PB 6 rfl
  have PB_f0 := Blk.free PB 0
  have PB_f1 := Blk.free PB 1
  have PB_f2 := Blk.free PB 2
  have PB_f3 := Blk.free PB 3
  have PB_f4 := Blk.free PB 4
  have PB_f5 := Blk.free PB 5
  have PB_f6 := Blk.free PB 6
  have DB_0 := Blk.cell DB 0 rfl
  have DB_1 := Blk.cell DB 1 rfl
  have DB_2 := Blk.cell DB 2 rfl
  have DB_f0 := Blk.free DB 0
  have DB_f1 := Blk.free DB 1
  have DB_f2 := Blk.free DB 2
  have AB_0 := Blk.cell AB 0 rfl
  have AB_1 := Blk.cell AB 1 rfl
  have AB_f0 := Blk.free AB 0
  have AB_f1 := Blk.free AB 1
  have BB_0 := Blk.cell BB 0 rfl
  have BB_1 := Blk.cell BB 1 rfl
  have BB_f0 := Blk.free BB 0
  have BB_f1 := Blk.free BB 1
  replace ms1 := Lv.alloc ms1 (.cells #[.slice none 0 0, .bool false] 106)
  replace ms2 := Lv.alloc ms2 (.cells #[.slice none 0 0, .bool false] 106)
  replace PB := Blk.alloc PB (.cells #[.slice none 0 0, .bool false] 106)
  replace DB := Blk.alloc DB (.cells #[.slice none 0 0, .bool false] 106)
  replace AB := Blk.alloc AB (.cells #[.slice none 0 0, .bool false] 106)
  replace BB := Blk.alloc BB (.cells #[.slice none 0 0, .bool false] 106)
  have EB := Blk.new w3 [.slice none 0 0, .bool false] 106
  have PB_v5_0 := Blk.cell PB 0 rfl
  have PB_v5_1 := Blk.cell PB 1 rfl
  have PB_v5_2 := Blk.cell PB 2 rfl
  have PB_v5_3 := Blk.cell PB 3 rfl
  have PB_v5_4 := Blk.cell PB 4 rfl
  have PB_v5_5 := Blk.cell PB 5 rfl
  have PB_v5_6 := Blk.cell PB 6 rfl
  have PB_v5_f0 := Blk.free PB 0
  have PB_v5_f1 := Blk.free PB 1
  have PB_v5_f2 := Blk.free PB 2
  have PB_v5_f3 := Blk.free PB 3
  have PB_v5_f4 := Blk.free PB 4
  have PB_v5_f5 := Blk.free PB 5
  have PB_v5_f6 := Blk.free PB 6
  have DB_v6_0 := Blk.cell DB 0 rfl
  have DB_v6_1 := Blk.cell DB 1 rfl
  have DB_v6_2 := Blk.cell DB 2 rfl
  have DB_v6_f0 := Blk.free DB 0
  have DB_v6_f1 := Blk.free DB 1
  have DB_v6_f2 := Blk.free DB 2
  have AB_v7_0 := Blk.cell AB 0 rfl
  have AB_v7_1 := Blk.cell AB 1 rfl
  have AB_v7_f0 := Blk.free AB 0
  have AB_v7_f1 := Blk.free AB 1
  have BB_v8_0 := Blk.cell BB 0 rfl
  have BB_v8_1 := Blk.cell BB 1 rfl
  have BB_v8_f0 := Blk.free BB 0
  have BB_v8_f1 := Blk.free BB 1
  have EB_0 := Blk.cell EB 0 rfl
  have EB_1 := Blk.cell EB 1 rfl
  have EB_f0 := Blk.free EB 0
  have EB_f1 := Blk.free EB 1
  go_wp2_with fail
  with_reducible refine (less_yes ms2 ks2 ms1 ks1 (by rw [vs1.out, vs2.out]; exact Int.le_of_lt HV.out.2.2.2.2)).mono ?_
  rintro e w4 ⟨s3, S3, t3, rfl, ns3, vs3, ks3, ms3, hb⟩
  clear PB_0 PB_1 PB_2 PB_3 PB_4 PB_5 PB_6 PB_f0 PB_f1 PB_f2 PB_f3 PB_f4 PB_f5 PB_f6 PB_v5_0 PB_v5_1 PB_v5_2 PB_v5_3 PB_v5_4 PB_v5_5 PB_v5_6 PB_v5_f0 PB_v5_f1 PB_v5_f2 PB_v5_f3 PB_v5_f4 PB_v5_f5 PB_v5_f6
  clear DB_0 DB_1 DB_2 DB_f0 DB_f1 DB_f2 DB_v6_0 DB_v6_1 DB_v6_2 DB_v6_f0 DB_v6_f1 DB_v6_f2
  clear AB_0 AB_1 AB_f0 AB_f1 AB_v7_0 AB_v7_1 AB_v7_f0 AB_v7_f1
  clear BB_0 BB_1 BB_f0 BB_f1 BB_v8_0 BB_v8_1 BB_v8_f0 BB_v8_f1
  clear EB_0 EB_1 EB_f0 EB_f1
  have hs4 := hb.size
  try simp only [World.size_alloc, World.size_setCell] at hs4
  replace bw : Below w.heap.size w w4 := dy_end (by go_grown) hb
  replace ms1 := Lv.on ms1 hb
  replace ms2 := Lv.on ms2 hb
  replace PB := Blk.on PB hb
  replace DB := Blk.on DB hb
  replace AB := Blk.on AB hb
  replace BB := Blk.on BB hb
  replace EB := Blk.on EB hb
  clear hb
  have PB_0 := Blk.cell PB 0 rfl
  have PB_1 := Blk.cell PB 1 rfl
  have PB_2 := Blk.cell PB 2 rfl
  have PB_3 := Blk.cell PB 3 rfl
  have PB_4 := Blk.cell PB 4 rfl
  have PB_5 := Blk.cell PB 5 rfl
  have PB_6 := Blk.cell PB 6 rfl
  have PB_f0 := Blk.free PB 0
  have PB_f1 := Blk.free PB 1
  have PB_f2 := Blk.free PB 2
  have PB_f3 := Blk.free PB 3
  have PB_f4 := Blk.free PB 4
  have PB_f5 := Blk.free PB 5
  have PB_f6 := Blk.free PB 6
  have DB_0 := Blk.cell DB 0 rfl
  have DB_1 := Blk.cell DB 1 rfl
  have DB_2 := Blk.cell DB 2 rfl
  have DB_f0 := Blk.free DB 0
  have DB_f1 := Blk.free DB 1
  have DB_f2 := Blk.free DB 2
  have AB_0 := Blk.cell AB 0 rfl
  have AB_1 := Blk.cell AB 1 rfl
  have AB_f0 := Blk.free AB 0
  have AB_f1 := Blk.free AB 1
  have BB_0 := Blk.cell BB 0 rfl
  have BB_1 := Blk.cell BB 1 rfl
  have BB_f0 := Blk.free BB 0
  have BB_f1 := Blk.free BB 1
  have EB_0 := Blk.cell EB 0 rfl
  have EB_1 := Blk.cell EB 1 rfl
  have EB_f0 := Blk.free EB 0
  have EB_f1 := Blk.free EB 1
  replace ms1 := Lv.alloc ms1 (.cells #[.slice S3 s3.length t3, .bool false] 106)
  replace ms2 := Lv.alloc ms2 (.cells #[.slice S3 s3.length t3, .bool false] 106)
  replace ms3 := Lv.alloc ms3 (.cells #[.slice S3 s3.length t3, .bool false] 106)
  replace PB := Blk.alloc PB (.cells #[.slice S3 s3.length t3, .bool false] 106)
  replace DB := Blk.alloc DB (.cells #[.slice S3 s3.length t3, .bool false] 106)
  replace AB := Blk.alloc AB (.cells #[.slice S3 s3.length t3, .bool false] 106)
  replace BB := Blk.alloc BB (.cells #[.slice S3 s3.length t3, .bool false] 106)
  replace EB := Blk.alloc EB (.cells #[.slice S3 s3.length t3, .bool false] 106)
  have CB := Blk.new w4 [.slice S3 s3.length t3, .bool false] 106
  have PB_v9_0 := Blk.cell PB 0 rfl
  have PB_v9_1 := Blk.cell PB 1 rfl
  have PB_v9_2 := Blk.cell PB 2 rfl
  have PB_v9_3 := Blk.cell PB 3 rfl
  have PB_v9_4 := Blk.cell PB 4 rfl
  have PB_v9_5 := Blk.cell PB 5 rfl
  have PB_v9_6 := Blk.cell PB 6 rfl
  have PB_v9_f0 := Blk.free PB 0
  have PB_v9_f1 := Blk.free PB 1
  have PB_v9_f2 := Blk.free PB 2
  have PB_v9_f3 := Blk.free PB 3
  have PB_v9_f4 := Blk.free PB 4
  have PB_v9_f5 := Blk.free PB 5
  have PB_v9_f6 := Blk.free PB 6
  have DB_v10_0 := Blk.cell DB 0 rfl
  have DB_v10_1 := Blk.cell DB 1 rfl
  have DB_v10_2 := Blk.cell DB 2 rfl
  have DB_v10_f0 := Blk.free DB 0
  have DB_v10_f1 := Blk.free DB 1
  have DB_v10_f2 := Blk.free DB 2
  have AB_v11_0 := Blk.cell AB 0 rfl
  have AB_v11_1 := Blk.cell AB 1 rfl
  have AB_v11_f0 := Blk.free AB 0
  have AB_v11_f1 := Blk.free AB 1
  have BB_v12_0 := Blk.cell BB 0 rfl
  have BB_v12_1 := Blk.cell BB 1 rfl
  have BB_v12_f0 := Blk.free BB 0
  have BB_v12_f1 := Blk.free BB 1
  have EB_v13_0 := Blk.cell EB 0 rfl
  have EB_v13_1 := Blk.cell EB 1 rfl
  have EB_v13_f0 := Blk.free EB 0
  have EB_v13_f1 := Blk.free EB 1
  have CB_0 := Blk.cell CB 0 rfl
  have CB_1 := Blk.cell CB 1 rfl
  have CB_f0 := Blk.free CB 0
  have CB_f1 := Blk.free CB 1
  go_wp2_with fail
  with_reducible refine (number_any (b := b2) (x := p) ms3 ks3 (hT.onD (by go_grown)) x0 (by omega)).mono ?_
  rintro e w5 ⟨b4, q4, A4, c4, x4, rfl, hd4, m4, hb⟩
  clear PB_0 PB_1 PB_2 PB_3 PB_4 PB_5 PB_6 PB_f0 PB_f1 PB_f2 PB_f3 PB_f4 PB_f5 PB_f6 PB_v9_0 PB_v9_1 PB_v9_2 PB_v9_3 PB_v9_4 PB_v9_5 PB_v9_6 PB_v9_f0 PB_v9_f1 PB_v9_f2 PB_v9_f3 PB_v9_f4 PB_v9_f5 PB_v9_f6
  clear DB_0 DB_1 DB_2 DB_f0 DB_f1 DB_f2 DB_v10_0 DB_v10_1 DB_v10_2 DB_v10_f0 DB_v10_f1 DB_v10_f2
  clear AB_0 AB_1 AB_f0 AB_f1 AB_v11_0 AB_v11_1 AB_v11_f0 AB_v11_f1
  clear BB_0 BB_1 BB_f0 BB_f1 BB_v12_0 BB_v12_1 BB_v12_f0 BB_v12_f1
  clear EB_0 EB_1 EB_f0 EB_f1 EB_v13_0 EB_v13_1 EB_v13_f0 EB_v13_f1
  clear CB_0 CB_1 CB_f0 CB_f1
  have hs5 := hb.size
  try simp only [World.size_alloc, World.size_setCell] at hs5
  replace bw : Below w.heap.size w w5 := dy_end (by go_grown) hb
  replace ms1 := Lv.on ms1 hb
  replace ms2 := Lv.on ms2 hb
  replace ms3 := Lv.on ms3 hb
  replace PB := Blk.on PB hb
  replace DB := Blk.on DB hb
  replace AB := Blk.on AB hb
  replace BB := Blk.on BB hb
  replace EB := Blk.on EB hb
  replace CB := Blk.on CB hb
  clear hb
  have PB_0 := Blk.cell PB 0 rfl
  have PB_1 := Blk.cell PB 1 rfl
  have PB_2 := Blk.cell PB 2 rfl
  have PB_3 := Blk.cell PB 3 rfl
  have PB_4 := Blk.cell PB 4 rfl
  have PB_5 := Blk.cell PB 5 rfl
  have PB_6 := Blk.cell PB 6 rfl
  have PB_f0 := Blk.free PB 0
  have PB_f1 := Blk.free PB 1
  have PB_f2 := Blk.free PB 2
  have PB_f3 := Blk.free PB 3
  have PB_f4 := Blk.free PB 4
  have PB_f5 := Blk.free PB 5
  have PB_f6 := Blk.free PB 6
  have DB_0 := Blk.cell DB 0 rfl
  have DB_1 := Blk.cell DB 1 rfl
  have DB_2 := Blk.cell DB 2 rfl
  have DB_f0 := Blk.free DB 0
  have DB_f1 := Blk.free DB 1
  have DB_f2 := Blk.free DB 2
  have AB_0 := Blk.cell AB 0 rfl
  have AB_1 := Blk.cell AB 1 rfl
  have AB_f0 := Blk.free AB 0
  have AB_f1 := Blk.free AB 1
  have BB_0 := Blk.cell BB 0 rfl
  have BB_1 := Blk.cell BB 1 rfl
  have BB_f0 := Blk.free BB 0
  have BB_f1 := Blk.free BB 1
  have EB_0 := Blk.cell EB 0 rfl
  have EB_1 := Blk.cell EB 1 rfl
  have EB_f0 := Blk.free EB 0
  have EB_f1 := Blk.free EB 1
  have CB_0 := Blk.cell CB 0 rfl
  have CB_1 := Blk.cell CB 1 rfl
  have CB_f0 := Blk.free CB 0
  have CB_f1 := Blk.free CB 1
  rw [vs3.out, vs1.out, vs2.out, HT2.out] at hd4
  go_wp2_with fail
  refine bodyPost_ret (v := .tuple #[dyV b4 A4 q4.length c4 x4, .int .i64 0]) (by simp [results, Tryz.results55, go_sem, DB_0, DB_1, DB_2]) rfl ?_
  exact ⟨b4, q4, A4, c4, x4, rfl, hd4, m4.put DB _ _ _ _ _, by go_grown⟩

end
end Go.Proofs.YtcdbjlmegkcaiaaGreatDoor
namespace Go.Proofs.YtcdbjlmegkcaiaaGreatDoor
open Go.RowKit Go.Sort
set_option linter.unusedVariables false
set_option linter.unusedSimpArgs false

/-- the fields are a normal number, but for a nought's sign and place -/
def Dq (b : Bool) (l : List Int) (x : Int) (d : Nf) : Prop := (l = [] ∧ d = zeroN) ∨ (l ≠ [] ∧ Dn b l x d)
theorem Dn.dq {b : Bool} {l : List Int} {x : Int} {d : Nf} (h : Dn b l x d) (hl : Lim 18446744073709551616 l) : Dq b l x d := by
  by_cases e : l = []
  · left
    refine ⟨e, ok_zero h.2.2.2 ?_⟩
    have := h.man hl
    rw [e, val_nil] at this
    omega
  · exact .inr ⟨e, h⟩
theorem Dn.turn {b : Bool} {l : List Int} {x : Int} {d : Nf} (h : Dn b l x d) (hl : Lim 18446744073709551616 l) : Dq (!b) l x (negN d) := by
  by_cases e : l = []
  · left
    refine ⟨e, ?_⟩
    rw [ok_zero h.2.2.2 ?_, negN_zero]
    have := h.man hl
    rw [e, val_nil] at this
    omega
  · right
    refine ⟨e, h.1, h.2.1, ?_, negN_ok _⟩
    have ho := ok_odd h.2.2.2 (fun e0 => e (nil_of_len ((h.nil hl).2 e0)))
    rw [h.2.2.1] at ho ⊢
    rw [negN_is ho]
theorem Dq.ok {b : Bool} {l : List Int} {x : Int} {d : Nf} (h : Dq b l x d) : d.Ok := by
  rcases h with ⟨_, h⟩ | ⟨_, h⟩
  · rw [h]; exact zeroN_ok
  · exact h.2.2.2
theorem Dq.ans {b : Bool} {l : List Int} {x : Int} {d : Nf} (h : Dq b l x d) (hl : Lim 18446744073709551616 l) : ansR b (val 18446744073709551616 l) x = doneR d := by
  rcases h with ⟨h1, h2⟩ | ⟨_, h⟩
  · rw [h1, h2, val_nil]; rfl
  · exact ansR_dn h hl
theorem Dq.normal {b : Bool} {l : List Int} {x : Int} {d : Nf} (h : Dq b l x d) : Normal l ∧ l.length ≤ 4096 := by
  rcases h with ⟨h1, h2⟩ | ⟨_, h⟩
  · rw [h1]; exact ⟨.inl rfl, by simp⟩
  · exact ⟨h.1, h.2.1⟩
theorem Dq.odd {b : Bool} {l : List Int} {x : Int} {d : Nf} (h : Dq b l x d) (hl : Lim 18446744073709551616 l) (h0 : l.length ≠ 0) : val 18446744073709551616 l % 2 = 1 := by
  rcases h with ⟨h1, h2⟩ | ⟨_, h⟩
  · rw [h1] at h0; simp at h0
  · exact normal_odd h hl h0
theorem exists_bits (v : Int) (h : 0 ≤ v) : ∃ k, IsBits v k := by
  obtain ⟨n, rfl⟩ := Int.eq_ofNat_of_zero_le h
  by_cases h0 : n = 0
  · subst h0; exact ⟨0, by unfold IsBits; decide⟩
  · refine ⟨n.log2 + 1, by omega, ?_, fun _ => ?_⟩
    · have := @Nat.lt_log2_self n
      exact_mod_cast this
    · rw [Nat.add_sub_cancel]
      have := Nat.log2_self_le h0
      exact_mod_cast this
/-- two numbers within one range -/
def Near (d d2 : Nf) : Prop := ∃ p q : Int, d.In p q ∧ d2.In p q ∧ p ≤ q ∧ q - p ≤ 262143
theorem near_one {b : Bool} {l : List Int} {x : Int} {d : Nf} {p q m : Int} (hd : Dn b l x d) (hl : Lim 18446744073709551616 l) (h0 : d.man ≠ 0) (h : d.In p q) (hpq : p ≤ q) (hq : q - p ≤ 262143) (hm : m ≤ x) (hp : p ≤ m) :
    val 18446744073709551616 l * 2 ^ (x - m).toNat < 2 ^ 262143 ∧ ∃ k, IsBits (val 18446744073709551616 l) k ∧ k ≤ 262143 ∧ x + k - m < 262144 := by
  have h1 := h.steps hpq (r := m) (by rw [hd.exp]; exact hm) hp
  rw [hd.exp, hd.man hl] at h1
  have h2 := pw_mono (show (q - m).toNat ≤ 262143 by omega)
  have h3 := Int.lt_of_lt_of_le h1 h2
  have hv := lim_val hl
  have hman := hd.man hl
  refine ⟨h3, ?_⟩
  obtain ⟨k, hk⟩ := exists_bits _ hv
  refine ⟨k, hk, ?_⟩
  rcases Nat.eq_zero_or_pos k with g | g
  · subst g
    have := hk.2.1
    simp at this
    omega
  · have h4 := hk.2.2 g
    have h5 : (2 : Int) ^ (k - 1 + (x - m).toNat) < 2 ^ 262143 := by
      rw [Int.pow_add]
      exact Int.lt_of_le_of_lt (Int.mul_le_mul_of_nonneg_right h4 (Int.le_of_lt (Int.pow_pos (by omega)))) h3
    have h6 := pow_lt_inv h5
    omega
theorem near_exp {d d2 : Nf} {p q : Int} (h : d.In p q) (h2 : d2.In p q) (h0 : d.man ≠ 0) (h20 : d2.man ≠ 0) : p ≤ min d.exp d2.exp := by
  have := h.exp h0
  have := h2.exp h20
  omega

section
variable {b : Bool} {A : Option Addr} {n c : Nat} {x : Int} {l : List Int} {w : World}
variable {b2 : Bool} {A2 : Option Addr} {n2 c2 : Nat} {x2 : Int} {l2 : List Int}
/-- both together, at the lower place -/
theorem total_any (h : Lv w A n c l) (hn : n ≤ 4096) (h2 : Lv w A2 n2 c2 l2) (hn2 : n2 ≤ 4096) (hT : Tab w) {d d2 : Nf} (hd : Dn b l x d) (hd2 : Dn b2 l2 x2 d2) (m0 : d.man ≠ 0) (m2 : d2.man ≠ 0) (hN : Near d d2)
    (x0 : -1048576 ≤ x) (x1 : x ≤ 1048576) (y0 : -1048576 ≤ x2) (y1 : x2 ≤ 1048576) :
    Calls Tryz.prog 55 #[.agg #[.int .i64 (min x x2), .bool b, .slice A n c, .int .i64 x, .bool b2, .slice A2 n2 c2, .int .i64 x2]] w (DyK (sumN d d2) 0 w) := by
  obtain ⟨p, q, i1, i2, hpq, hq⟩ := hN
  have hp := near_exp i1 i2 m0 m2
  rw [hd.exp, hd2.exp] at hp
  obtain ⟨p1, p2⟩ : min x x2 ≤ x ∧ min x x2 ≤ x2 := by omega
  obtain ⟨v1, _⟩ := near_one hd h.2.2 m0 i1 hpq hq p1 hp
  obtain ⟨v2, _⟩ := near_one hd2 h2.2.2 m2 i2 hpq hq p2 hp
  have w1 := pw_mono (show 262143 ≤ 262144 by omega)
  have z1 : val 18446744073709551616 l ≠ 0 := by have := hd.man h.2.2; omega
  have z2 : val 18446744073709551616 l2 ≠ 0 := by have := hd2.man h2.2.2; omega
  have e64 : (18446744073709551616 : Int) ^ 4096 = 2 ^ 262143 + 2 ^ 262143 := by rw [pow64, show 64 * 4096 = 262143 + 1 from rfl, Int.pow_succ]; omega
  have mb : -1048576 ≤ min x x2 := by omega
  by_cases hb : b = b2
  · exact total_s h hn hd.1 h2 hn2 hd2.1 hT p1 p2 mb x1 y1 hb ⟨z1, Int.lt_of_lt_of_le v1 w1, z2, Int.lt_of_lt_of_le v2 w1, by rw [e64]; exact Int.add_lt_add v1 v2⟩ (total_same hd hd2 h.2.2 h2.2.2 p1 p2 hb)
  · have ht := total_diff hd hd2 h.2.2 h2.2.2 p1 p2 hb
    rcases Int.lt_or_le (val 18446744073709551616 l * 2 ^ (x - min x x2).toNat) (val 18446744073709551616 l2 * 2 ^ (x2 - min x x2).toNat) with g | g
    · exact total_lt h hn hd.1 h2 hn2 hd2.1 hT p1 p2 mb x1 y1 hb ⟨z1, Int.lt_of_lt_of_le v1 w1, z2, Int.lt_of_lt_of_le v2 w1, g⟩ ht.2
    · exact total_ge h hn hd.1 h2 hn2 hd2.1 hT p1 p2 mb x1 y1 hb ⟨z1, Int.lt_of_lt_of_le v1 w1, z2, Int.lt_of_lt_of_le v2 w1, g⟩ ht.1
theorem pair_near (h : Lv w A n c l) (hn : n ≤ 4096) (h2 : Lv w A2 n2 c2 l2) (hn2 : n2 ≤ 4096) {d d2 : Nf} (hd : Dn b l x d) (hd2 : Dn b2 l2 x2 d2) (m0 : d.man ≠ 0) (m2 : d2.man ≠ 0) (hN : Near d d2)
    (x0 : -1048576 ≤ x) (x1 : x ≤ 1048576) (y0 : -1048576 ≤ x2) (y1 : x2 ≤ 1048576) :
    Calls Tryz.prog 54 #[dyV b A n c x, dyV b2 A2 n2 c2 x2] w fun e w' => e = .returned (.agg #[.int .i64 (min x x2), .bool b, .slice A n c, .int .i64 x, .bool b2, .slice A2 n2 c2, .int .i64 x2]) ∧ Below w.heap.size w w' := by
  obtain ⟨p, q, i1, i2, hpq, hq⟩ := hN
  have hp := near_exp i1 i2 m0 m2
  rw [hd.exp, hd2.exp] at hp
  obtain ⟨p1, p2⟩ : min x x2 ≤ x ∧ min x x2 ≤ x2 := by omega
  obtain ⟨_, k, hk, k1, k2⟩ := near_one hd h.2.2 m0 i1 hpq hq p1 hp
  obtain ⟨_, k', hk', k1', k2'⟩ := near_one hd2 h2.2.2 m2 i2 hpq hq p2 hp
  exact pairOf_any h hn h2 hn2 hk hk' x0 x1 y0 y1 (by omega) (by omega) (by omega)
set_option maxRecDepth 100000 in
set_option maxHeartbeats 4000000 in
theorem sum_z1 (h2 : Lv w A2 n2 c2 l2) (hn2 : n2 ≤ 4096) (nl2 : Normal l2) (ho2 : n2 ≠ 0 → val 18446744073709551616 l2 % 2 = 1) (h0 : n = 0) :
    Calls Tryz.prog 27 #[dyV b A n c x, dyV b2 A2 n2 c2 x2] w (DyK (ansR b2 (val 18446744073709551616 l2) x2).1 (ansR b2 (val 18446744073709551616 l2) x2).2 w) := by
  subst h0
  have PB := Blk.new w [.bool b, .slice A 0 c, .int .i64 x] 40
  have QB := Blk.new (w.alloc (.cells #[.bool b, .slice A 0 c, .int .i64 x] 40)) [.bool b2, .slice A2 n2 c2, .int .i64 x2] 40
  simp only [World.size_alloc] at QB
  replace PB := Blk.alloc PB (.cells #[.bool b2, .slice A2 n2 c2, .int .i64 x2] 40)
  have DB := Blk.new ((w.alloc (.cells #[.bool b, .slice A 0 c, .int .i64 x] 40)).alloc (.cells #[.bool b2, .slice A2 n2 c2, .int .i64 x2] 40)) [.bool false, .slice none 0 0, .int .i64 0] 40
  simp only [World.size_alloc] at DB
  replace PB := Blk.alloc PB (.cells #[.bool false, .slice none 0 0, .int .i64 0] 40)
  replace QB := Blk.alloc QB (.cells #[.bool false, .slice none 0 0, .int .i64 0] 40)
  have bw : Below w.heap.size w (((w.alloc (.cells #[.bool b, .slice A 0 c, .int .i64 x] 40)).alloc (.cells #[.bool b2, .slice A2 n2 c2, .int .i64 x2] 40)).alloc (.cells #[.bool false, .slice none 0 0, .int .i64 0] 40)) := by go_grown
  have PB_0 := Blk.cell PB 0 rfl
  have PB_1 := Blk.cell PB 1 rfl
  have PB_2 := Blk.cell PB 2 rfl
  have PB_f0 := Blk.free PB 0
  have PB_f1 := Blk.free PB 1
  have PB_f2 := Blk.free PB 2
  have QB_0 := Blk.cell QB 0 rfl
  have QB_1 := Blk.cell QB 1 rfl
  have QB_2 := Blk.cell QB 2 rfl
  have QB_f0 := Blk.free QB 0
  have QB_f1 := Blk.free QB 1
  have QB_f2 := Blk.free QB 2
  have DB_0 := Blk.cell DB 0 rfl
  have DB_1 := Blk.cell DB 1 rfl
  have DB_2 := Blk.cell DB 2 rfl
  have DB_f0 := Blk.free DB 0
  have DB_f1 := Blk.free DB 1
  have DB_f2 := Blk.free DB 2
  go_enter Tryz.func27, Tryz.ntmps27
  go_wp2_with fail
  with_reducible refine (copied_any (b := b2) (x := x2) (h2.on (by go_grown)) hn2 nl2 ho2).mono ?_
  rintro e w1 ⟨b1, q1, A1, c1, x1, rfl, hd1, m1, hb⟩
  clear PB_0 PB_1 PB_2 PB_f0 PB_f1 PB_f2
  clear QB_0 QB_1 QB_2 QB_f0 QB_f1 QB_f2
  clear DB_0 DB_1 DB_2 DB_f0 DB_f1 DB_f2
  have hs1 := hb.size
  try simp only [World.size_alloc, World.size_setCell] at hs1
  replace bw : Below w.heap.size w w1 := dy_end (by go_grown) hb
  replace PB := Blk.on PB hb
  replace QB := Blk.on QB hb
  replace DB := Blk.on DB hb
  clear hb
  have PB_0 := Blk.cell PB 0 rfl
  have PB_1 := Blk.cell PB 1 rfl
  have PB_2 := Blk.cell PB 2 rfl
  have PB_f0 := Blk.free PB 0
  have PB_f1 := Blk.free PB 1
  have PB_f2 := Blk.free PB 2
  have QB_0 := Blk.cell QB 0 rfl
  have QB_1 := Blk.cell QB 1 rfl
  have QB_2 := Blk.cell QB 2 rfl
  have QB_f0 := Blk.free QB 0
  have QB_f1 := Blk.free QB 1
  have QB_f2 := Blk.free QB 2
  have DB_0 := Blk.cell DB 0 rfl
  have DB_1 := Blk.cell DB 1 rfl
  have DB_2 := Blk.cell DB 2 rfl
  have DB_f0 := Blk.free DB 0
  have DB_f1 := Blk.free DB 1
  have DB_f2 := Blk.free DB 2
  go_wp2_with fail
  refine bodyPost_ret (v := .tuple #[dyV b1 A1 q1.length c1 x1, .int .i64 (ansR b2 (val 18446744073709551616 l2) x2).2]) (by simp [results, Tryz.results27, go_sem, DB_0, DB_1, DB_2]) rfl ?_
  exact ⟨b1, q1, A1, c1, x1, rfl, hd1, m1.put DB _ _ _ _ _, by go_grown⟩

set_option maxRecDepth 100000 in
set_option maxHeartbeats 4000000 in
theorem sum_z2 (h : Lv w A n c l) (hn : n ≤ 4096) (nl : Normal l) (ho : n ≠ 0 → val 18446744073709551616 l % 2 = 1) (h1 : ((n : Int) == 0) = false) (h0 : n2 = 0) :
    Calls Tryz.prog 27 #[dyV b A n c x, dyV b2 A2 n2 c2 x2] w (DyK (ansR b (val 18446744073709551616 l) x).1 (ansR b (val 18446744073709551616 l) x).2 w) := by
  subst h0
  have PB := Blk.new w [.bool b, .slice A n c, .int .i64 x] 40
  have QB := Blk.new (w.alloc (.cells #[.bool b, .slice A n c, .int .i64 x] 40)) [.bool b2, .slice A2 0 c2, .int .i64 x2] 40
  simp only [World.size_alloc] at QB
  replace PB := Blk.alloc PB (.cells #[.bool b2, .slice A2 0 c2, .int .i64 x2] 40)
  have DB := Blk.new ((w.alloc (.cells #[.bool b, .slice A n c, .int .i64 x] 40)).alloc (.cells #[.bool b2, .slice A2 0 c2, .int .i64 x2] 40)) [.bool false, .slice none 0 0, .int .i64 0] 40
  simp only [World.size_alloc] at DB
  replace PB := Blk.alloc PB (.cells #[.bool false, .slice none 0 0, .int .i64 0] 40)
  replace QB := Blk.alloc QB (.cells #[.bool false, .slice none 0 0, .int .i64 0] 40)
  have bw : Below w.heap.size w (((w.alloc (.cells #[.bool b, .slice A n c, .int .i64 x] 40)).alloc (.cells #[.bool b2, .slice A2 0 c2, .int .i64 x2] 40)).alloc (.cells #[.bool false, .slice none 0 0, .int .i64 0] 40)) := by go_grown
  have PB_0 := Blk.cell PB 0 rfl
  have PB_1 := Blk.cell PB 1 rfl
  have PB_2 := Blk.cell PB 2 rfl
  have PB_f0 := Blk.free PB 0
  have PB_f1 := Blk.free PB 1
  have PB_f2 := Blk.free PB 2
  have QB_0 := Blk.cell QB 0 rfl
  have QB_1 := Blk.cell QB 1 rfl
  have QB_2 := Blk.cell QB 2 rfl
  have QB_f0 := Blk.free QB 0
  have QB_f1 := Blk.free QB 1
  have QB_f2 := Blk.free QB 2
  have DB_0 := Blk.cell DB 0 rfl
  have DB_1 := Blk.cell DB 1 rfl
  have DB_2 := Blk.cell DB 2 rfl
  have DB_f0 := Blk.free DB 0
  have DB_f1 := Blk.free DB 1
  have DB_f2 := Blk.free DB 2
  go_enter Tryz.func27, Tryz.ntmps27
  go_wp2_with fail
  with_reducible refine (copied_any (b := b) (x := x) (h.on (by go_grown)) hn nl ho).mono ?_
  rintro e w1 ⟨b1, q1, A1, c1, x1, rfl, hd1, m1, hb⟩
  clear PB_0 PB_1 PB_2 PB_f0 PB_f1 PB_f2
  clear QB_0 QB_1 QB_2 QB_f0 QB_f1 QB_f2
  clear DB_0 DB_1 DB_2 DB_f0 DB_f1 DB_f2
  have hs1 := hb.size
  try simp only [World.size_alloc, World.size_setCell] at hs1
  replace bw : Below w.heap.size w w1 := dy_end (by go_grown) hb
  replace PB := Blk.on PB hb
  replace QB := Blk.on QB hb
  replace DB := Blk.on DB hb
  clear hb
  have PB_0 := Blk.cell PB 0 rfl
  have PB_1 := Blk.cell PB 1 rfl
  have PB_2 := Blk.cell PB 2 rfl
  have PB_f0 := Blk.free PB 0
  have PB_f1 := Blk.free PB 1
  have PB_f2 := Blk.free PB 2
  have QB_0 := Blk.cell QB 0 rfl
  have QB_1 := Blk.cell QB 1 rfl
  have QB_2 := Blk.cell QB 2 rfl
  have QB_f0 := Blk.free QB 0
  have QB_f1 := Blk.free QB 1
  have QB_f2 := Blk.free QB 2
  have DB_0 := Blk.cell DB 0 rfl
  have DB_1 := Blk.cell DB 1 rfl
  have DB_2 := Blk.cell DB 2 rfl
  have DB_f0 := Blk.free DB 0
  have DB_f1 := Blk.free DB 1
  have DB_f2 := Blk.free DB 2
  go_wp2_with fail
  refine bodyPost_ret (v := .tuple #[dyV b1 A1 q1.length c1 x1, .int .i64 (ansR b (val 18446744073709551616 l) x).2]) (by simp [results, Tryz.results27, go_sem, DB_0, DB_1, DB_2]) rfl ?_
  exact ⟨b1, q1, A1, c1, x1, rfl, hd1, m1.put DB _ _ _ _ _, by go_grown⟩

set_option maxRecDepth 100000 in
set_option maxHeartbeats 4000000 in
theorem sum_far (x0 : -1048576 ≤ x) (x1 : x ≤ 1048576) (y0 : -1048576 ≤ x2) (y1 : x2 ≤ 1048576) (h1 : ((n : Int) == 0) = false) (h3 : ((n2 : Int) == 0) = false) (hf : 262144 < x - x2 ∨ 262144 < x2 - x) :
    Calls Tryz.prog 27 #[dyV b A n c x, dyV b2 A2 n2 c2 x2] w (DyK zeroN 3 w) := by
  have PB := Blk.new w [.bool b, .slice A n c, .int .i64 x] 40
  have QB := Blk.new (w.alloc (.cells #[.bool b, .slice A n c, .int .i64 x] 40)) [.bool b2, .slice A2 n2 c2, .int .i64 x2] 40
  simp only [World.size_alloc] at QB
  replace PB := Blk.alloc PB (.cells #[.bool b2, .slice A2 n2 c2, .int .i64 x2] 40)
  have DB := Blk.new ((w.alloc (.cells #[.bool b, .slice A n c, .int .i64 x] 40)).alloc (.cells #[.bool b2, .slice A2 n2 c2, .int .i64 x2] 40)) [.bool false, .slice none 0 0, .int .i64 0] 40
  simp only [World.size_alloc] at DB
  replace PB := Blk.alloc PB (.cells #[.bool false, .slice none 0 0, .int .i64 0] 40)
  replace QB := Blk.alloc QB (.cells #[.bool false, .slice none 0 0, .int .i64 0] 40)
  have bw : Below w.heap.size w (((w.alloc (.cells #[.bool b, .slice A n c, .int .i64 x] 40)).alloc (.cells #[.bool b2, .slice A2 n2 c2, .int .i64 x2] 40)).alloc (.cells #[.bool false, .slice none 0 0, .int .i64 0] 40)) := by go_grown
  have PB_0 := Blk.cell PB 0 rfl
  have PB_1 := Blk.cell PB 1 rfl
  have PB_2 := Blk.cell PB 2 rfl
  have PB_f0 := Blk.free PB 0
  have PB_f1 := Blk.free PB 1
  have PB_f2 := Blk.free PB 2
  have QB_0 := Blk.cell QB 0 rfl
  have QB_1 := Blk.cell QB 1 rfl
  have QB_2 := Blk.cell QB 2 rfl
  have QB_f0 := Blk.free QB 0
  have QB_f1 := Blk.free QB 1
  have QB_f2 := Blk.free QB 2
  have DB_0 := Blk.cell DB 0 rfl
  have DB_1 := Blk.cell DB 1 rfl
  have DB_2 := Blk.cell DB 2 rfl
  have DB_f0 := Blk.free DB 0
  have DB_f1 := Blk.free DB 1
  have DB_f2 := Blk.free DB 2
  go_enter Tryz.func27, Tryz.ntmps27
  go_wp2_with fail
  with_reducible refine (tooFar_true b b2 A A2 n n2 c c2 _ x0 x1 y0 y1 hf).mono ?_
  rintro e w1 ⟨rfl, hb⟩
  clear PB_0 PB_1 PB_2 PB_f0 PB_f1 PB_f2
  clear QB_0 QB_1 QB_2 QB_f0 QB_f1 QB_f2
  clear DB_0 DB_1 DB_2 DB_f0 DB_f1 DB_f2
  have hs1 := hb.size
  try simp only [World.size_alloc, World.size_setCell] at hs1
  replace bw : Below w.heap.size w w1 := dy_end (by go_grown) hb
  replace PB := Blk.on PB hb
  replace QB := Blk.on QB hb
  replace DB := Blk.on DB hb
  clear hb
  have PB_0 := Blk.cell PB 0 rfl
  have PB_1 := Blk.cell PB 1 rfl
  have PB_2 := Blk.cell PB 2 rfl
  have PB_f0 := Blk.free PB 0
  have PB_f1 := Blk.free PB 1
  have PB_f2 := Blk.free PB 2
  have QB_0 := Blk.cell QB 0 rfl
  have QB_1 := Blk.cell QB 1 rfl
  have QB_2 := Blk.cell QB 2 rfl
  have QB_f0 := Blk.free QB 0
  have QB_f1 := Blk.free QB 1
  have QB_f2 := Blk.free QB 2
  have DB_0 := Blk.cell DB 0 rfl
  have DB_1 := Blk.cell DB 1 rfl
  have DB_2 := Blk.cell DB 2 rfl
  have DB_f0 := Blk.free DB 0
  have DB_f1 := Blk.free DB 1
  have DB_f2 := Blk.free DB 2
  go_wp2_with fail
  refine bodyPost_ret (v := .tuple #[dyV false none 0 0 0, .int .i64 3]) (by simp [results, Tryz.results27, go_sem, DB_0, DB_1, DB_2]) rfl ?_
  exact ⟨false, [], none, 0, 0, rfl, Dn.zero, lv_nil _, by go_grown⟩

set_option maxRecDepth 100000 in
set_option maxHeartbeats 4000000 in
theorem sum_near (h : Lv w A n c l) (hn : n ≤ 4096) (h2 : Lv w A2 n2 c2 l2) (hn2 : n2 ≤ 4096) (hT : Tab w) {d d2 : Nf} (hd : Dn b l x d) (hd2 : Dn b2 l2 x2 d2) (m0 : d.man ≠ 0) (m2 : d2.man ≠ 0) (hN : Near d d2) (x0 : -1048576 ≤ x) (x1 : x ≤ 1048576) (y0 : -1048576 ≤ x2) (y1 : x2 ≤ 1048576) (h1 : ((n : Int) == 0) = false) (h3 : ((n2 : Int) == 0) = false) (hf : x - x2 ≤ 262144 ∧ x2 - x ≤ 262144) :
    Calls Tryz.prog 27 #[dyV b A n c x, dyV b2 A2 n2 c2 x2] w (DyK (doneR (sumN d d2)).1 (doneR (sumN d d2)).2 w) := by
  have PB := Blk.new w [.bool b, .slice A n c, .int .i64 x] 40
  have QB := Blk.new (w.alloc (.cells #[.bool b, .slice A n c, .int .i64 x] 40)) [.bool b2, .slice A2 n2 c2, .int .i64 x2] 40
  simp only [World.size_alloc] at QB
  replace PB := Blk.alloc PB (.cells #[.bool b2, .slice A2 n2 c2, .int .i64 x2] 40)
  have DB := Blk.new ((w.alloc (.cells #[.bool b, .slice A n c, .int .i64 x] 40)).alloc (.cells #[.bool b2, .slice A2 n2 c2, .int .i64 x2] 40)) [.bool false, .slice none 0 0, .int .i64 0] 40
  simp only [World.size_alloc] at DB
  replace PB := Blk.alloc PB (.cells #[.bool false, .slice none 0 0, .int .i64 0] 40)
  replace QB := Blk.alloc QB (.cells #[.bool false, .slice none 0 0, .int .i64 0] 40)
  have bw : Below w.heap.size w (((w.alloc (.cells #[.bool b, .slice A n c, .int .i64 x] 40)).alloc (.cells #[.bool b2, .slice A2 n2 c2, .int .i64 x2] 40)).alloc (.cells #[.bool false, .slice none 0 0, .int .i64 0] 40)) := by go_grown
  have PB_0 := Blk.cell PB 0 rfl
  have PB_1 := Blk.cell PB 1 rfl
  have PB_2 := Blk.cell PB 2 rfl
  have PB_f0 := Blk.free PB 0
  have PB_f1 := Blk.free PB 1
  have PB_f2 := Blk.free PB 2
  have QB_0 := Blk.cell QB 0 rfl
  have QB_1 := Blk.cell QB 1 rfl
  have QB_2 := Blk.cell QB 2 rfl
  have QB_f0 := Blk.free QB 0
  have QB_f1 := Blk.free QB 1
  have QB_f2 := Blk.free QB 2
  have DB_0 := Blk.cell DB 0 rfl
  have DB_1 := Blk.cell DB 1 rfl
  have DB_2 := Blk.cell DB 2 rfl
  have DB_f0 := Blk.free DB 0
  have DB_f1 := Blk.free DB 1
  have DB_f2 := Blk.free DB 2
  go_enter Tryz.func27, Tryz.ntmps27
  go_wp2_with fail
  with_reducible refine (tooFar_false b b2 A A2 n n2 c c2 _ x0 x1 y0 y1 hf).mono ?_
  rintro e w1 ⟨rfl, hb⟩
  clear PB_0 PB_1 PB_2 PB_f0 PB_f1 PB_f2
  clear QB_0 QB_1 QB_2 QB_f0 QB_f1 QB_f2
  clear DB_0 DB_1 DB_2 DB_f0 DB_f1 DB_f2
  have hs1 := hb.size
  try simp only [World.size_alloc, World.size_setCell] at hs1
  replace bw : Below w.heap.size w w1 := dy_end (by go_grown) hb
  replace PB := Blk.on PB hb
  replace QB := Blk.on QB hb
  replace DB := Blk.on DB hb
  clear hb
  have PB_0 := Blk.cell PB 0 rfl
  have PB_1 := Blk.cell PB 1 rfl
  have PB_2 := Blk.cell PB 2 rfl
  have PB_f0 := Blk.free PB 0
  have PB_f1 := Blk.free PB 1
  have PB_f2 := Blk.free PB 2
  have QB_0 := Blk.cell QB 0 rfl
  have QB_1 := Blk.cell QB 1 rfl
  have QB_2 := Blk.cell QB 2 rfl
  have QB_f0 := Blk.free QB 0
  have QB_f1 := Blk.free QB 1
  have QB_f2 := Blk.free QB 2
  have DB_0 := Blk.cell DB 0 rfl
  have DB_1 := Blk.cell DB 1 rfl
  have DB_2 := Blk.cell DB 2 rfl
  have DB_f0 := Blk.free DB 0
  have DB_f1 := Blk.free DB 1
  have DB_f2 := Blk.free DB 2
  go_wp2_with fail
  with_reducible refine (pair_near (b := b) (b2 := b2) (x := x) (x2 := x2) (h.on (by go_grown)) hn (h2.on (by go_grown)) hn2 hd hd2 m0 m2 hN x0 x1 y0 y1).mono ?_
  rintro e w2 ⟨rfl, hb⟩
  clear PB_0 PB_1 PB_2 PB_f0 PB_f1 PB_f2
  clear QB_0 QB_1 QB_2 QB_f0 QB_f1 QB_f2
  clear DB_0 DB_1 DB_2 DB_f0 DB_f1 DB_f2
  have hs2 := hb.size
  try simp only [World.size_alloc, World.size_setCell] at hs2
  replace bw : Below w.heap.size w w2 := dy_end (by go_grown) hb
  replace PB := Blk.on PB hb
  replace QB := Blk.on QB hb
  replace DB := Blk.on DB hb
  clear hb
  have PB_0 := Blk.cell PB 0 rfl
  have PB_1 := Blk.cell PB 1 rfl
  have PB_2 := Blk.cell PB 2 rfl
  have PB_f0 := Blk.free PB 0
  have PB_f1 := Blk.free PB 1
  have PB_f2 := Blk.free PB 2
  have QB_0 := Blk.cell QB 0 rfl
  have QB_1 := Blk.cell QB 1 rfl
  have QB_2 := Blk.cell QB 2 rfl
  have QB_f0 := Blk.free QB 0
  have QB_f1 := Blk.free QB 1
  have QB_f2 := Blk.free QB 2
  have DB_0 := Blk.cell DB 0 rfl
  have DB_1 := Blk.cell DB 1 rfl
  have DB_2 := Blk.cell DB 2 rfl
  have DB_f0 := Blk.free DB 0
  have DB_f1 := Blk.free DB 1
  have DB_f2 := Blk.free DB 2
  go_wp2_with fail
  with_reducible refine (total_any (b := b) (b2 := b2) (x := x) (x2 := x2) (h.on (by go_grown)) hn (h2.on (by go_grown)) hn2 (hT.onD (by go_grown)) hd hd2 m0 m2 hN x0 x1 y0 y1).mono ?_
  rintro e w3 ⟨b3, q3, A3, c3, x3, rfl, hd3, m3, hb⟩
  clear PB_0 PB_1 PB_2 PB_f0 PB_f1 PB_f2
  clear QB_0 QB_1 QB_2 QB_f0 QB_f1 QB_f2
  clear DB_0 DB_1 DB_2 DB_f0 DB_f1 DB_f2
  have hs3 := hb.size
  try simp only [World.size_alloc, World.size_setCell] at hs3
  replace bw : Below w.heap.size w w3 := dy_end (by go_grown) hb
  replace PB := Blk.on PB hb
  replace QB := Blk.on QB hb
  replace DB := Blk.on DB hb
  clear hb
  have PB_0 := Blk.cell PB 0 rfl
  have PB_1 := Blk.cell PB 1 rfl
  have PB_2 := Blk.cell PB 2 rfl
  have PB_f0 := Blk.free PB 0
  have PB_f1 := Blk.free PB 1
  have PB_f2 := Blk.free PB 2
  have QB_0 := Blk.cell QB 0 rfl
  have QB_1 := Blk.cell QB 1 rfl
  have QB_2 := Blk.cell QB 2 rfl
  have QB_f0 := Blk.free QB 0
  have QB_f1 := Blk.free QB 1
  have QB_f2 := Blk.free QB 2
  have DB_0 := Blk.cell DB 0 rfl
  have DB_1 := Blk.cell DB 1 rfl
  have DB_2 := Blk.cell DB 2 rfl
  have DB_f0 := Blk.free DB 0
  have DB_f1 := Blk.free DB 1
  have DB_f2 := Blk.free DB 2
  replace m3 := Lv.alloc m3 (.cells #[.bool b3, .slice A3 q3.length c3, .int .i64 x3] 40)
  replace PB := Blk.alloc PB (.cells #[.bool b3, .slice A3 q3.length c3, .int .i64 x3] 40)
  replace QB := Blk.alloc QB (.cells #[.bool b3, .slice A3 q3.length c3, .int .i64 x3] 40)
  replace DB := Blk.alloc DB (.cells #[.bool b3, .slice A3 q3.length c3, .int .i64 x3] 40)
  have TB := Blk.new w3 [.bool b3, .slice A3 q3.length c3, .int .i64 x3] 40
  have PB_v0_0 := Blk.cell PB 0 rfl
  have PB_v0_1 := Blk.cell PB 1 rfl
  have PB_v0_2 := Blk.cell PB 2 rfl
  have PB_v0_f0 := Blk.free PB 0
  have PB_v0_f1 := Blk.free PB 1
  have PB_v0_f2 := Blk.free PB 2
  have QB_v1_0 := Blk.cell QB 0 rfl
  have QB_v1_1 := Blk.cell QB 1 rfl
  have QB_v1_2 := Blk.cell QB 2 rfl
  have QB_v1_f0 := Blk.free QB 0
  have QB_v1_f1 := Blk.free QB 1
  have QB_v1_f2 := Blk.free QB 2
  have DB_v2_0 := Blk.cell DB 0 rfl
  have DB_v2_1 := Blk.cell DB 1 rfl
  have DB_v2_2 := Blk.cell DB 2 rfl
  have DB_v2_f0 := Blk.free DB 0
  have DB_v2_f1 := Blk.free DB 1
  have DB_v2_f2 := Blk.free DB 2
  have TB_0 := Blk.cell TB 0 rfl
  have TB_1 := Blk.cell TB 1 rfl
  have TB_2 := Blk.cell TB 2 rfl
  have TB_f0 := Blk.free TB 0
  have TB_f1 := Blk.free TB 1
  have TB_f2 := Blk.free TB 2
  have an := fun W (mm : Lv W A3 q3.length c3 q3) => dyAns_any (b := b3) (x := x3) mm hd3.2.1 hd3.1 (hd3.odd mm)
  rw [ansR_dn hd3 m3.2.2] at an
  go_wp2_with fail
  with_reducible refine (an _ m3).mono ?_
  rintro e w4 ⟨b4, q4, A4, c4, x4, rfl, hd4, m4, hb⟩
  clear PB_0 PB_1 PB_2 PB_f0 PB_f1 PB_f2 PB_v0_0 PB_v0_1 PB_v0_2 PB_v0_f0 PB_v0_f1 PB_v0_f2
  clear QB_0 QB_1 QB_2 QB_f0 QB_f1 QB_f2 QB_v1_0 QB_v1_1 QB_v1_2 QB_v1_f0 QB_v1_f1 QB_v1_f2
  clear DB_0 DB_1 DB_2 DB_f0 DB_f1 DB_f2 DB_v2_0 DB_v2_1 DB_v2_2 DB_v2_f0 DB_v2_f1 DB_v2_f2
  clear TB_0 TB_1 TB_2 TB_f0 TB_f1 TB_f2
  have hs4 := hb.size
  try simp only [World.size_alloc, World.size_setCell] at hs4
  replace bw : Below w.heap.size w w4 := dy_end (by go_grown) hb
  replace m3 := Lv.on m3 hb
  replace PB := Blk.on PB hb
  replace QB := Blk.on QB hb
  replace DB := Blk.on DB hb
  replace TB := Blk.on TB hb
  clear hb
  have PB_0 := Blk.cell PB 0 rfl
  have PB_1 := Blk.cell PB 1 rfl
  have PB_2 := Blk.cell PB 2 rfl
  have PB_f0 := Blk.free PB 0
  have PB_f1 := Blk.free PB 1
  have PB_f2 := Blk.free PB 2
  have QB_0 := Blk.cell QB 0 rfl
  have QB_1 := Blk.cell QB 1 rfl
  have QB_2 := Blk.cell QB 2 rfl
  have QB_f0 := Blk.free QB 0
  have QB_f1 := Blk.free QB 1
  have QB_f2 := Blk.free QB 2
  have DB_0 := Blk.cell DB 0 rfl
  have DB_1 := Blk.cell DB 1 rfl
  have DB_2 := Blk.cell DB 2 rfl
  have DB_f0 := Blk.free DB 0
  have DB_f1 := Blk.free DB 1
  have DB_f2 := Blk.free DB 2
  have TB_0 := Blk.cell TB 0 rfl
  have TB_1 := Blk.cell TB 1 rfl
  have TB_2 := Blk.cell TB 2 rfl
  have TB_f0 := Blk.free TB 0
  have TB_f1 := Blk.free TB 1
  have TB_f2 := Blk.free TB 2
  go_wp2_with fail
  refine bodyPost_ret (v := .tuple #[dyV b4 A4 q4.length c4 x4, .int .i64 (doneR (sumN d d2)).2]) (by simp [results, Tryz.results27, go_sem, DB_0, DB_1, DB_2]) rfl ?_
  exact ⟨b4, q4, A4, c4, x4, rfl, hd4, m4.put DB _ _ _ _ _, by go_grown⟩


theorem sum_dq (h : Lv w A n c l) (h2 : Lv w A2 n2 c2 l2) (hT : Tab w) {d d2 : Nf} (hd : Dq b l x d) (hd2 : Dq b2 l2 x2 d2) (hN : farN d d2 = true ∨ Near d d2)
    (x0 : -1048576 ≤ x) (x1 : x ≤ 1048576) (y0 : -1048576 ≤ x2) (y1 : x2 ≤ 1048576) :
    Calls Tryz.prog 27 #[dyV b A n c x, dyV b2 A2 n2 c2 x2] w (DyK (addR d d2).1 (addR d d2).2 w) := by
  have hn : n ≤ 4096 := by rw [← h.1]; exact hd.normal.2
  have hn2 : n2 ≤ 4096 := by rw [← h2.1]; exact hd2.normal.2
  have o1 := fun e : n ≠ 0 => hd.odd h.2.2 (by rw [h.1]; exact e)
  have o2 := fun e : n2 ≠ 0 => hd2.odd h2.2.2 (by rw [h2.1]; exact e)
  rcases hd with ⟨e1, e2⟩ | ⟨e1, hd⟩
  · have : addR d d2 = doneR d2 := by
      rw [e2]
      unfold addR farN
      rw [if_neg (by simp [zeroN]), sumN_zero_left hd2.ok]
    rw [this, ← hd2.ans h2.2.2]
    exact sum_z1 h2 hn2 hd2.normal.1 o2 (by rw [← h.1, e1]; rfl)
  · have hb : ((n : Int) == 0) = false := beq_eq_false_iff_ne.2 (fun e => e1 (nil_of_len (by rw [h.1]; omega)))
    rcases hd2 with ⟨f1, f2⟩ | ⟨f1, hd2⟩
    · have : addR d d2 = doneR d := by
        rw [f2]
        unfold addR farN
        rw [if_neg (by simp [zeroN]), sumN_zero_right hd.2.2.2]
      rw [this, ← ansR_dn hd h.2.2]
      exact sum_z2 h hn hd.1 o1 hb (by rw [← h2.1, f1]; rfl)
    · have hb2 : ((n2 : Int) == 0) = false := beq_eq_false_iff_ne.2 (fun e => f1 (nil_of_len (by rw [h2.1]; omega)))
      have m0 : d.man ≠ 0 := fun e => e1 (nil_of_len ((hd.nil h.2.2).2 e))
      have m2 : d2.man ≠ 0 := fun e => f1 (nil_of_len ((hd2.nil h2.2.2).2 e))
      by_cases hf : farN d d2 = true
      · have : addR d d2 = (zeroN, 3) := by unfold addR; rw [if_pos hf]
        rw [this]
        have g : 262144 < x - x2 ∨ 262144 < x2 - x := by
          unfold farN farB at hf
          rw [hd.exp, hd2.exp] at hf
          simp [m0, m2] at hf
          omega
        exact sum_far x0 x1 y0 y1 hb hb2 g
      · have : addR d d2 = doneR (sumN d d2) := by unfold addR; rw [if_neg hf]
        rw [this]
        have g : x - x2 ≤ 262144 ∧ x2 - x ≤ 262144 := by
          unfold farN farB at hf
          rw [hd.exp, hd2.exp] at hf
          simp [m0, m2] at hf
          omega
        rcases hN with hN | hN
        · exact absurd hN hf
        · exact sum_near h hn h2 hn2 hT hd hd2 m0 m2 hN x0 x1 y0 y1 hb hb2 g
end
end Go.Proofs.YtcdbjlmegkcaiaaGreatDoor
namespace Go.Proofs.YtcdbjlmegkcaiaaGreatDoor
open Go.RowKit Go.Sort
set_option linter.unusedVariables false
set_option linter.unusedSimpArgs false

section
variable {b : Bool} {A : Option Addr} {n c : Nat} {x : Int} {l : List Int} {w : World}
variable {b2 : Bool} {A2 : Option Addr} {n2 c2 : Nat} {x2 : Int} {l2 : List Int}
theorem put_cell {w : World} {p : Addr} {v : Value} {g : Nat} (h : w.cell? p = some v) (hne : p.block ≠ g) (u v' r : Value) :
    (((w.setCell ⟨g, 0, none⟩ u).setCell ⟨g, 1, none⟩ v').setCell ⟨g, 2, none⟩ r).cell? p = some v := by
  have ne : ∀ o, (⟨g, o, none⟩ : Addr) ≠ p := fun o e => hne (by rw [← e])
  rw [World.cell?_setCell_other _ _ _ _ (ne 2), World.cell?_setCell_other _ _ _ _ (ne 1), World.cell?_setCell_other _ _ _ _ (ne 0), h]
theorem mul_man {d d2 : Nf} (hd : Dn b l x d) (hd2 : Dn b2 l2 x2 d2) (hl : Lim 18446744073709551616 l) (hl2 : Lim 18446744073709551616 l2) :
    ansR (!(b == b2)) (val 18446744073709551616 l * val 18446744073709551616 l2) (x + x2) = doneR (mulN d d2) ∧ (val 18446744073709551616 l * val 18446744073709551616 l2 ≠ 0 → val 18446744073709551616 l * val 18446744073709551616 l2 % 2 = 1) := by
  have m1 := hd.man hl
  have m2 := hd2.man hl2
  have v1 := lim_val hl
  have v2 := lim_val hl2
  by_cases h1 : d.man = 0
  · have e1 : val 18446744073709551616 l = 0 := by omega
    rw [e1, Int.zero_mul, ok_zero hd.2.2.2 h1, mulN_zero_left]
    exact ⟨rfl, fun h => absurd rfl h⟩
  · by_cases h2 : d2.man = 0
    · have e1 : val 18446744073709551616 l2 = 0 := by omega
      rw [e1, Int.mul_zero, ok_zero hd2.2.2.2 h2, mulN_zero_right]
      exact ⟨rfl, fun h => absurd rfl h⟩
    · have o1 := ok_odd hd.2.2.2 h1
      have o2 := ok_odd hd2.2.2.2 h2
      have ho : val 18446744073709551616 l * val 18446744073709551616 l2 % 2 = 1 := by
        rw [Int.mul_emod]
        have a1 : val 18446744073709551616 l % 2 = 1 := by omega
        have a2 : val 18446744073709551616 l2 % 2 = 1 := by omega
        rw [a1, a2]
        rfl
      have hp : 0 ≤ val 18446744073709551616 l * val 18446744073709551616 l2 := Int.mul_nonneg v1 v2
      refine ⟨?_, fun _ => ho⟩
      unfold ansR
      rw [if_neg (by omega)]
      congr 1
      have e := mulN_of d.num d.exp d2.num d2.exp
      rw [nf_self hd.2.2.2, nf_self hd2.2.2.2, num_dn hd hl, num_dn hd2 hl2, hd.exp, hd2.exp] at e
      rw [← e, ← nfl_odd (!(b == b2)) (x + x2) ho hp]
      unfold nfl
      congr 1
      cases b <;> cases b2 <;> simp <;> grind
set_option maxRecDepth 100000 in
set_option maxHeartbeats 4000000 in
theorem product_dn (h : Lv w A n c l) (hn : n ≤ 4096) (h2 : Lv w A2 n2 c2 l2) (hn2 : n2 ≤ 4096) {d d2 : Nf} (hd : Dn b l x d) (hd2 : Dn b2 l2 x2 d2) (hv : val 18446744073709551616 l * val 18446744073709551616 l2 < 18446744073709551616 ^ 4096) (x0 : -1048576 ≤ x) (x1 : x ≤ 1048576) (y0 : -1048576 ≤ x2) (y1 : x2 ≤ 1048576) :
    Calls Tryz.prog 36 #[dyV b A n c x, dyV b2 A2 n2 c2 x2] w (DyK (doneR (mulN d d2)).1 (doneR (mulN d d2)).2 w) := by
  have PB := Blk.new w [.bool b, .slice A n c, .int .i64 x] 40
  have QB := Blk.new (w.alloc (.cells #[.bool b, .slice A n c, .int .i64 x] 40)) [.bool b2, .slice A2 n2 c2, .int .i64 x2] 40
  simp only [World.size_alloc] at QB
  replace PB := Blk.alloc PB (.cells #[.bool b2, .slice A2 n2 c2, .int .i64 x2] 40)
  have DB := Blk.new ((w.alloc (.cells #[.bool b, .slice A n c, .int .i64 x] 40)).alloc (.cells #[.bool b2, .slice A2 n2 c2, .int .i64 x2] 40)) [.bool false, .slice none 0 0, .int .i64 0] 40
  simp only [World.size_alloc] at DB
  replace PB := Blk.alloc PB (.cells #[.bool false, .slice none 0 0, .int .i64 0] 40)
  replace QB := Blk.alloc QB (.cells #[.bool false, .slice none 0 0, .int .i64 0] 40)
  have bw : Below w.heap.size w (((w.alloc (.cells #[.bool b, .slice A n c, .int .i64 x] 40)).alloc (.cells #[.bool b2, .slice A2 n2 c2, .int .i64 x2] 40)).alloc (.cells #[.bool false, .slice none 0 0, .int .i64 0] 40)) := by go_grown
  have PB_0 := Blk.cell PB 0 rfl
  have PB_1 := Blk.cell PB 1 rfl
  have PB_2 := Blk.cell PB 2 rfl
  have PB_f0 := Blk.free PB 0
  have PB_f1 := Blk.free PB 1
  have PB_f2 := Blk.free PB 2
  have QB_0 := Blk.cell QB 0 rfl
  have QB_1 := Blk.cell QB 1 rfl
  have QB_2 := Blk.cell QB 2 rfl
  have QB_f0 := Blk.free QB 0
  have QB_f1 := Blk.free QB 1
  have QB_f2 := Blk.free QB 2
  have DB_0 := Blk.cell DB 0 rfl
  have DB_1 := Blk.cell DB 1 rfl
  have DB_2 := Blk.cell DB 2 rfl
  have DB_f0 := Blk.free DB 0
  have DB_f1 := Blk.free DB 1
  have DB_f2 := Blk.free DB 2
  obtain ⟨em, eo⟩ := mul_man hd hd2 h.2.2 h2.2.2
  have EM := Lib.hid em
  have EO := Lib.hid eo
  have HV := Lib.hid hv
  clear em eo hv
  go_enter Tryz.func36, Tryz.ntmps36
  go_wp2_with fail
  with_reducible refine (Mul_val (h.on (by go_grown)) (h2.on (by go_grown)) hn hn2 HV.out).mono ?_
  rintro e w1 ⟨q1, A1, c1, rfl, n1, v1, k1, m1, hb⟩
  clear PB_0 PB_1 PB_2 PB_f0 PB_f1 PB_f2
  clear QB_0 QB_1 QB_2 QB_f0 QB_f1 QB_f2
  clear DB_0 DB_1 DB_2 DB_f0 DB_f1 DB_f2
  have hs1 := hb.size
  try simp only [World.size_alloc, World.size_setCell] at hs1
  replace bw : Below w.heap.size w w1 := dy_end (by go_grown) hb
  replace PB := Blk.on PB hb
  replace QB := Blk.on QB hb
  replace DB := Blk.on DB hb
  clear hb
  have PB_0 := Blk.cell PB 0 rfl
  have PB_1 := Blk.cell PB 1 rfl
  have PB_2 := Blk.cell PB 2 rfl
  have PB_f0 := Blk.free PB 0
  have PB_f1 := Blk.free PB 1
  have PB_f2 := Blk.free PB 2
  have QB_0 := Blk.cell QB 0 rfl
  have QB_1 := Blk.cell QB 1 rfl
  have QB_2 := Blk.cell QB 2 rfl
  have QB_f0 := Blk.free QB 0
  have QB_f1 := Blk.free QB 1
  have QB_f2 := Blk.free QB 2
  have DB_0 := Blk.cell DB 0 rfl
  have DB_1 := Blk.cell DB 1 rfl
  have DB_2 := Blk.cell DB 2 rfl
  have DB_f0 := Blk.free DB 0
  have DB_f1 := Blk.free DB 1
  have DB_f2 := Blk.free DB 2
  have an := fun W (mm : Lv W A1 q1.length c1 q1) => dyAns_any (b := !(b == b2)) (x := x + x2) mm k1 n1 (fun e => by rw [v1.out]; exact EO.out (fun e0 => e (by rw [val_eq_zero (b := 18446744073709551616) (by omega) m1.2.2 n1 (by rw [v1.out, e0])]; rfl)))
  rw [v1.out, EM.out] at an
  go_wp2_with fail
  with_reducible refine (an _ m1).mono ?_
  rintro e w2 ⟨b2, q2, A2, c2, x2, rfl, hd2, m2, hb⟩
  clear PB_0 PB_1 PB_2 PB_f0 PB_f1 PB_f2
  clear QB_0 QB_1 QB_2 QB_f0 QB_f1 QB_f2
  clear DB_0 DB_1 DB_2 DB_f0 DB_f1 DB_f2
  have hs2 := hb.size
  try simp only [World.size_alloc, World.size_setCell] at hs2
  replace bw : Below w.heap.size w w2 := dy_end (by go_grown) hb
  replace m1 := Lv.on m1 hb
  replace PB := Blk.on PB hb
  replace QB := Blk.on QB hb
  replace DB := Blk.on DB hb
  clear hb
  have PB_0 := Blk.cell PB 0 rfl
  have PB_1 := Blk.cell PB 1 rfl
  have PB_2 := Blk.cell PB 2 rfl
  have PB_f0 := Blk.free PB 0
  have PB_f1 := Blk.free PB 1
  have PB_f2 := Blk.free PB 2
  have QB_0 := Blk.cell QB 0 rfl
  have QB_1 := Blk.cell QB 1 rfl
  have QB_2 := Blk.cell QB 2 rfl
  have QB_f0 := Blk.free QB 0
  have QB_f1 := Blk.free QB 1
  have QB_f2 := Blk.free QB 2
  have DB_0 := Blk.cell DB 0 rfl
  have DB_1 := Blk.cell DB 1 rfl
  have DB_2 := Blk.cell DB 2 rfl
  have DB_f0 := Blk.free DB 0
  have DB_f1 := Blk.free DB 1
  have DB_f2 := Blk.free DB 2
  go_wp2_with fail
  refine bodyPost_ret (v := .tuple #[dyV b2 A2 q2.length c2 x2, .int .i64 (doneR (mulN d d2)).2]) (by simp [results, Tryz.results36, go_sem, DB_0, DB_1, DB_2]) rfl ?_
  exact ⟨b2, q2, A2, c2, x2, rfl, hd2, m2.put DB _ _ _ _ _, by go_grown⟩

set_option maxRecDepth 100000 in
set_option maxHeartbeats 4000000 in
theorem subOne_dn (h : Lv w A n c l) (h2 : Lv w A2 n2 c2 l2) (hT : Tab w) {d d2 : Nf} (hd : Dq b l x d) (hd2 : Dq (!b2) l2 x2 d2) (hN : farN d d2 = true ∨ Near d d2) (x0 : -1048576 ≤ x) (x1 : x ≤ 1048576) (y0 : -1048576 ≤ x2) (y1 : x2 ≤ 1048576) :
    Calls Tryz.prog 26 #[dyV b A n c x, dyV b2 A2 n2 c2 x2] w (DyK (addR d d2).1 (addR d d2).2 w) := by
  have PB := Blk.new w [.bool b, .slice A n c, .int .i64 x] 40
  have QB := Blk.new (w.alloc (.cells #[.bool b, .slice A n c, .int .i64 x] 40)) [.bool b2, .slice A2 n2 c2, .int .i64 x2] 40
  simp only [World.size_alloc] at QB
  replace PB := Blk.alloc PB (.cells #[.bool b2, .slice A2 n2 c2, .int .i64 x2] 40)
  have DB := Blk.new ((w.alloc (.cells #[.bool b, .slice A n c, .int .i64 x] 40)).alloc (.cells #[.bool b2, .slice A2 n2 c2, .int .i64 x2] 40)) [.bool false, .slice none 0 0, .int .i64 0] 40
  simp only [World.size_alloc] at DB
  replace PB := Blk.alloc PB (.cells #[.bool false, .slice none 0 0, .int .i64 0] 40)
  replace QB := Blk.alloc QB (.cells #[.bool false, .slice none 0 0, .int .i64 0] 40)
  have bw : Below w.heap.size w (((w.alloc (.cells #[.bool b, .slice A n c, .int .i64 x] 40)).alloc (.cells #[.bool b2, .slice A2 n2 c2, .int .i64 x2] 40)).alloc (.cells #[.bool false, .slice none 0 0, .int .i64 0] 40)) := by go_grown
  have PB_0 := Blk.cell PB 0 rfl
  have PB_1 := Blk.cell PB 1 rfl
  have PB_2 := Blk.cell PB 2 rfl
  have PB_f0 := Blk.free PB 0
  have PB_f1 := Blk.free PB 1
  have PB_f2 := Blk.free PB 2
  have QB_0 := Blk.cell QB 0 rfl
  have QB_1 := Blk.cell QB 1 rfl
  have QB_2 := Blk.cell QB 2 rfl
  have QB_f0 := Blk.free QB 0
  have QB_f1 := Blk.free QB 1
  have QB_f2 := Blk.free QB 2
  have DB_0 := Blk.cell DB 0 rfl
  have DB_1 := Blk.cell DB 1 rfl
  have DB_2 := Blk.cell DB 2 rfl
  have DB_f0 := Blk.free DB 0
  have DB_f1 := Blk.free DB 1
  have DB_f2 := Blk.free DB 2
  go_enter Tryz.func26, Tryz.ntmps26
  go_wp2_with fail
  refine wp_region_held_drew (S := fun w' : World => w'.cell? ⟨w.heap.size, 0, none⟩ = some (.bool b) ∧ w'.cell? ⟨w.heap.size, 1, none⟩ = some (.slice A n c) ∧ w'.cell? ⟨w.heap.size, 2, none⟩ = some (.int .i64 x) ∧ w'.cell? ⟨w.heap.size + 1, 0, none⟩ = some (.bool b2) ∧ w'.cell? ⟨w.heap.size + 1, 1, none⟩ = some (.slice A2 n2 c2) ∧ w'.cell? ⟨w.heap.size + 1, 2, none⟩ = some (.int .i64 x2)) (by kernel_rfl) ⟨PB_0, PB_1, PB_2, QB_0, QB_1, QB_2⟩ (fun hHeld => ?_)
  refine wpAnyH_take (i := 0) (v := ?v0) rfl (by kernel_rfl) (by kernel_rfl) (by kernel_rfl) (fun _ _ _ h => h) (Or.inl ⟨by rfl, ?hy0⟩) (by assumption) ?rest0
  case hy0 => (intro w hSw; (try dsimp only at hSw); go_simp; try with_reducible rfl)
  simp only [Act.put, List.setIfInBounds_toArray, List.set_cons_zero, List.set_cons_succ, List.getElem_toArray, List.getElem_cons_zero, List.getElem_cons_succ]
  refine wpAnyH_take (i := 1) (v := ?v1) rfl (by kernel_rfl) (by kernel_rfl) (by kernel_rfl) (fun _ _ _ h => h) (Or.inl ⟨by rfl, ?hy1⟩) (by assumption) ?rest1
  case hy1 => (intro w hSw; (try dsimp only at hSw); go_simp; try with_reducible rfl)
  simp only [Act.put, List.setIfInBounds_toArray, List.set_cons_zero, List.set_cons_succ, List.getElem_toArray, List.getElem_cons_zero, List.getElem_cons_succ]
  refine wpAnyH_ready (rs := [2]) (by kernel_rfl) (by simp) ?_
  refine AllReadyH.cons rfl (fun K hK => ?_) AllReadyH.nil
  go_simp
  with_reducible refine (dturned_any b2 A2 n2 c2 x2 _).mono ?_
  rintro e w1 ⟨rfl, hb1⟩
  have hs1 := hb1.size
  simp only [World.size_alloc, World.size_drew] at hs1
  have b1 : Below w.heap.size w w1 := dy_end (by go_grown) hb1
  replace DB := (Blk.drew DB).on hb1
  refine hK.out _ _ (⟨(hb1.cell (p := ⟨w.heap.size, 0, none⟩) (by first | omega | (dsimp only; omega) | (simp; omega) | (simp; done))).trans hHeld.1, (hb1.cell (p := ⟨w.heap.size, 1, none⟩) (by first | omega | (dsimp only; omega) | (simp; omega) | (simp; done))).trans hHeld.2.1, (hb1.cell (p := ⟨w.heap.size, 2, none⟩) (by first | omega | (dsimp only; omega) | (simp; omega) | (simp; done))).trans hHeld.2.2.1, (hb1.cell (p := ⟨w.heap.size + 1, 0, none⟩) (by first | omega | (dsimp only; omega) | (simp; omega) | (simp; done))).trans hHeld.2.2.2.1, (hb1.cell (p := ⟨w.heap.size + 1, 1, none⟩) (by first | omega | (dsimp only; omega) | (simp; omega) | (simp; done))).trans hHeld.2.2.2.2.1, (hb1.cell (p := ⟨w.heap.size + 1, 2, none⟩) (by first | omega | (dsimp only; omega) | (simp; omega) | (simp; done))).trans hHeld.2.2.2.2.2⟩) (fun hHeld => ?_)
  clear hK K
  try simp only [Act.put, List.setIfInBounds_toArray, List.set_cons_zero, List.set_cons_succ, List.getElem_toArray, List.getElem_cons_zero, List.getElem_cons_succ]
  refine wpAnyH_ready (rs := [3]) (by kernel_rfl) (by simp) ?_
  refine AllReadyH.cons rfl (fun K hK => ?_) AllReadyH.nil
  go_simp
  with_reducible refine (sum_dq (b := b) (b2 := !b2) (x := x) (x2 := x2) (h.on b1) (h2.on b1) (hT.onD b1) hd hd2 hN x0 x1 y0 y1).mono ?_
  rintro e w2 ⟨b3, q3, A3, c3, x3, rfl, hd3, m3, hb2⟩
  have hs2 := hb2.size
  replace bw : Below w.heap.size w w2 := dy_end b1 hb2
  replace DB := Blk.on DB hb2
  refine hK.out _ _ (⟨(hb2.cell (p := ⟨w.heap.size, 0, none⟩) (by first | omega | (dsimp only; omega) | (simp; omega) | (simp; done))).trans hHeld.1, (hb2.cell (p := ⟨w.heap.size, 1, none⟩) (by first | omega | (dsimp only; omega) | (simp; omega) | (simp; done))).trans hHeld.2.1, (hb2.cell (p := ⟨w.heap.size, 2, none⟩) (by first | omega | (dsimp only; omega) | (simp; omega) | (simp; done))).trans hHeld.2.2.1, (hb2.cell (p := ⟨w.heap.size + 1, 0, none⟩) (by first | omega | (dsimp only; omega) | (simp; omega) | (simp; done))).trans hHeld.2.2.2.1, (hb2.cell (p := ⟨w.heap.size + 1, 1, none⟩) (by first | omega | (dsimp only; omega) | (simp; omega) | (simp; done))).trans hHeld.2.2.2.2.1, (hb2.cell (p := ⟨w.heap.size + 1, 2, none⟩) (by first | omega | (dsimp only; omega) | (simp; omega) | (simp; done))).trans hHeld.2.2.2.2.2⟩) (fun hHeld => ?_)
  clear hK K
  try simp only [Act.put, List.setIfInBounds_toArray, List.set_cons_zero, List.set_cons_succ, List.getElem_toArray, List.getElem_cons_zero, List.getElem_cons_succ]
  clear hb1 hb2 b1
  clear PB_0 PB_1 PB_2 PB_f0 PB_f1 PB_f2
  clear QB_0 QB_1 QB_2 QB_f0 QB_f1 QB_f2
  clear DB_0 DB_1 DB_2 DB_f0 DB_f1 DB_f2
  have DB_0 := Blk.cell DB 0 rfl
  have DB_1 := Blk.cell DB 1 rfl
  have DB_2 := Blk.cell DB 2 rfl
  have DB_f0 := Blk.free DB 0
  have DB_f1 := Blk.free DB 1
  have DB_f2 := Blk.free DB 2
  refine wpAnyH_take (i := 4) (v := ?v4) rfl (by kernel_rfl) (by kernel_rfl) (by kernel_rfl) (fun _ _ _ h => h) (Or.inl ⟨by rfl, ?hy4⟩) (by assumption) ?rest4
  case hy4 => (intro w hSw; (try dsimp only at hSw); go_simp; try with_reducible rfl)
  simp only [Act.put, List.setIfInBounds_toArray, List.set_cons_zero, List.set_cons_succ, List.getElem_toArray, List.getElem_cons_zero, List.getElem_cons_succ]
  refine wpAnyH_take (i := 5) (v := ?v5) rfl (by kernel_rfl) (by kernel_rfl) (by kernel_rfl) (fun _ _ _ h => h) (Or.inl ⟨by rfl, ?hy5⟩) (by assumption) ?rest5
  case hy5 => (intro w hSw; (try dsimp only at hSw); go_simp; try with_reducible rfl)
  simp only [Act.put, List.setIfInBounds_toArray, List.set_cons_zero, List.set_cons_succ, List.getElem_toArray, List.getElem_cons_zero, List.getElem_cons_succ]
  refine wpAnyH_ready (rs := [6]) (by kernel_rfl) (by simp) ?_
  refine AllReadyH.cons rfl (fun K hK => ?_) AllReadyH.nil
  go_simp
  refine hK.out _ _ (⟨put_cell hHeld.1 (by dsimp only; omega) _ _ _, put_cell hHeld.2.1 (by dsimp only; omega) _ _ _, put_cell hHeld.2.2.1 (by dsimp only; omega) _ _ _, put_cell hHeld.2.2.2.1 (by dsimp only; omega) _ _ _, put_cell hHeld.2.2.2.2.1 (by dsimp only; omega) _ _ _, put_cell hHeld.2.2.2.2.2 (by dsimp only; omega) _ _ _⟩) (fun hHeld => ?_)
  clear hK K
  try simp only [Act.put, List.setIfInBounds_toArray, List.set_cons_zero, List.set_cons_succ, List.getElem_toArray, List.getElem_cons_zero, List.getElem_cons_succ]
  refine wpAnyH_take (i := 7) (v := ?v7) rfl (by kernel_rfl) (by kernel_rfl) (by kernel_rfl) (fun _ _ _ h => h) (Or.inl ⟨by rfl, ?hy7⟩) (by assumption) ?rest7
  case hy7 => (intro w hSw; (try dsimp only at hSw); go_simp; try with_reducible rfl)
  simp only [Act.put, List.setIfInBounds_toArray, List.set_cons_zero, List.set_cons_succ, List.getElem_toArray, List.getElem_cons_zero, List.getElem_cons_succ]
  refine wpAnyH_done (by kernel_rfl) ?_ _
  replace m3 := m3.put DB b3 A3 q3.length c3 x3
  clear DB_0 DB_1 DB_2 DB_f0 DB_f1 DB_f2
  replace DB := Dbx.put DB b3 A3 q3.length c3 x3
  clear hHeld
  have DB_0 := Blk.cell DB 0 rfl
  have DB_1 := Blk.cell DB 1 rfl
  have DB_2 := Blk.cell DB 2 rfl
  have DB_f0 := Blk.free DB 0
  have DB_f1 := Blk.free DB 1
  have DB_f2 := Blk.free DB 2
  go_wp2_with fail
  refine bodyPost_ret (v := .tuple #[dyV b3 A3 q3.length c3 x3, .int .i64 (addR d d2).2]) (by simp [results, Tryz.results26, go_sem, DB_0, DB_1, DB_2]) rfl ?_
  exact ⟨b3, q3, A3, c3, x3, rfl, hd3, m3, by go_grown⟩

end
end Go.Proofs.YtcdbjlmegkcaiaaGreatDoor
namespace Go.Proofs.YtcdbjlmegkcaiaaGreatDoor
open Go.RowKit Go.Sort
set_option linter.unusedVariables false
set_option linter.unusedSimpArgs false

section
variable {b : Bool} {A : Option Addr} {n c : Nat} {x : Int} {l : List Int} {w : World}
variable {b2 : Bool} {A2 : Option Addr} {n2 c2 : Nat} {x2 : Int} {l2 : List Int}
theorem Lv.lim {W : World} {A : Option Addr} {n c : Nat} {l : List Int} (h : Lv W A n c l) : Lim 18446744073709551616 l := h.2.2
/-- places of normal numbers that were handed in -/
theorem exp_bd {b b1 : Bool} {l q : List Int} {x x1 : Int} (h : Lv w A n c l) (hn : n ≤ 4096) (ho : okE x = true) (hd : Dn b1 q x1 (nfl b (val 18446744073709551616 l) x)) : -1048576 ≤ x1 ∧ x1 ≤ 1048576 := by
  have xb := nfl_place (k := 262144) b (x := x) (lim_val h.2.2) (lv_bound h hn)
  rw [hd.exp] at xb
  have xr := (okE_iff x).1 ho
  omega

theorem odd_le_val {b b1 : Bool} {l q : List Int} {x x1 : Int} (hl : Lim 18446744073709551616 l) (hq : Lim 18446744073709551616 q) (hd : Dn b1 q x1 (nfl b (val 18446744073709551616 l) x)) : val 18446744073709551616 q ≤ val 18446744073709551616 l := by
  have h0 := lim_val hl
  have hm := hd.man hq
  rw [← hm]
  rcases (show val 18446744073709551616 l = 0 ∨ 0 < val 18446744073709551616 l by omega) with e | e
  · rw [e, nfl_zero]; decide
  · rw [nfl_pos e]
    have := odd_le (val 18446744073709551616 l).toNat
    simp only
    omega
theorem mul_less {b b1 b2 b3 : Bool} {l q l2 q2 : List Int} {x x1 x2 x3 P : Int} (h : Lv w A n c l) (h2 : Lv w A2 n2 c2 l2) (hd : Dn b1 q x1 (nfl b (val 18446744073709551616 l) x)) (hd2 : Dn b3 q2 x3 (nfl b2 (val 18446744073709551616 l2) x2)) (hq : Lim 18446744073709551616 q) (hq2 : Lim 18446744073709551616 q2)
    (hv : val 18446744073709551616 l * val 18446744073709551616 l2 < P) : val 18446744073709551616 q * val 18446744073709551616 q2 < P := by
  have a := odd_le_val h.2.2 hq hd
  have a2 := odd_le_val h2.2.2 hq2 hd2
  have p := lim_val hq
  have p2 := lim_val hq2
  exact Int.lt_of_le_of_lt (Int.mul_le_mul a a2 p2 (Int.le_trans p a)) hv
set_option maxRecDepth 100000 in
set_option maxHeartbeats 4000000 in
theorem both_add (h : Lv w A n c l) (hn : n ≤ 4096) (h2 : Lv w A2 n2 c2 l2) (hn2 : n2 ≤ 4096) (hT : Tab w) (ho : okE x = true) (ho2 : okE x2 = true) (hN : farN (nfl b (val 18446744073709551616 l) x) (nfl b2 (val 18446744073709551616 l2) x2) = true ∨ Near (nfl b (val 18446744073709551616 l) x) (nfl b2 (val 18446744073709551616 l2) x2)) :
    Calls Tryz.prog 25 #[dyV b A n c x, dyV b2 A2 n2 c2 x2, .func (.func 27) #[] #[]] w (DyK (addR (nfl b (val 18446744073709551616 l) x) (nfl b2 (val 18446744073709551616 l2) x2)).1 (addR (nfl b (val 18446744073709551616 l) x) (nfl b2 (val 18446744073709551616 l2) x2)).2 w) := by
  have PB := Blk.new w [.bool b, .slice A n c, .int .i64 x] 40
  have QB := Blk.new (w.alloc (.cells #[.bool b, .slice A n c, .int .i64 x] 40)) [.bool b2, .slice A2 n2 c2, .int .i64 x2] 40
  simp only [World.size_alloc] at QB
  replace PB := Blk.alloc PB (.cells #[.bool b2, .slice A2 n2 c2, .int .i64 x2] 40)
  have DB := Blk.new ((w.alloc (.cells #[.bool b, .slice A n c, .int .i64 x] 40)).alloc (.cells #[.bool b2, .slice A2 n2 c2, .int .i64 x2] 40)) [.bool false, .slice none 0 0, .int .i64 0] 40
  simp only [World.size_alloc] at DB
  replace PB := Blk.alloc PB (.cells #[.bool false, .slice none 0 0, .int .i64 0] 40)
  replace QB := Blk.alloc QB (.cells #[.bool false, .slice none 0 0, .int .i64 0] 40)
  have bw : Below w.heap.size w (((w.alloc (.cells #[.bool b, .slice A n c, .int .i64 x] 40)).alloc (.cells #[.bool b2, .slice A2 n2 c2, .int .i64 x2] 40)).alloc (.cells #[.bool false, .slice none 0 0, .int .i64 0] 40)) := by go_grown
  have PB_0 := Blk.cell PB 0 rfl
  have PB_1 := Blk.cell PB 1 rfl
  have PB_2 := Blk.cell PB 2 rfl
  have PB_f0 := Blk.free PB 0
  have PB_f1 := Blk.free PB 1
  have PB_f2 := Blk.free PB 2
  have QB_0 := Blk.cell QB 0 rfl
  have QB_1 := Blk.cell QB 1 rfl
  have QB_2 := Blk.cell QB 2 rfl
  have QB_f0 := Blk.free QB 0
  have QB_f1 := Blk.free QB 1
  have QB_f2 := Blk.free QB 2
  have DB_0 := Blk.cell DB 0 rfl
  have DB_1 := Blk.cell DB 1 rfl
  have DB_2 := Blk.cell DB 2 rfl
  have DB_f0 := Blk.free DB 0
  have DB_f1 := Blk.free DB 1
  have DB_f2 := Blk.free DB 2
  go_enter Tryz.func25, Tryz.ntmps25
  go_wp2_with fail
  with_reducible refine (dyTaken_yes (b := b) (x := x) (h.on (by go_grown)) hn (hT.onD (by go_grown)) ho).mono ?_
  rintro e w1 ⟨b3, q3, A3, c3, x3, rfl, hd3, m3, hb⟩
  clear PB_0 PB_1 PB_2 PB_f0 PB_f1 PB_f2
  clear QB_0 QB_1 QB_2 QB_f0 QB_f1 QB_f2
  clear DB_0 DB_1 DB_2 DB_f0 DB_f1 DB_f2
  have hs1 := hb.size
  try simp only [World.size_alloc, World.size_setCell] at hs1
  replace bw : Below w.heap.size w w1 := dy_end (by go_grown) hb
  replace PB := Blk.on PB hb
  replace QB := Blk.on QB hb
  replace DB := Blk.on DB hb
  clear hb
  have PB_0 := Blk.cell PB 0 rfl
  have PB_1 := Blk.cell PB 1 rfl
  have PB_2 := Blk.cell PB 2 rfl
  have PB_f0 := Blk.free PB 0
  have PB_f1 := Blk.free PB 1
  have PB_f2 := Blk.free PB 2
  have QB_0 := Blk.cell QB 0 rfl
  have QB_1 := Blk.cell QB 1 rfl
  have QB_2 := Blk.cell QB 2 rfl
  have QB_f0 := Blk.free QB 0
  have QB_f1 := Blk.free QB 1
  have QB_f2 := Blk.free QB 2
  have DB_0 := Blk.cell DB 0 rfl
  have DB_1 := Blk.cell DB 1 rfl
  have DB_2 := Blk.cell DB 2 rfl
  have DB_f0 := Blk.free DB 0
  have DB_f1 := Blk.free DB 1
  have DB_f2 := Blk.free DB 2
  replace m3 := Lv.put m3 PB (b3) (A3) (q3.length) (c3) (x3)
  replace QB := Blk.putO QB (g := w.heap.size) (by omega) (.bool (b3)) (.slice (A3) (q3.length) (c3)) (.int .i64 (x3))
  replace DB := Blk.putO DB (g := w.heap.size) (by omega) (.bool (b3)) (.slice (A3) (q3.length) (c3)) (.int .i64 (x3))
  replace PB := Dbx.put PB (b3) (A3) (q3.length) (c3) (x3)
  go_wp2_with fail
  with_reducible refine (dyTaken_yes (b := b2) (x := x2) (h2.on (by go_grown)) hn2 (hT.onD (by go_grown)) ho2).mono ?_
  rintro e w2 ⟨b4, q4, A4, c4, x4, rfl, hd4, m4, hb⟩
  clear PB_0 PB_1 PB_2 PB_f0 PB_f1 PB_f2
  clear QB_0 QB_1 QB_2 QB_f0 QB_f1 QB_f2
  clear DB_0 DB_1 DB_2 DB_f0 DB_f1 DB_f2
  have hs2 := hb.size
  try simp only [World.size_alloc, World.size_setCell] at hs2
  replace bw : Below w.heap.size w w2 := dy_end (by go_grown) hb
  replace m3 := Lv.on m3 hb
  replace PB := Blk.on PB hb
  replace QB := Blk.on QB hb
  replace DB := Blk.on DB hb
  clear hb
  have PB_0 := Blk.cell PB 0 rfl
  have PB_1 := Blk.cell PB 1 rfl
  have PB_2 := Blk.cell PB 2 rfl
  have PB_f0 := Blk.free PB 0
  have PB_f1 := Blk.free PB 1
  have PB_f2 := Blk.free PB 2
  have QB_0 := Blk.cell QB 0 rfl
  have QB_1 := Blk.cell QB 1 rfl
  have QB_2 := Blk.cell QB 2 rfl
  have QB_f0 := Blk.free QB 0
  have QB_f1 := Blk.free QB 1
  have QB_f2 := Blk.free QB 2
  have DB_0 := Blk.cell DB 0 rfl
  have DB_1 := Blk.cell DB 1 rfl
  have DB_2 := Blk.cell DB 2 rfl
  have DB_f0 := Blk.free DB 0
  have DB_f1 := Blk.free DB 1
  have DB_f2 := Blk.free DB 2
  replace m3 := Lv.put m3 QB (b4) (A4) (q4.length) (c4) (x4)
  replace m4 := Lv.put m4 QB (b4) (A4) (q4.length) (c4) (x4)
  replace PB := Blk.putO PB (g := (w.heap.size + 1)) (by omega) (.bool (b4)) (.slice (A4) (q4.length) (c4)) (.int .i64 (x4))
  replace DB := Blk.putO DB (g := (w.heap.size + 1)) (by omega) (.bool (b4)) (.slice (A4) (q4.length) (c4)) (.int .i64 (x4))
  replace QB := Dbx.put QB (b4) (A4) (q4.length) (c4) (x4)
  have X3 := exp_bd h hn ho hd3
  have X4 := exp_bd h2 hn2 ho2 hd4
  go_wp2_with fail
  with_reducible refine (sum_dq m3 m4 (hT.onD (by go_grown)) (hd3.dq (Lv.lim m3)) (hd4.dq (Lv.lim m4)) hN X3.1 X3.2 X4.1 X4.2).mono ?_
  rintro e w3 ⟨b5, q5, A5, c5, x5, rfl, hd5, m5, hb⟩
  clear PB_0 PB_1 PB_2 PB_f0 PB_f1 PB_f2
  clear QB_0 QB_1 QB_2 QB_f0 QB_f1 QB_f2
  clear DB_0 DB_1 DB_2 DB_f0 DB_f1 DB_f2
  have hs3 := hb.size
  try simp only [World.size_alloc, World.size_setCell] at hs3
  replace bw : Below w.heap.size w w3 := dy_end (by go_grown) hb
  replace m3 := Lv.on m3 hb
  replace m4 := Lv.on m4 hb
  replace PB := Blk.on PB hb
  replace QB := Blk.on QB hb
  replace DB := Blk.on DB hb
  clear hb
  have PB_0 := Blk.cell PB 0 rfl
  have PB_1 := Blk.cell PB 1 rfl
  have PB_2 := Blk.cell PB 2 rfl
  have PB_f0 := Blk.free PB 0
  have PB_f1 := Blk.free PB 1
  have PB_f2 := Blk.free PB 2
  have QB_0 := Blk.cell QB 0 rfl
  have QB_1 := Blk.cell QB 1 rfl
  have QB_2 := Blk.cell QB 2 rfl
  have QB_f0 := Blk.free QB 0
  have QB_f1 := Blk.free QB 1
  have QB_f2 := Blk.free QB 2
  have DB_0 := Blk.cell DB 0 rfl
  have DB_1 := Blk.cell DB 1 rfl
  have DB_2 := Blk.cell DB 2 rfl
  have DB_f0 := Blk.free DB 0
  have DB_f1 := Blk.free DB 1
  have DB_f2 := Blk.free DB 2
  go_wp2_with fail
  refine bodyPost_ret (v := .tuple #[dyV b5 A5 q5.length c5 x5, .int .i64 (addR (nfl b (val 18446744073709551616 l) x) (nfl b2 (val 18446744073709551616 l2) x2)).2]) (by simp [results, Tryz.results25, go_sem, DB_0, DB_1, DB_2]) rfl ?_
  exact ⟨b5, q5, A5, c5, x5, rfl, hd5, m5.put DB _ _ _ _ _, by go_grown⟩

set_option maxRecDepth 100000 in
set_option maxHeartbeats 4000000 in
theorem both_sub (h : Lv w A n c l) (hn : n ≤ 4096) (h2 : Lv w A2 n2 c2 l2) (hn2 : n2 ≤ 4096) (hT : Tab w) (ho : okE x = true) (ho2 : okE x2 = true) (hN : farN (nfl b (val 18446744073709551616 l) x) (negN (nfl b2 (val 18446744073709551616 l2) x2)) = true ∨ Near (nfl b (val 18446744073709551616 l) x) (negN (nfl b2 (val 18446744073709551616 l2) x2))) :
    Calls Tryz.prog 25 #[dyV b A n c x, dyV b2 A2 n2 c2 x2, .func (.func 26) #[] #[]] w (DyK (addR (nfl b (val 18446744073709551616 l) x) (negN (nfl b2 (val 18446744073709551616 l2) x2))).1 (addR (nfl b (val 18446744073709551616 l) x) (negN (nfl b2 (val 18446744073709551616 l2) x2))).2 w) := by
  have PB := Blk.new w [.bool b, .slice A n c, .int .i64 x] 40
  have QB := Blk.new (w.alloc (.cells #[.bool b, .slice A n c, .int .i64 x] 40)) [.bool b2, .slice A2 n2 c2, .int .i64 x2] 40
  simp only [World.size_alloc] at QB
  replace PB := Blk.alloc PB (.cells #[.bool b2, .slice A2 n2 c2, .int .i64 x2] 40)
  have DB := Blk.new ((w.alloc (.cells #[.bool b, .slice A n c, .int .i64 x] 40)).alloc (.cells #[.bool b2, .slice A2 n2 c2, .int .i64 x2] 40)) [.bool false, .slice none 0 0, .int .i64 0] 40
  simp only [World.size_alloc] at DB
  replace PB := Blk.alloc PB (.cells #[.bool false, .slice none 0 0, .int .i64 0] 40)
  replace QB := Blk.alloc QB (.cells #[.bool false, .slice none 0 0, .int .i64 0] 40)
  have bw : Below w.heap.size w (((w.alloc (.cells #[.bool b, .slice A n c, .int .i64 x] 40)).alloc (.cells #[.bool b2, .slice A2 n2 c2, .int .i64 x2] 40)).alloc (.cells #[.bool false, .slice none 0 0, .int .i64 0] 40)) := by go_grown
  have PB_0 := Blk.cell PB 0 rfl
  have PB_1 := Blk.cell PB 1 rfl
  have PB_2 := Blk.cell PB 2 rfl
  have PB_f0 := Blk.free PB 0
  have PB_f1 := Blk.free PB 1
  have PB_f2 := Blk.free PB 2
  have QB_0 := Blk.cell QB 0 rfl
  have QB_1 := Blk.cell QB 1 rfl
  have QB_2 := Blk.cell QB 2 rfl
  have QB_f0 := Blk.free QB 0
  have QB_f1 := Blk.free QB 1
  have QB_f2 := Blk.free QB 2
  have DB_0 := Blk.cell DB 0 rfl
  have DB_1 := Blk.cell DB 1 rfl
  have DB_2 := Blk.cell DB 2 rfl
  have DB_f0 := Blk.free DB 0
  have DB_f1 := Blk.free DB 1
  have DB_f2 := Blk.free DB 2
  go_enter Tryz.func25, Tryz.ntmps25
  go_wp2_with fail
  with_reducible refine (dyTaken_yes (b := b) (x := x) (h.on (by go_grown)) hn (hT.onD (by go_grown)) ho).mono ?_
  rintro e w1 ⟨b3, q3, A3, c3, x3, rfl, hd3, m3, hb⟩
  clear PB_0 PB_1 PB_2 PB_f0 PB_f1 PB_f2
  clear QB_0 QB_1 QB_2 QB_f0 QB_f1 QB_f2
  clear DB_0 DB_1 DB_2 DB_f0 DB_f1 DB_f2
  have hs1 := hb.size
  try simp only [World.size_alloc, World.size_setCell] at hs1
  replace bw : Below w.heap.size w w1 := dy_end (by go_grown) hb
  replace PB := Blk.on PB hb
  replace QB := Blk.on QB hb
  replace DB := Blk.on DB hb
  clear hb
  have PB_0 := Blk.cell PB 0 rfl
  have PB_1 := Blk.cell PB 1 rfl
  have PB_2 := Blk.cell PB 2 rfl
  have PB_f0 := Blk.free PB 0
  have PB_f1 := Blk.free PB 1
  have PB_f2 := Blk.free PB 2
  have QB_0 := Blk.cell QB 0 rfl
  have QB_1 := Blk.cell QB 1 rfl
  have QB_2 := Blk.cell QB 2 rfl
  have QB_f0 := Blk.free QB 0
  have QB_f1 := Blk.free QB 1
  have QB_f2 := Blk.free QB 2
  have DB_0 := Blk.cell DB 0 rfl
  have DB_1 := Blk.cell DB 1 rfl
  have DB_2 := Blk.cell DB 2 rfl
  have DB_f0 := Blk.free DB 0
  have DB_f1 := Blk.free DB 1
  have DB_f2 := Blk.free DB 2
  replace m3 := Lv.put m3 PB (b3) (A3) (q3.length) (c3) (x3)
  replace QB := Blk.putO QB (g := w.heap.size) (by omega) (.bool (b3)) (.slice (A3) (q3.length) (c3)) (.int .i64 (x3))
  replace DB := Blk.putO DB (g := w.heap.size) (by omega) (.bool (b3)) (.slice (A3) (q3.length) (c3)) (.int .i64 (x3))
  replace PB := Dbx.put PB (b3) (A3) (q3.length) (c3) (x3)
  go_wp2_with fail
  with_reducible refine (dyTaken_yes (b := b2) (x := x2) (h2.on (by go_grown)) hn2 (hT.onD (by go_grown)) ho2).mono ?_
  rintro e w2 ⟨b4, q4, A4, c4, x4, rfl, hd4, m4, hb⟩
  clear PB_0 PB_1 PB_2 PB_f0 PB_f1 PB_f2
  clear QB_0 QB_1 QB_2 QB_f0 QB_f1 QB_f2
  clear DB_0 DB_1 DB_2 DB_f0 DB_f1 DB_f2
  have hs2 := hb.size
  try simp only [World.size_alloc, World.size_setCell] at hs2
  replace bw : Below w.heap.size w w2 := dy_end (by go_grown) hb
  replace m3 := Lv.on m3 hb
  replace PB := Blk.on PB hb
  replace QB := Blk.on QB hb
  replace DB := Blk.on DB hb
  clear hb
  have PB_0 := Blk.cell PB 0 rfl
  have PB_1 := Blk.cell PB 1 rfl
  have PB_2 := Blk.cell PB 2 rfl
  have PB_f0 := Blk.free PB 0
  have PB_f1 := Blk.free PB 1
  have PB_f2 := Blk.free PB 2
  have QB_0 := Blk.cell QB 0 rfl
  have QB_1 := Blk.cell QB 1 rfl
  have QB_2 := Blk.cell QB 2 rfl
  have QB_f0 := Blk.free QB 0
  have QB_f1 := Blk.free QB 1
  have QB_f2 := Blk.free QB 2
  have DB_0 := Blk.cell DB 0 rfl
  have DB_1 := Blk.cell DB 1 rfl
  have DB_2 := Blk.cell DB 2 rfl
  have DB_f0 := Blk.free DB 0
  have DB_f1 := Blk.free DB 1
  have DB_f2 := Blk.free DB 2
  replace m3 := Lv.put m3 QB (b4) (A4) (q4.length) (c4) (x4)
  replace m4 := Lv.put m4 QB (b4) (A4) (q4.length) (c4) (x4)
  replace PB := Blk.putO PB (g := (w.heap.size + 1)) (by omega) (.bool (b4)) (.slice (A4) (q4.length) (c4)) (.int .i64 (x4))
  replace DB := Blk.putO DB (g := (w.heap.size + 1)) (by omega) (.bool (b4)) (.slice (A4) (q4.length) (c4)) (.int .i64 (x4))
  replace QB := Dbx.put QB (b4) (A4) (q4.length) (c4) (x4)
  have X3 := exp_bd h hn ho hd3
  have X4 := exp_bd h2 hn2 ho2 hd4
  go_wp2_with fail
  with_reducible refine (subOne_dn m3 m4 (hT.onD (by go_grown)) (hd3.dq (Lv.lim m3)) (hd4.turn (Lv.lim m4)) hN X3.1 X3.2 X4.1 X4.2).mono ?_
  rintro e w3 ⟨b5, q5, A5, c5, x5, rfl, hd5, m5, hb⟩
  clear PB_0 PB_1 PB_2 PB_f0 PB_f1 PB_f2
  clear QB_0 QB_1 QB_2 QB_f0 QB_f1 QB_f2
  clear DB_0 DB_1 DB_2 DB_f0 DB_f1 DB_f2
  have hs3 := hb.size
  try simp only [World.size_alloc, World.size_setCell] at hs3
  replace bw : Below w.heap.size w w3 := dy_end (by go_grown) hb
  replace m3 := Lv.on m3 hb
  replace m4 := Lv.on m4 hb
  replace PB := Blk.on PB hb
  replace QB := Blk.on QB hb
  replace DB := Blk.on DB hb
  clear hb
  have PB_0 := Blk.cell PB 0 rfl
  have PB_1 := Blk.cell PB 1 rfl
  have PB_2 := Blk.cell PB 2 rfl
  have PB_f0 := Blk.free PB 0
  have PB_f1 := Blk.free PB 1
  have PB_f2 := Blk.free PB 2
  have QB_0 := Blk.cell QB 0 rfl
  have QB_1 := Blk.cell QB 1 rfl
  have QB_2 := Blk.cell QB 2 rfl
  have QB_f0 := Blk.free QB 0
  have QB_f1 := Blk.free QB 1
  have QB_f2 := Blk.free QB 2
  have DB_0 := Blk.cell DB 0 rfl
  have DB_1 := Blk.cell DB 1 rfl
  have DB_2 := Blk.cell DB 2 rfl
  have DB_f0 := Blk.free DB 0
  have DB_f1 := Blk.free DB 1
  have DB_f2 := Blk.free DB 2
  go_wp2_with fail
  refine bodyPost_ret (v := .tuple #[dyV b5 A5 q5.length c5 x5, .int .i64 (addR (nfl b (val 18446744073709551616 l) x) (negN (nfl b2 (val 18446744073709551616 l2) x2))).2]) (by simp [results, Tryz.results25, go_sem, DB_0, DB_1, DB_2]) rfl ?_
  exact ⟨b5, q5, A5, c5, x5, rfl, hd5, m5.put DB _ _ _ _ _, by go_grown⟩

set_option maxRecDepth 100000 in
set_option maxHeartbeats 4000000 in
theorem both_mul (h : Lv w A n c l) (hn : n ≤ 4096) (h2 : Lv w A2 n2 c2 l2) (hn2 : n2 ≤ 4096) (hT : Tab w) (ho : okE x = true) (ho2 : okE x2 = true) (hv : val 18446744073709551616 l * val 18446744073709551616 l2 < 18446744073709551616 ^ 4096) :
    Calls Tryz.prog 25 #[dyV b A n c x, dyV b2 A2 n2 c2 x2, .func (.func 36) #[] #[]] w (DyK (doneR (mulN (nfl b (val 18446744073709551616 l) x) (nfl b2 (val 18446744073709551616 l2) x2))).1 (doneR (mulN (nfl b (val 18446744073709551616 l) x) (nfl b2 (val 18446744073709551616 l2) x2))).2 w) := by
  have PB := Blk.new w [.bool b, .slice A n c, .int .i64 x] 40
  have QB := Blk.new (w.alloc (.cells #[.bool b, .slice A n c, .int .i64 x] 40)) [.bool b2, .slice A2 n2 c2, .int .i64 x2] 40
  simp only [World.size_alloc] at QB
  replace PB := Blk.alloc PB (.cells #[.bool b2, .slice A2 n2 c2, .int .i64 x2] 40)
  have DB := Blk.new ((w.alloc (.cells #[.bool b, .slice A n c, .int .i64 x] 40)).alloc (.cells #[.bool b2, .slice A2 n2 c2, .int .i64 x2] 40)) [.bool false, .slice none 0 0, .int .i64 0] 40
  simp only [World.size_alloc] at DB
  replace PB := Blk.alloc PB (.cells #[.bool false, .slice none 0 0, .int .i64 0] 40)
  replace QB := Blk.alloc QB (.cells #[.bool false, .slice none 0 0, .int .i64 0] 40)
  have bw : Below w.heap.size w (((w.alloc (.cells #[.bool b, .slice A n c, .int .i64 x] 40)).alloc (.cells #[.bool b2, .slice A2 n2 c2, .int .i64 x2] 40)).alloc (.cells #[.bool false, .slice none 0 0, .int .i64 0] 40)) := by go_grown
  have PB_0 := Blk.cell PB 0 rfl
  have PB_1 := Blk.cell PB 1 rfl
  have PB_2 := Blk.cell PB 2 rfl
  have PB_f0 := Blk.free PB 0
  have PB_f1 := Blk.free PB 1
  have PB_f2 := Blk.free PB 2
  have QB_0 := Blk.cell QB 0 rfl
  have QB_1 := Blk.cell QB 1 rfl
  have QB_2 := Blk.cell QB 2 rfl
  have QB_f0 := Blk.free QB 0
  have QB_f1 := Blk.free QB 1
  have QB_f2 := Blk.free QB 2
  have DB_0 := Blk.cell DB 0 rfl
  have DB_1 := Blk.cell DB 1 rfl
  have DB_2 := Blk.cell DB 2 rfl
  have DB_f0 := Blk.free DB 0
  have DB_f1 := Blk.free DB 1
  have DB_f2 := Blk.free DB 2
  go_enter Tryz.func25, Tryz.ntmps25
  go_wp2_with fail
  with_reducible refine (dyTaken_yes (b := b) (x := x) (h.on (by go_grown)) hn (hT.onD (by go_grown)) ho).mono ?_
  rintro e w1 ⟨b3, q3, A3, c3, x3, rfl, hd3, m3, hb⟩
  clear PB_0 PB_1 PB_2 PB_f0 PB_f1 PB_f2
  clear QB_0 QB_1 QB_2 QB_f0 QB_f1 QB_f2
  clear DB_0 DB_1 DB_2 DB_f0 DB_f1 DB_f2
  have hs1 := hb.size
  try simp only [World.size_alloc, World.size_setCell] at hs1
  replace bw : Below w.heap.size w w1 := dy_end (by go_grown) hb
  replace PB := Blk.on PB hb
  replace QB := Blk.on QB hb
  replace DB := Blk.on DB hb
  clear hb
  have PB_0 := Blk.cell PB 0 rfl
  have PB_1 := Blk.cell PB 1 rfl
  have PB_2 := Blk.cell PB 2 rfl
  have PB_f0 := Blk.free PB 0
  have PB_f1 := Blk.free PB 1
  have PB_f2 := Blk.free PB 2
  have QB_0 := Blk.cell QB 0 rfl
  have QB_1 := Blk.cell QB 1 rfl
  have QB_2 := Blk.cell QB 2 rfl
  have QB_f0 := Blk.free QB 0
  have QB_f1 := Blk.free QB 1
  have QB_f2 := Blk.free QB 2
  have DB_0 := Blk.cell DB 0 rfl
  have DB_1 := Blk.cell DB 1 rfl
  have DB_2 := Blk.cell DB 2 rfl
  have DB_f0 := Blk.free DB 0
  have DB_f1 := Blk.free DB 1
  have DB_f2 := Blk.free DB 2
  replace m3 := Lv.put m3 PB (b3) (A3) (q3.length) (c3) (x3)
  replace QB := Blk.putO QB (g := w.heap.size) (by omega) (.bool (b3)) (.slice (A3) (q3.length) (c3)) (.int .i64 (x3))
  replace DB := Blk.putO DB (g := w.heap.size) (by omega) (.bool (b3)) (.slice (A3) (q3.length) (c3)) (.int .i64 (x3))
  replace PB := Dbx.put PB (b3) (A3) (q3.length) (c3) (x3)
  go_wp2_with fail
  with_reducible refine (dyTaken_yes (b := b2) (x := x2) (h2.on (by go_grown)) hn2 (hT.onD (by go_grown)) ho2).mono ?_
  rintro e w2 ⟨b4, q4, A4, c4, x4, rfl, hd4, m4, hb⟩
  clear PB_0 PB_1 PB_2 PB_f0 PB_f1 PB_f2
  clear QB_0 QB_1 QB_2 QB_f0 QB_f1 QB_f2
  clear DB_0 DB_1 DB_2 DB_f0 DB_f1 DB_f2
  have hs2 := hb.size
  try simp only [World.size_alloc, World.size_setCell] at hs2
  replace bw : Below w.heap.size w w2 := dy_end (by go_grown) hb
  replace m3 := Lv.on m3 hb
  replace PB := Blk.on PB hb
  replace QB := Blk.on QB hb
  replace DB := Blk.on DB hb
  clear hb
  have PB_0 := Blk.cell PB 0 rfl
  have PB_1 := Blk.cell PB 1 rfl
  have PB_2 := Blk.cell PB 2 rfl
  have PB_f0 := Blk.free PB 0
  have PB_f1 := Blk.free PB 1
  have PB_f2 := Blk.free PB 2
  have QB_0 := Blk.cell QB 0 rfl
  have QB_1 := Blk.cell QB 1 rfl
  have QB_2 := Blk.cell QB 2 rfl
  have QB_f0 := Blk.free QB 0
  have QB_f1 := Blk.free QB 1
  have QB_f2 := Blk.free QB 2
  have DB_0 := Blk.cell DB 0 rfl
  have DB_1 := Blk.cell DB 1 rfl
  have DB_2 := Blk.cell DB 2 rfl
  have DB_f0 := Blk.free DB 0
  have DB_f1 := Blk.free DB 1
  have DB_f2 := Blk.free DB 2
  replace m3 := Lv.put m3 QB (b4) (A4) (q4.length) (c4) (x4)
  replace m4 := Lv.put m4 QB (b4) (A4) (q4.length) (c4) (x4)
  replace PB := Blk.putO PB (g := (w.heap.size + 1)) (by omega) (.bool (b4)) (.slice (A4) (q4.length) (c4)) (.int .i64 (x4))
  replace DB := Blk.putO DB (g := (w.heap.size + 1)) (by omega) (.bool (b4)) (.slice (A4) (q4.length) (c4)) (.int .i64 (x4))
  replace QB := Dbx.put QB (b4) (A4) (q4.length) (c4) (x4)
  have X3 := exp_bd h hn ho hd3
  have X4 := exp_bd h2 hn2 ho2 hd4
  go_wp2_with fail
  with_reducible refine (product_dn m3 (Dn.len hd3) m4 (Dn.len hd4) hd3 hd4 (mul_less h h2 hd3 hd4 (Lv.lim m3) (Lv.lim m4) hv) X3.1 X3.2 X4.1 X4.2).mono ?_
  rintro e w3 ⟨b5, q5, A5, c5, x5, rfl, hd5, m5, hb⟩
  clear PB_0 PB_1 PB_2 PB_f0 PB_f1 PB_f2
  clear QB_0 QB_1 QB_2 QB_f0 QB_f1 QB_f2
  clear DB_0 DB_1 DB_2 DB_f0 DB_f1 DB_f2
  have hs3 := hb.size
  try simp only [World.size_alloc, World.size_setCell] at hs3
  replace bw : Below w.heap.size w w3 := dy_end (by go_grown) hb
  replace m3 := Lv.on m3 hb
  replace m4 := Lv.on m4 hb
  replace PB := Blk.on PB hb
  replace QB := Blk.on QB hb
  replace DB := Blk.on DB hb
  clear hb
  have PB_0 := Blk.cell PB 0 rfl
  have PB_1 := Blk.cell PB 1 rfl
  have PB_2 := Blk.cell PB 2 rfl
  have PB_f0 := Blk.free PB 0
  have PB_f1 := Blk.free PB 1
  have PB_f2 := Blk.free PB 2
  have QB_0 := Blk.cell QB 0 rfl
  have QB_1 := Blk.cell QB 1 rfl
  have QB_2 := Blk.cell QB 2 rfl
  have QB_f0 := Blk.free QB 0
  have QB_f1 := Blk.free QB 1
  have QB_f2 := Blk.free QB 2
  have DB_0 := Blk.cell DB 0 rfl
  have DB_1 := Blk.cell DB 1 rfl
  have DB_2 := Blk.cell DB 2 rfl
  have DB_f0 := Blk.free DB 0
  have DB_f1 := Blk.free DB 1
  have DB_f2 := Blk.free DB 2
  go_wp2_with fail
  refine bodyPost_ret (v := .tuple #[dyV b5 A5 q5.length c5 x5, .int .i64 (doneR (mulN (nfl b (val 18446744073709551616 l) x) (nfl b2 (val 18446744073709551616 l2) x2))).2]) (by simp [results, Tryz.results25, go_sem, DB_0, DB_1, DB_2]) rfl ?_
  exact ⟨b5, q5, A5, c5, x5, rfl, hd5, m5.put DB _ _ _ _ _, by go_grown⟩

set_option maxRecDepth 100000 in
set_option maxHeartbeats 4000000 in
theorem both_ng (h : Lv w A n c l) (hn : n ≤ 4096) (h2 : Lv w A2 n2 c2 l2) (hn2 : n2 ≤ 4096) (hT : Tab w) (ho : okE x = false) (ho2 : okE x2 = true) (fv : Value) :
    Calls Tryz.prog 25 #[dyV b A n c x, dyV b2 A2 n2 c2 x2, fv] w (DyK zeroN 2 w) := by
  have PB := Blk.new w [.bool b, .slice A n c, .int .i64 x] 40
  have QB := Blk.new (w.alloc (.cells #[.bool b, .slice A n c, .int .i64 x] 40)) [.bool b2, .slice A2 n2 c2, .int .i64 x2] 40
  simp only [World.size_alloc] at QB
  replace PB := Blk.alloc PB (.cells #[.bool b2, .slice A2 n2 c2, .int .i64 x2] 40)
  have DB := Blk.new ((w.alloc (.cells #[.bool b, .slice A n c, .int .i64 x] 40)).alloc (.cells #[.bool b2, .slice A2 n2 c2, .int .i64 x2] 40)) [.bool false, .slice none 0 0, .int .i64 0] 40
  simp only [World.size_alloc] at DB
  replace PB := Blk.alloc PB (.cells #[.bool false, .slice none 0 0, .int .i64 0] 40)
  replace QB := Blk.alloc QB (.cells #[.bool false, .slice none 0 0, .int .i64 0] 40)
  have bw : Below w.heap.size w (((w.alloc (.cells #[.bool b, .slice A n c, .int .i64 x] 40)).alloc (.cells #[.bool b2, .slice A2 n2 c2, .int .i64 x2] 40)).alloc (.cells #[.bool false, .slice none 0 0, .int .i64 0] 40)) := by go_grown
  have PB_0 := Blk.cell PB 0 rfl
  have PB_1 := Blk.cell PB 1 rfl
  have PB_2 := Blk.cell PB 2 rfl
  have PB_f0 := Blk.free PB 0
  have PB_f1 := Blk.free PB 1
  have PB_f2 := Blk.free PB 2
  have QB_0 := Blk.cell QB 0 rfl
  have QB_1 := Blk.cell QB 1 rfl
  have QB_2 := Blk.cell QB 2 rfl
  have QB_f0 := Blk.free QB 0
  have QB_f1 := Blk.free QB 1
  have QB_f2 := Blk.free QB 2
  have DB_0 := Blk.cell DB 0 rfl
  have DB_1 := Blk.cell DB 1 rfl
  have DB_2 := Blk.cell DB 2 rfl
  have DB_f0 := Blk.free DB 0
  have DB_f1 := Blk.free DB 1
  have DB_f2 := Blk.free DB 2
  go_enter Tryz.func25, Tryz.ntmps25
  go_wp2_with fail
  with_reducible refine (dyTaken_no (b := b) (x := x) (h.on (by go_grown)) hn ho).mono ?_
  rintro e w1 ⟨b3, q3, A3, c3, x3, rfl, hd3, m3, hb⟩
  clear PB_0 PB_1 PB_2 PB_f0 PB_f1 PB_f2
  clear QB_0 QB_1 QB_2 QB_f0 QB_f1 QB_f2
  clear DB_0 DB_1 DB_2 DB_f0 DB_f1 DB_f2
  have hs1 := hb.size
  try simp only [World.size_alloc, World.size_setCell] at hs1
  replace bw : Below w.heap.size w w1 := dy_end (by go_grown) hb
  replace PB := Blk.on PB hb
  replace QB := Blk.on QB hb
  replace DB := Blk.on DB hb
  clear hb
  have PB_0 := Blk.cell PB 0 rfl
  have PB_1 := Blk.cell PB 1 rfl
  have PB_2 := Blk.cell PB 2 rfl
  have PB_f0 := Blk.free PB 0
  have PB_f1 := Blk.free PB 1
  have PB_f2 := Blk.free PB 2
  have QB_0 := Blk.cell QB 0 rfl
  have QB_1 := Blk.cell QB 1 rfl
  have QB_2 := Blk.cell QB 2 rfl
  have QB_f0 := Blk.free QB 0
  have QB_f1 := Blk.free QB 1
  have QB_f2 := Blk.free QB 2
  have DB_0 := Blk.cell DB 0 rfl
  have DB_1 := Blk.cell DB 1 rfl
  have DB_2 := Blk.cell DB 2 rfl
  have DB_f0 := Blk.free DB 0
  have DB_f1 := Blk.free DB 1
  have DB_f2 := Blk.free DB 2
  replace m3 := Lv.put m3 PB (b3) (A3) (q3.length) (c3) (x3)
  replace QB := Blk.putO QB (g := w.heap.size) (by omega) (.bool (b3)) (.slice (A3) (q3.length) (c3)) (.int .i64 (x3))
  replace DB := Blk.putO DB (g := w.heap.size) (by omega) (.bool (b3)) (.slice (A3) (q3.length) (c3)) (.int .i64 (x3))
  replace PB := Dbx.put PB (b3) (A3) (q3.length) (c3) (x3)
  go_wp2_with fail
  with_reducible refine (dyTaken_yes (b := b2) (x := x2) (h2.on (by go_grown)) hn2 (hT.onD (by go_grown)) ho2).mono ?_
  rintro e w2 ⟨b4, q4, A4, c4, x4, rfl, hd4, m4, hb⟩
  clear PB_0 PB_1 PB_2 PB_f0 PB_f1 PB_f2
  clear QB_0 QB_1 QB_2 QB_f0 QB_f1 QB_f2
  clear DB_0 DB_1 DB_2 DB_f0 DB_f1 DB_f2
  have hs2 := hb.size
  try simp only [World.size_alloc, World.size_setCell] at hs2
  replace bw : Below w.heap.size w w2 := dy_end (by go_grown) hb
  replace m3 := Lv.on m3 hb
  replace PB := Blk.on PB hb
  replace QB := Blk.on QB hb
  replace DB := Blk.on DB hb
  clear hb
  have PB_0 := Blk.cell PB 0 rfl
  have PB_1 := Blk.cell PB 1 rfl
  have PB_2 := Blk.cell PB 2 rfl
  have PB_f0 := Blk.free PB 0
  have PB_f1 := Blk.free PB 1
  have PB_f2 := Blk.free PB 2
  have QB_0 := Blk.cell QB 0 rfl
  have QB_1 := Blk.cell QB 1 rfl
  have QB_2 := Blk.cell QB 2 rfl
  have QB_f0 := Blk.free QB 0
  have QB_f1 := Blk.free QB 1
  have QB_f2 := Blk.free QB 2
  have DB_0 := Blk.cell DB 0 rfl
  have DB_1 := Blk.cell DB 1 rfl
  have DB_2 := Blk.cell DB 2 rfl
  have DB_f0 := Blk.free DB 0
  have DB_f1 := Blk.free DB 1
  have DB_f2 := Blk.free DB 2
  replace m3 := Lv.put m3 QB (b4) (A4) (q4.length) (c4) (x4)
  replace m4 := Lv.put m4 QB (b4) (A4) (q4.length) (c4) (x4)
  replace PB := Blk.putO PB (g := (w.heap.size + 1)) (by omega) (.bool (b4)) (.slice (A4) (q4.length) (c4)) (.int .i64 (x4))
  replace DB := Blk.putO DB (g := (w.heap.size + 1)) (by omega) (.bool (b4)) (.slice (A4) (q4.length) (c4)) (.int .i64 (x4))
  replace QB := Dbx.put QB (b4) (A4) (q4.length) (c4) (x4)
  clear DB_0 DB_1 DB_2 DB_f0 DB_f1 DB_f2
  have DB_0 := Blk.cell DB 0 rfl
  have DB_1 := Blk.cell DB 1 rfl
  have DB_2 := Blk.cell DB 2 rfl
  have DB_f0 := Blk.free DB 0
  have DB_f1 := Blk.free DB 1
  have DB_f2 := Blk.free DB 2
  go_wp2_with fail
  refine bodyPost_ret (v := .tuple #[dyV false none 0 0 0, .int .i64 2]) (by simp [results, Tryz.results25, go_sem, DB_0, DB_1, DB_2]) rfl ?_
  exact ⟨false, [], none, 0, 0, rfl, Dn.zero, lv_nil _, by go_grown⟩

set_option maxRecDepth 100000 in
set_option maxHeartbeats 4000000 in
theorem both_nn (h : Lv w A n c l) (hn : n ≤ 4096) (h2 : Lv w A2 n2 c2 l2) (hn2 : n2 ≤ 4096) (hT : Tab w) (ho : okE x = false) (ho2 : okE x2 = false) (fv : Value) :
    Calls Tryz.prog 25 #[dyV b A n c x, dyV b2 A2 n2 c2 x2, fv] w (DyK zeroN 2 w) := by
  have PB := Blk.new w [.bool b, .slice A n c, .int .i64 x] 40
  have QB := Blk.new (w.alloc (.cells #[.bool b, .slice A n c, .int .i64 x] 40)) [.bool b2, .slice A2 n2 c2, .int .i64 x2] 40
  simp only [World.size_alloc] at QB
  replace PB := Blk.alloc PB (.cells #[.bool b2, .slice A2 n2 c2, .int .i64 x2] 40)
  have DB := Blk.new ((w.alloc (.cells #[.bool b, .slice A n c, .int .i64 x] 40)).alloc (.cells #[.bool b2, .slice A2 n2 c2, .int .i64 x2] 40)) [.bool false, .slice none 0 0, .int .i64 0] 40
  simp only [World.size_alloc] at DB
  replace PB := Blk.alloc PB (.cells #[.bool false, .slice none 0 0, .int .i64 0] 40)
  replace QB := Blk.alloc QB (.cells #[.bool false, .slice none 0 0, .int .i64 0] 40)
  have bw : Below w.heap.size w (((w.alloc (.cells #[.bool b, .slice A n c, .int .i64 x] 40)).alloc (.cells #[.bool b2, .slice A2 n2 c2, .int .i64 x2] 40)).alloc (.cells #[.bool false, .slice none 0 0, .int .i64 0] 40)) := by go_grown
  have PB_0 := Blk.cell PB 0 rfl
  have PB_1 := Blk.cell PB 1 rfl
  have PB_2 := Blk.cell PB 2 rfl
  have PB_f0 := Blk.free PB 0
  have PB_f1 := Blk.free PB 1
  have PB_f2 := Blk.free PB 2
  have QB_0 := Blk.cell QB 0 rfl
  have QB_1 := Blk.cell QB 1 rfl
  have QB_2 := Blk.cell QB 2 rfl
  have QB_f0 := Blk.free QB 0
  have QB_f1 := Blk.free QB 1
  have QB_f2 := Blk.free QB 2
  have DB_0 := Blk.cell DB 0 rfl
  have DB_1 := Blk.cell DB 1 rfl
  have DB_2 := Blk.cell DB 2 rfl
  have DB_f0 := Blk.free DB 0
  have DB_f1 := Blk.free DB 1
  have DB_f2 := Blk.free DB 2
  go_enter Tryz.func25, Tryz.ntmps25
  go_wp2_with fail
  with_reducible refine (dyTaken_no (b := b) (x := x) (h.on (by go_grown)) hn ho).mono ?_
  rintro e w1 ⟨b3, q3, A3, c3, x3, rfl, hd3, m3, hb⟩
  clear PB_0 PB_1 PB_2 PB_f0 PB_f1 PB_f2
  clear QB_0 QB_1 QB_2 QB_f0 QB_f1 QB_f2
  clear DB_0 DB_1 DB_2 DB_f0 DB_f1 DB_f2
  have hs1 := hb.size
  try simp only [World.size_alloc, World.size_setCell] at hs1
  replace bw : Below w.heap.size w w1 := dy_end (by go_grown) hb
  replace PB := Blk.on PB hb
  replace QB := Blk.on QB hb
  replace DB := Blk.on DB hb
  clear hb
  have PB_0 := Blk.cell PB 0 rfl
  have PB_1 := Blk.cell PB 1 rfl
  have PB_2 := Blk.cell PB 2 rfl
  have PB_f0 := Blk.free PB 0
  have PB_f1 := Blk.free PB 1
  have PB_f2 := Blk.free PB 2
  have QB_0 := Blk.cell QB 0 rfl
  have QB_1 := Blk.cell QB 1 rfl
  have QB_2 := Blk.cell QB 2 rfl
  have QB_f0 := Blk.free QB 0
  have QB_f1 := Blk.free QB 1
  have QB_f2 := Blk.free QB 2
  have DB_0 := Blk.cell DB 0 rfl
  have DB_1 := Blk.cell DB 1 rfl
  have DB_2 := Blk.cell DB 2 rfl
  have DB_f0 := Blk.free DB 0
  have DB_f1 := Blk.free DB 1
  have DB_f2 := Blk.free DB 2
  replace m3 := Lv.put m3 PB (b3) (A3) (q3.length) (c3) (x3)
  replace QB := Blk.putO QB (g := w.heap.size) (by omega) (.bool (b3)) (.slice (A3) (q3.length) (c3)) (.int .i64 (x3))
  replace DB := Blk.putO DB (g := w.heap.size) (by omega) (.bool (b3)) (.slice (A3) (q3.length) (c3)) (.int .i64 (x3))
  replace PB := Dbx.put PB (b3) (A3) (q3.length) (c3) (x3)
  go_wp2_with fail
  with_reducible refine (dyTaken_no (b := b2) (x := x2) (h2.on (by go_grown)) hn2 ho2).mono ?_
  rintro e w2 ⟨b4, q4, A4, c4, x4, rfl, hd4, m4, hb⟩
  clear PB_0 PB_1 PB_2 PB_f0 PB_f1 PB_f2
  clear QB_0 QB_1 QB_2 QB_f0 QB_f1 QB_f2
  clear DB_0 DB_1 DB_2 DB_f0 DB_f1 DB_f2
  have hs2 := hb.size
  try simp only [World.size_alloc, World.size_setCell] at hs2
  replace bw : Below w.heap.size w w2 := dy_end (by go_grown) hb
  replace m3 := Lv.on m3 hb
  replace PB := Blk.on PB hb
  replace QB := Blk.on QB hb
  replace DB := Blk.on DB hb
  clear hb
  have PB_0 := Blk.cell PB 0 rfl
  have PB_1 := Blk.cell PB 1 rfl
  have PB_2 := Blk.cell PB 2 rfl
  have PB_f0 := Blk.free PB 0
  have PB_f1 := Blk.free PB 1
  have PB_f2 := Blk.free PB 2
  have QB_0 := Blk.cell QB 0 rfl
  have QB_1 := Blk.cell QB 1 rfl
  have QB_2 := Blk.cell QB 2 rfl
  have QB_f0 := Blk.free QB 0
  have QB_f1 := Blk.free QB 1
  have QB_f2 := Blk.free QB 2
  have DB_0 := Blk.cell DB 0 rfl
  have DB_1 := Blk.cell DB 1 rfl
  have DB_2 := Blk.cell DB 2 rfl
  have DB_f0 := Blk.free DB 0
  have DB_f1 := Blk.free DB 1
  have DB_f2 := Blk.free DB 2
  replace m3 := Lv.put m3 QB (b4) (A4) (q4.length) (c4) (x4)
  replace m4 := Lv.put m4 QB (b4) (A4) (q4.length) (c4) (x4)
  replace PB := Blk.putO PB (g := (w.heap.size + 1)) (by omega) (.bool (b4)) (.slice (A4) (q4.length) (c4)) (.int .i64 (x4))
  replace DB := Blk.putO DB (g := (w.heap.size + 1)) (by omega) (.bool (b4)) (.slice (A4) (q4.length) (c4)) (.int .i64 (x4))
  replace QB := Dbx.put QB (b4) (A4) (q4.length) (c4) (x4)
  clear DB_0 DB_1 DB_2 DB_f0 DB_f1 DB_f2
  have DB_0 := Blk.cell DB 0 rfl
  have DB_1 := Blk.cell DB 1 rfl
  have DB_2 := Blk.cell DB 2 rfl
  have DB_f0 := Blk.free DB 0
  have DB_f1 := Blk.free DB 1
  have DB_f2 := Blk.free DB 2
  go_wp2_with fail
  refine bodyPost_ret (v := .tuple #[dyV false none 0 0 0, .int .i64 2]) (by simp [results, Tryz.results25, go_sem, DB_0, DB_1, DB_2]) rfl ?_
  exact ⟨false, [], none, 0, 0, rfl, Dn.zero, lv_nil _, by go_grown⟩

set_option maxRecDepth 100000 in
set_option maxHeartbeats 4000000 in
theorem both_gn (h : Lv w A n c l) (hn : n ≤ 4096) (h2 : Lv w A2 n2 c2 l2) (hn2 : n2 ≤ 4096) (hT : Tab w) (ho : okE x = true) (ho2 : okE x2 = false) (fv : Value) :
    Calls Tryz.prog 25 #[dyV b A n c x, dyV b2 A2 n2 c2 x2, fv] w (DyK zeroN 2 w) := by
  have PB := Blk.new w [.bool b, .slice A n c, .int .i64 x] 40
  have QB := Blk.new (w.alloc (.cells #[.bool b, .slice A n c, .int .i64 x] 40)) [.bool b2, .slice A2 n2 c2, .int .i64 x2] 40
  simp only [World.size_alloc] at QB
  replace PB := Blk.alloc PB (.cells #[.bool b2, .slice A2 n2 c2, .int .i64 x2] 40)
  have DB := Blk.new ((w.alloc (.cells #[.bool b, .slice A n c, .int .i64 x] 40)).alloc (.cells #[.bool b2, .slice A2 n2 c2, .int .i64 x2] 40)) [.bool false, .slice none 0 0, .int .i64 0] 40
  simp only [World.size_alloc] at DB
  replace PB := Blk.alloc PB (.cells #[.bool false, .slice none 0 0, .int .i64 0] 40)
  replace QB := Blk.alloc QB (.cells #[.bool false, .slice none 0 0, .int .i64 0] 40)
  have bw : Below w.heap.size w (((w.alloc (.cells #[.bool b, .slice A n c, .int .i64 x] 40)).alloc (.cells #[.bool b2, .slice A2 n2 c2, .int .i64 x2] 40)).alloc (.cells #[.bool false, .slice none 0 0, .int .i64 0] 40)) := by go_grown
  have PB_0 := Blk.cell PB 0 rfl
  have PB_1 := Blk.cell PB 1 rfl
  have PB_2 := Blk.cell PB 2 rfl
  have PB_f0 := Blk.free PB 0
  have PB_f1 := Blk.free PB 1
  have PB_f2 := Blk.free PB 2
  have QB_0 := Blk.cell QB 0 rfl
  have QB_1 := Blk.cell QB 1 rfl
  have QB_2 := Blk.cell QB 2 rfl
  have QB_f0 := Blk.free QB 0
  have QB_f1 := Blk.free QB 1
  have QB_f2 := Blk.free QB 2
  have DB_0 := Blk.cell DB 0 rfl
  have DB_1 := Blk.cell DB 1 rfl
  have DB_2 := Blk.cell DB 2 rfl
  have DB_f0 := Blk.free DB 0
  have DB_f1 := Blk.free DB 1
  have DB_f2 := Blk.free DB 2
  go_enter Tryz.func25, Tryz.ntmps25
  go_wp2_with fail
  with_reducible refine (dyTaken_yes (b := b) (x := x) (h.on (by go_grown)) hn (hT.onD (by go_grown)) ho).mono ?_
  rintro e w1 ⟨b3, q3, A3, c3, x3, rfl, hd3, m3, hb⟩
  clear PB_0 PB_1 PB_2 PB_f0 PB_f1 PB_f2
  clear QB_0 QB_1 QB_2 QB_f0 QB_f1 QB_f2
  clear DB_0 DB_1 DB_2 DB_f0 DB_f1 DB_f2
  have hs1 := hb.size
  try simp only [World.size_alloc, World.size_setCell] at hs1
  replace bw : Below w.heap.size w w1 := dy_end (by go_grown) hb
  replace PB := Blk.on PB hb
  replace QB := Blk.on QB hb
  replace DB := Blk.on DB hb
  clear hb
  have PB_0 := Blk.cell PB 0 rfl
  have PB_1 := Blk.cell PB 1 rfl
  have PB_2 := Blk.cell PB 2 rfl
  have PB_f0 := Blk.free PB 0
  have PB_f1 := Blk.free PB 1
  have PB_f2 := Blk.free PB 2
  have QB_0 := Blk.cell QB 0 rfl
  have QB_1 := Blk.cell QB 1 rfl
  have QB_2 := Blk.cell QB 2 rfl
  have QB_f0 := Blk.free QB 0
  have QB_f1 := Blk.free QB 1
  have QB_f2 := Blk.free QB 2
  have DB_0 := Blk.cell DB 0 rfl
  have DB_1 := Blk.cell DB 1 rfl
  have DB_2 := Blk.cell DB 2 rfl
  have DB_f0 := Blk.free DB 0
  have DB_f1 := Blk.free DB 1
  have DB_f2 := Blk.free DB 2
  replace m3 := Lv.put m3 PB (b3) (A3) (q3.length) (c3) (x3)
  replace QB := Blk.putO QB (g := w.heap.size) (by omega) (.bool (b3)) (.slice (A3) (q3.length) (c3)) (.int .i64 (x3))
  replace DB := Blk.putO DB (g := w.heap.size) (by omega) (.bool (b3)) (.slice (A3) (q3.length) (c3)) (.int .i64 (x3))
  replace PB := Dbx.put PB (b3) (A3) (q3.length) (c3) (x3)
  go_wp2_with fail
  with_reducible refine (dyTaken_no (b := b2) (x := x2) (h2.on (by go_grown)) hn2 ho2).mono ?_
  rintro e w2 ⟨b4, q4, A4, c4, x4, rfl, hd4, m4, hb⟩
  clear PB_0 PB_1 PB_2 PB_f0 PB_f1 PB_f2
  clear QB_0 QB_1 QB_2 QB_f0 QB_f1 QB_f2
  clear DB_0 DB_1 DB_2 DB_f0 DB_f1 DB_f2
  have hs2 := hb.size
  try simp only [World.size_alloc, World.size_setCell] at hs2
  replace bw : Below w.heap.size w w2 := dy_end (by go_grown) hb
  replace m3 := Lv.on m3 hb
  replace PB := Blk.on PB hb
  replace QB := Blk.on QB hb
  replace DB := Blk.on DB hb
  clear hb
  have PB_0 := Blk.cell PB 0 rfl
  have PB_1 := Blk.cell PB 1 rfl
  have PB_2 := Blk.cell PB 2 rfl
  have PB_f0 := Blk.free PB 0
  have PB_f1 := Blk.free PB 1
  have PB_f2 := Blk.free PB 2
  have QB_0 := Blk.cell QB 0 rfl
  have QB_1 := Blk.cell QB 1 rfl
  have QB_2 := Blk.cell QB 2 rfl
  have QB_f0 := Blk.free QB 0
  have QB_f1 := Blk.free QB 1
  have QB_f2 := Blk.free QB 2
  have DB_0 := Blk.cell DB 0 rfl
  have DB_1 := Blk.cell DB 1 rfl
  have DB_2 := Blk.cell DB 2 rfl
  have DB_f0 := Blk.free DB 0
  have DB_f1 := Blk.free DB 1
  have DB_f2 := Blk.free DB 2
  replace m3 := Lv.put m3 QB (b4) (A4) (q4.length) (c4) (x4)
  replace m4 := Lv.put m4 QB (b4) (A4) (q4.length) (c4) (x4)
  replace PB := Blk.putO PB (g := (w.heap.size + 1)) (by omega) (.bool (b4)) (.slice (A4) (q4.length) (c4)) (.int .i64 (x4))
  replace DB := Blk.putO DB (g := (w.heap.size + 1)) (by omega) (.bool (b4)) (.slice (A4) (q4.length) (c4)) (.int .i64 (x4))
  replace QB := Dbx.put QB (b4) (A4) (q4.length) (c4) (x4)
  clear DB_0 DB_1 DB_2 DB_f0 DB_f1 DB_f2
  have DB_0 := Blk.cell DB 0 rfl
  have DB_1 := Blk.cell DB 1 rfl
  have DB_2 := Blk.cell DB 2 rfl
  have DB_f0 := Blk.free DB 0
  have DB_f1 := Blk.free DB 1
  have DB_f2 := Blk.free DB 2
  go_wp2_with fail
  refine bodyPost_ret (v := .tuple #[dyV false none 0 0 0, .int .i64 2]) (by simp [results, Tryz.results25, go_sem, DB_0, DB_1, DB_2]) rfl ?_
  exact ⟨false, [], none, 0, 0, rfl, Dn.zero, lv_nil _, by go_grown⟩


theorem dboth_any (h : Lv w A n c l) (hn : n ≤ 4096) (h2 : Lv w A2 n2 c2 l2) (hn2 : n2 ≤ 4096) (hT : Tab w) (ho : may2 x x2 = false) (fv : Value) :
    Calls Tryz.prog 25 #[dyV b A n c x, dyV b2 A2 n2 c2 x2, fv] w (DyK zeroN 2 w) := by
  unfold may2 at ho
  cases h0 : okE x <;> cases h1 : okE x2
  · exact both_nn h hn h2 hn2 hT h0 h1 fv
  · exact both_ng h hn h2 hn2 hT h0 h1 fv
  · exact both_gn h hn h2 hn2 hT h0 h1 fv
  · rw [h0, h1] at ho; cases ho
set_option maxRecDepth 100000 in
set_option maxHeartbeats 4000000 in
theorem dSub_yes (h : Lv w A n c l) (hn : n ≤ 4096) (h2 : Lv w A2 n2 c2 l2) (hn2 : n2 ≤ 4096) (hT : Tab w) (ho : okE x = true) (ho2 : okE x2 = true) (hN : farN (nfl b (val 18446744073709551616 l) x) (negN (nfl b2 (val 18446744073709551616 l2) x2)) = true ∨ Near (nfl b (val 18446744073709551616 l) x) (negN (nfl b2 (val 18446744073709551616 l2) x2))) :
    Calls Tryz.prog 9 #[dyV b A n c x, dyV b2 A2 n2 c2 x2] w (DyK (addR (nfl b (val 18446744073709551616 l) x) (negN (nfl b2 (val 18446744073709551616 l2) x2))).1 (addR (nfl b (val 18446744073709551616 l) x) (negN (nfl b2 (val 18446744073709551616 l2) x2))).2 w) := by
  have PB := Blk.new w [.bool b, .slice A n c, .int .i64 x] 40
  have QB := Blk.new (w.alloc (.cells #[.bool b, .slice A n c, .int .i64 x] 40)) [.bool b2, .slice A2 n2 c2, .int .i64 x2] 40
  simp only [World.size_alloc] at QB
  replace PB := Blk.alloc PB (.cells #[.bool b2, .slice A2 n2 c2, .int .i64 x2] 40)
  have DB := Blk.new ((w.alloc (.cells #[.bool b, .slice A n c, .int .i64 x] 40)).alloc (.cells #[.bool b2, .slice A2 n2 c2, .int .i64 x2] 40)) [.bool false, .slice none 0 0, .int .i64 0] 40
  simp only [World.size_alloc] at DB
  replace PB := Blk.alloc PB (.cells #[.bool false, .slice none 0 0, .int .i64 0] 40)
  replace QB := Blk.alloc QB (.cells #[.bool false, .slice none 0 0, .int .i64 0] 40)
  have bw : Below w.heap.size w (((w.alloc (.cells #[.bool b, .slice A n c, .int .i64 x] 40)).alloc (.cells #[.bool b2, .slice A2 n2 c2, .int .i64 x2] 40)).alloc (.cells #[.bool false, .slice none 0 0, .int .i64 0] 40)) := by go_grown
  have PB_0 := Blk.cell PB 0 rfl
  have PB_1 := Blk.cell PB 1 rfl
  have PB_2 := Blk.cell PB 2 rfl
  have PB_f0 := Blk.free PB 0
  have PB_f1 := Blk.free PB 1
  have PB_f2 := Blk.free PB 2
  have QB_0 := Blk.cell QB 0 rfl
  have QB_1 := Blk.cell QB 1 rfl
  have QB_2 := Blk.cell QB 2 rfl
  have QB_f0 := Blk.free QB 0
  have QB_f1 := Blk.free QB 1
  have QB_f2 := Blk.free QB 2
  have DB_0 := Blk.cell DB 0 rfl
  have DB_1 := Blk.cell DB 1 rfl
  have DB_2 := Blk.cell DB 2 rfl
  have DB_f0 := Blk.free DB 0
  have DB_f1 := Blk.free DB 1
  have DB_f2 := Blk.free DB 2
  go_enter Tryz.func9, Tryz.ntmps9
  go_wp2_with fail
  with_reducible refine (both_sub (b := b) (b2 := b2) (x := x) (x2 := x2) (h.on (by go_grown)) hn (h2.on (by go_grown)) hn2 (hT.onD (by go_grown)) ho ho2 hN).mono ?_
  rintro e w1 ⟨b3, q3, A3, c3, x3, rfl, hd3, m3, hb⟩
  clear PB_0 PB_1 PB_2 PB_f0 PB_f1 PB_f2
  clear QB_0 QB_1 QB_2 QB_f0 QB_f1 QB_f2
  clear DB_0 DB_1 DB_2 DB_f0 DB_f1 DB_f2
  have hs1 := hb.size
  try simp only [World.size_alloc, World.size_setCell] at hs1
  replace bw : Below w.heap.size w w1 := dy_end (by go_grown) hb
  replace PB := Blk.on PB hb
  replace QB := Blk.on QB hb
  replace DB := Blk.on DB hb
  clear hb
  have PB_0 := Blk.cell PB 0 rfl
  have PB_1 := Blk.cell PB 1 rfl
  have PB_2 := Blk.cell PB 2 rfl
  have PB_f0 := Blk.free PB 0
  have PB_f1 := Blk.free PB 1
  have PB_f2 := Blk.free PB 2
  have QB_0 := Blk.cell QB 0 rfl
  have QB_1 := Blk.cell QB 1 rfl
  have QB_2 := Blk.cell QB 2 rfl
  have QB_f0 := Blk.free QB 0
  have QB_f1 := Blk.free QB 1
  have QB_f2 := Blk.free QB 2
  have DB_0 := Blk.cell DB 0 rfl
  have DB_1 := Blk.cell DB 1 rfl
  have DB_2 := Blk.cell DB 2 rfl
  have DB_f0 := Blk.free DB 0
  have DB_f1 := Blk.free DB 1
  have DB_f2 := Blk.free DB 2
  go_wp2_with fail
  refine bodyPost_ret (v := .tuple #[dyV b3 A3 q3.length c3 x3, .int .i64 (addR (nfl b (val 18446744073709551616 l) x) (negN (nfl b2 (val 18446744073709551616 l2) x2))).2]) (by simp [results, Tryz.results9, go_sem, DB_0, DB_1, DB_2]) rfl ?_
  exact ⟨b3, q3, A3, c3, x3, rfl, hd3, m3.put DB _ _ _ _ _, by go_grown⟩

set_option maxRecDepth 100000 in
set_option maxHeartbeats 4000000 in
theorem dSub_no (h : Lv w A n c l) (hn : n ≤ 4096) (h2 : Lv w A2 n2 c2 l2) (hn2 : n2 ≤ 4096) (hT : Tab w) (ho : may2 x x2 = false) :
    Calls Tryz.prog 9 #[dyV b A n c x, dyV b2 A2 n2 c2 x2] w (DyK zeroN 2 w) := by
  have PB := Blk.new w [.bool b, .slice A n c, .int .i64 x] 40
  have QB := Blk.new (w.alloc (.cells #[.bool b, .slice A n c, .int .i64 x] 40)) [.bool b2, .slice A2 n2 c2, .int .i64 x2] 40
  simp only [World.size_alloc] at QB
  replace PB := Blk.alloc PB (.cells #[.bool b2, .slice A2 n2 c2, .int .i64 x2] 40)
  have DB := Blk.new ((w.alloc (.cells #[.bool b, .slice A n c, .int .i64 x] 40)).alloc (.cells #[.bool b2, .slice A2 n2 c2, .int .i64 x2] 40)) [.bool false, .slice none 0 0, .int .i64 0] 40
  simp only [World.size_alloc] at DB
  replace PB := Blk.alloc PB (.cells #[.bool false, .slice none 0 0, .int .i64 0] 40)
  replace QB := Blk.alloc QB (.cells #[.bool false, .slice none 0 0, .int .i64 0] 40)
  have bw : Below w.heap.size w (((w.alloc (.cells #[.bool b, .slice A n c, .int .i64 x] 40)).alloc (.cells #[.bool b2, .slice A2 n2 c2, .int .i64 x2] 40)).alloc (.cells #[.bool false, .slice none 0 0, .int .i64 0] 40)) := by go_grown
  have PB_0 := Blk.cell PB 0 rfl
  have PB_1 := Blk.cell PB 1 rfl
  have PB_2 := Blk.cell PB 2 rfl
  have PB_f0 := Blk.free PB 0
  have PB_f1 := Blk.free PB 1
  have PB_f2 := Blk.free PB 2
  have QB_0 := Blk.cell QB 0 rfl
  have QB_1 := Blk.cell QB 1 rfl
  have QB_2 := Blk.cell QB 2 rfl
  have QB_f0 := Blk.free QB 0
  have QB_f1 := Blk.free QB 1
  have QB_f2 := Blk.free QB 2
  have DB_0 := Blk.cell DB 0 rfl
  have DB_1 := Blk.cell DB 1 rfl
  have DB_2 := Blk.cell DB 2 rfl
  have DB_f0 := Blk.free DB 0
  have DB_f1 := Blk.free DB 1
  have DB_f2 := Blk.free DB 2
  go_enter Tryz.func9, Tryz.ntmps9
  go_wp2_with fail
  with_reducible refine (dboth_any (b := b) (b2 := b2) (x := x) (x2 := x2) (h.on (by go_grown)) hn (h2.on (by go_grown)) hn2 (hT.onD (by go_grown)) ho _).mono ?_
  rintro e w1 ⟨b3, q3, A3, c3, x3, rfl, hd3, m3, hb⟩
  clear PB_0 PB_1 PB_2 PB_f0 PB_f1 PB_f2
  clear QB_0 QB_1 QB_2 QB_f0 QB_f1 QB_f2
  clear DB_0 DB_1 DB_2 DB_f0 DB_f1 DB_f2
  have hs1 := hb.size
  try simp only [World.size_alloc, World.size_setCell] at hs1
  replace bw : Below w.heap.size w w1 := dy_end (by go_grown) hb
  replace PB := Blk.on PB hb
  replace QB := Blk.on QB hb
  replace DB := Blk.on DB hb
  clear hb
  have PB_0 := Blk.cell PB 0 rfl
  have PB_1 := Blk.cell PB 1 rfl
  have PB_2 := Blk.cell PB 2 rfl
  have PB_f0 := Blk.free PB 0
  have PB_f1 := Blk.free PB 1
  have PB_f2 := Blk.free PB 2
  have QB_0 := Blk.cell QB 0 rfl
  have QB_1 := Blk.cell QB 1 rfl
  have QB_2 := Blk.cell QB 2 rfl
  have QB_f0 := Blk.free QB 0
  have QB_f1 := Blk.free QB 1
  have QB_f2 := Blk.free QB 2
  have DB_0 := Blk.cell DB 0 rfl
  have DB_1 := Blk.cell DB 1 rfl
  have DB_2 := Blk.cell DB 2 rfl
  have DB_f0 := Blk.free DB 0
  have DB_f1 := Blk.free DB 1
  have DB_f2 := Blk.free DB 2
  go_wp2_with fail
  refine bodyPost_ret (v := .tuple #[dyV b3 A3 q3.length c3 x3, .int .i64 2]) (by simp [results, Tryz.results9, go_sem, DB_0, DB_1, DB_2]) rfl ?_
  exact ⟨b3, q3, A3, c3, x3, rfl, hd3, m3.put DB _ _ _ _ _, by go_grown⟩


theorem dSub_any (h : Lv w A n c l) (hn : n ≤ 4096) (h2 : Lv w A2 n2 c2 l2) (hn2 : n2 ≤ 4096) (hT : Tab w) (hN : may2 x x2 = true → farN (nfl b (val 18446744073709551616 l) x) (negN (nfl b2 (val 18446744073709551616 l2) x2)) = true ∨ Near (nfl b (val 18446744073709551616 l) x) (negN (nfl b2 (val 18446744073709551616 l2) x2))) :
    Calls Tryz.prog 9 #[dyV b A n c x, dyV b2 A2 n2 c2 x2] w (DyK (addQ x x2 (nfl b (val 18446744073709551616 l) x) (negN (nfl b2 (val 18446744073709551616 l2) x2))).1 (addQ x x2 (nfl b (val 18446744073709551616 l) x) (negN (nfl b2 (val 18446744073709551616 l2) x2))).2 w) := by
  by_cases ho : may2 x x2 = true
  · have e : addQ x x2 (nfl b (val 18446744073709551616 l) x) (negN (nfl b2 (val 18446744073709551616 l2) x2)) = addR (nfl b (val 18446744073709551616 l) x) (negN (nfl b2 (val 18446744073709551616 l2) x2)) := by unfold addQ; rw [if_pos ho]; try rfl
    rw [e]
    have ho' := ho
    unfold may2 at ho'
    rw [Bool.and_eq_true] at ho'
    exact dSub_yes h hn h2 hn2 hT ho'.1 ho'.2 (hN ho)
  · have e : addQ x x2 (nfl b (val 18446744073709551616 l) x) (negN (nfl b2 (val 18446744073709551616 l2) x2)) = (zeroN, 2) := by unfold addQ; rw [if_neg ho]
    rw [e]
    exact dSub_no h hn h2 hn2 hT (by simpa using ho)

set_option maxRecDepth 100000 in
set_option maxHeartbeats 4000000 in
theorem dMul_yes (h : Lv w A n c l) (hn : n ≤ 4096) (h2 : Lv w A2 n2 c2 l2) (hn2 : n2 ≤ 4096) (hT : Tab w) (ho : okE x = true) (ho2 : okE x2 = true) (hv : val 18446744073709551616 l * val 18446744073709551616 l2 < 18446744073709551616 ^ 4096) :
    Calls Tryz.prog 13 #[dyV b A n c x, dyV b2 A2 n2 c2 x2] w (DyK (doneR (mulN (nfl b (val 18446744073709551616 l) x) (nfl b2 (val 18446744073709551616 l2) x2))).1 (doneR (mulN (nfl b (val 18446744073709551616 l) x) (nfl b2 (val 18446744073709551616 l2) x2))).2 w) := by
  have PB := Blk.new w [.bool b, .slice A n c, .int .i64 x] 40
  have QB := Blk.new (w.alloc (.cells #[.bool b, .slice A n c, .int .i64 x] 40)) [.bool b2, .slice A2 n2 c2, .int .i64 x2] 40
  simp only [World.size_alloc] at QB
  replace PB := Blk.alloc PB (.cells #[.bool b2, .slice A2 n2 c2, .int .i64 x2] 40)
  have DB := Blk.new ((w.alloc (.cells #[.bool b, .slice A n c, .int .i64 x] 40)).alloc (.cells #[.bool b2, .slice A2 n2 c2, .int .i64 x2] 40)) [.bool false, .slice none 0 0, .int .i64 0] 40
  simp only [World.size_alloc] at DB
  replace PB := Blk.alloc PB (.cells #[.bool false, .slice none 0 0, .int .i64 0] 40)
  replace QB := Blk.alloc QB (.cells #[.bool false, .slice none 0 0, .int .i64 0] 40)
  have bw : Below w.heap.size w (((w.alloc (.cells #[.bool b, .slice A n c, .int .i64 x] 40)).alloc (.cells #[.bool b2, .slice A2 n2 c2, .int .i64 x2] 40)).alloc (.cells #[.bool false, .slice none 0 0, .int .i64 0] 40)) := by go_grown
  have PB_0 := Blk.cell PB 0 rfl
  have PB_1 := Blk.cell PB 1 rfl
  have PB_2 := Blk.cell PB 2 rfl
  have PB_f0 := Blk.free PB 0
  have PB_f1 := Blk.free PB 1
  have PB_f2 := Blk.free PB 2
  have QB_0 := Blk.cell QB 0 rfl
  have QB_1 := Blk.cell QB 1 rfl
  have QB_2 := Blk.cell QB 2 rfl
  have QB_f0 := Blk.free QB 0
  have QB_f1 := Blk.free QB 1
  have QB_f2 := Blk.free QB 2
  have DB_0 := Blk.cell DB 0 rfl
  have DB_1 := Blk.cell DB 1 rfl
  have DB_2 := Blk.cell DB 2 rfl
  have DB_f0 := Blk.free DB 0
  have DB_f1 := Blk.free DB 1
  have DB_f2 := Blk.free DB 2
  go_enter Tryz.func13, Tryz.ntmps13
  go_wp2_with fail
  with_reducible refine (both_mul (b := b) (b2 := b2) (x := x) (x2 := x2) (h.on (by go_grown)) hn (h2.on (by go_grown)) hn2 (hT.onD (by go_grown)) ho ho2 hv).mono ?_
  rintro e w1 ⟨b3, q3, A3, c3, x3, rfl, hd3, m3, hb⟩
  clear PB_0 PB_1 PB_2 PB_f0 PB_f1 PB_f2
  clear QB_0 QB_1 QB_2 QB_f0 QB_f1 QB_f2
  clear DB_0 DB_1 DB_2 DB_f0 DB_f1 DB_f2
  have hs1 := hb.size
  try simp only [World.size_alloc, World.size_setCell] at hs1
  replace bw : Below w.heap.size w w1 := dy_end (by go_grown) hb
  replace PB := Blk.on PB hb
  replace QB := Blk.on QB hb
  replace DB := Blk.on DB hb
  clear hb
  have PB_0 := Blk.cell PB 0 rfl
  have PB_1 := Blk.cell PB 1 rfl
  have PB_2 := Blk.cell PB 2 rfl
  have PB_f0 := Blk.free PB 0
  have PB_f1 := Blk.free PB 1
  have PB_f2 := Blk.free PB 2
  have QB_0 := Blk.cell QB 0 rfl
  have QB_1 := Blk.cell QB 1 rfl
  have QB_2 := Blk.cell QB 2 rfl
  have QB_f0 := Blk.free QB 0
  have QB_f1 := Blk.free QB 1
  have QB_f2 := Blk.free QB 2
  have DB_0 := Blk.cell DB 0 rfl
  have DB_1 := Blk.cell DB 1 rfl
  have DB_2 := Blk.cell DB 2 rfl
  have DB_f0 := Blk.free DB 0
  have DB_f1 := Blk.free DB 1
  have DB_f2 := Blk.free DB 2
  go_wp2_with fail
  refine bodyPost_ret (v := .tuple #[dyV b3 A3 q3.length c3 x3, .int .i64 (doneR (mulN (nfl b (val 18446744073709551616 l) x) (nfl b2 (val 18446744073709551616 l2) x2))).2]) (by simp [results, Tryz.results13, go_sem, DB_0, DB_1, DB_2]) rfl ?_
  exact ⟨b3, q3, A3, c3, x3, rfl, hd3, m3.put DB _ _ _ _ _, by go_grown⟩

set_option maxRecDepth 100000 in
set_option maxHeartbeats 4000000 in
theorem dMul_no (h : Lv w A n c l) (hn : n ≤ 4096) (h2 : Lv w A2 n2 c2 l2) (hn2 : n2 ≤ 4096) (hT : Tab w) (ho : may2 x x2 = false) :
    Calls Tryz.prog 13 #[dyV b A n c x, dyV b2 A2 n2 c2 x2] w (DyK zeroN 2 w) := by
  have PB := Blk.new w [.bool b, .slice A n c, .int .i64 x] 40
  have QB := Blk.new (w.alloc (.cells #[.bool b, .slice A n c, .int .i64 x] 40)) [.bool b2, .slice A2 n2 c2, .int .i64 x2] 40
  simp only [World.size_alloc] at QB
  replace PB := Blk.alloc PB (.cells #[.bool b2, .slice A2 n2 c2, .int .i64 x2] 40)
  have DB := Blk.new ((w.alloc (.cells #[.bool b, .slice A n c, .int .i64 x] 40)).alloc (.cells #[.bool b2, .slice A2 n2 c2, .int .i64 x2] 40)) [.bool false, .slice none 0 0, .int .i64 0] 40
  simp only [World.size_alloc] at DB
  replace PB := Blk.alloc PB (.cells #[.bool false, .slice none 0 0, .int .i64 0] 40)
  replace QB := Blk.alloc QB (.cells #[.bool false, .slice none 0 0, .int .i64 0] 40)
  have bw : Below w.heap.size w (((w.alloc (.cells #[.bool b, .slice A n c, .int .i64 x] 40)).alloc (.cells #[.bool b2, .slice A2 n2 c2, .int .i64 x2] 40)).alloc (.cells #[.bool false, .slice none 0 0, .int .i64 0] 40)) := by go_grown
  have PB_0 := Blk.cell PB 0 rfl
  have PB_1 := Blk.cell PB 1 rfl
  have PB_2 := Blk.cell PB 2 rfl
  have PB_f0 := Blk.free PB 0
  have PB_f1 := Blk.free PB 1
  have PB_f2 := Blk.free PB 2
  have QB_0 := Blk.cell QB 0 rfl
  have QB_1 := Blk.cell QB 1 rfl
  have QB_2 := Blk.cell QB 2 rfl
  have QB_f0 := Blk.free QB 0
  have QB_f1 := Blk.free QB 1
  have QB_f2 := Blk.free QB 2
  have DB_0 := Blk.cell DB 0 rfl
  have DB_1 := Blk.cell DB 1 rfl
  have DB_2 := Blk.cell DB 2 rfl
  have DB_f0 := Blk.free DB 0
  have DB_f1 := Blk.free DB 1
  have DB_f2 := Blk.free DB 2
  go_enter Tryz.func13, Tryz.ntmps13
  go_wp2_with fail
  with_reducible refine (dboth_any (b := b) (b2 := b2) (x := x) (x2 := x2) (h.on (by go_grown)) hn (h2.on (by go_grown)) hn2 (hT.onD (by go_grown)) ho _).mono ?_
  rintro e w1 ⟨b3, q3, A3, c3, x3, rfl, hd3, m3, hb⟩
  clear PB_0 PB_1 PB_2 PB_f0 PB_f1 PB_f2
  clear QB_0 QB_1 QB_2 QB_f0 QB_f1 QB_f2
  clear DB_0 DB_1 DB_2 DB_f0 DB_f1 DB_f2
  have hs1 := hb.size
  try simp only [World.size_alloc, World.size_setCell] at hs1
  replace bw : Below w.heap.size w w1 := dy_end (by go_grown) hb
  replace PB := Blk.on PB hb
  replace QB := Blk.on QB hb
  replace DB := Blk.on DB hb
  clear hb
  have PB_0 := Blk.cell PB 0 rfl
  have PB_1 := Blk.cell PB 1 rfl
  have PB_2 := Blk.cell PB 2 rfl
  have PB_f0 := Blk.free PB 0
  have PB_f1 := Blk.free PB 1
  have PB_f2 := Blk.free PB 2
  have QB_0 := Blk.cell QB 0 rfl
  have QB_1 := Blk.cell QB 1 rfl
  have QB_2 := Blk.cell QB 2 rfl
  have QB_f0 := Blk.free QB 0
  have QB_f1 := Blk.free QB 1
  have QB_f2 := Blk.free QB 2
  have DB_0 := Blk.cell DB 0 rfl
  have DB_1 := Blk.cell DB 1 rfl
  have DB_2 := Blk.cell DB 2 rfl
  have DB_f0 := Blk.free DB 0
  have DB_f1 := Blk.free DB 1
  have DB_f2 := Blk.free DB 2
  go_wp2_with fail
  refine bodyPost_ret (v := .tuple #[dyV b3 A3 q3.length c3 x3, .int .i64 2]) (by simp [results, Tryz.results13, go_sem, DB_0, DB_1, DB_2]) rfl ?_
  exact ⟨b3, q3, A3, c3, x3, rfl, hd3, m3.put DB _ _ _ _ _, by go_grown⟩


theorem dMul_any (h : Lv w A n c l) (hn : n ≤ 4096) (h2 : Lv w A2 n2 c2 l2) (hn2 : n2 ≤ 4096) (hT : Tab w) (hN : may2 x x2 = true → val 18446744073709551616 l * val 18446744073709551616 l2 < 18446744073709551616 ^ 4096) :
    Calls Tryz.prog 13 #[dyV b A n c x, dyV b2 A2 n2 c2 x2] w (DyK (mulQ x x2 (nfl b (val 18446744073709551616 l) x) (nfl b2 (val 18446744073709551616 l2) x2)).1 (mulQ x x2 (nfl b (val 18446744073709551616 l) x) (nfl b2 (val 18446744073709551616 l2) x2)).2 w) := by
  by_cases ho : may2 x x2 = true
  · have e : mulQ x x2 (nfl b (val 18446744073709551616 l) x) (nfl b2 (val 18446744073709551616 l2) x2) = doneR (mulN (nfl b (val 18446744073709551616 l) x) (nfl b2 (val 18446744073709551616 l2) x2)) := by unfold mulQ; rw [if_pos ho]; try rfl
    rw [e]
    have ho' := ho
    unfold may2 at ho'
    rw [Bool.and_eq_true] at ho'
    exact dMul_yes h hn h2 hn2 hT ho'.1 ho'.2 (hN ho)
  · have e : mulQ x x2 (nfl b (val 18446744073709551616 l) x) (nfl b2 (val 18446744073709551616 l2) x2) = (zeroN, 2) := by unfold mulQ; rw [if_neg ho]
    rw [e]
    exact dMul_no h hn h2 hn2 hT (by simpa using ho)

end
end Go.Proofs.YtcdbjlmegkcaiaaGreatDoor
