/-
  Layer 3, the laws: two numbers at one place, by the reference. (Written by a script of wip/tools.)
-/
import Derived.Test.YtknomchkfamajaaGreatDoorDyMA
import Derived.Deep.QuietTactic
import Derived.BigQuiet
namespace Go.Proofs.YtknomchkfamajaaGreatDoor
open Go.RowKit Go.Sort Go.Bw
set_option linter.unusedVariables false
set_option linter.unusedSimpArgs false

section
variable {b : Bool} {A : Option Addr} {n c : Nat} {x : Int} {l : List Int} {w : World}
variable {b2 : Bool} {A2 : Option Addr} {n2 c2 : Nat} {x2 : Int} {l2 : List Int}
set_option maxRecDepth 100000 in
set_option maxHeartbeats 8000000 in
theorem rFar_z1 (b b2 : Bool) (A A2 : Option Addr) (n n2 c c2 : Nat) (x x2 : Int) (w : World) (x0 : -1048576 ≤ x) (x1 : x ≤ 1048576) (y0 : -1048576 ≤ x2) (y1 : x2 ≤ 1048576) (h : n = 0) :
    Calls Tryz.prog 83 #[dyV b A n c x, dyV b2 A2 n2 c2 x2] w fun e w' => e = .returned (.bool false) ∧ Below w.heap.size w w' := by
  subst h
  have PB := Blk.new w [.bool b, .slice A 0 c, .int .i64 x] 24
  have QB := Blk.new (w.alloc (.cells #[.bool b, .slice A 0 c, .int .i64 x] 24)) [.bool b2, .slice A2 n2 c2, .int .i64 x2] 24
  simp only [World.size_alloc] at QB
  replace PB := Blk.alloc PB (.cells #[.bool b2, .slice A2 n2 c2, .int .i64 x2] 24)
  have bw : Below w.heap.size w ((w.alloc (.cells #[.bool b, .slice A 0 c, .int .i64 x] 24)).alloc (.cells #[.bool b2, .slice A2 n2 c2, .int .i64 x2] 24)) := by go_grown
  obtain ⟨PB_0, PB_1, PB_2, PB_f0, PB_f1, PB_f2⟩ := Dbx.cells PB
  obtain ⟨QB_0, QB_1, QB_2, QB_f0, QB_f1, QB_f2⟩ := Dbx.cells QB
  go_enter Tryz.func83, Tryz.ntmps83
  go_wp2_with fail
  go_ret
  exact ⟨rfl, by go_grown⟩

set_option maxRecDepth 100000 in
set_option maxHeartbeats 8000000 in
theorem rFar_z2 (b b2 : Bool) (A A2 : Option Addr) (n n2 c c2 : Nat) (x x2 : Int) (w : World) (x0 : -1048576 ≤ x) (x1 : x ≤ 1048576) (y0 : -1048576 ≤ x2) (y1 : x2 ≤ 1048576) (h : 0 < n) (h2 : n2 = 0) :
    Calls Tryz.prog 83 #[dyV b A n c x, dyV b2 A2 n2 c2 x2] w fun e w' => e = .returned (.bool false) ∧ Below w.heap.size w w' := by
  subst h2
  have PB := Blk.new w [.bool b, .slice A n c, .int .i64 x] 24
  have QB := Blk.new (w.alloc (.cells #[.bool b, .slice A n c, .int .i64 x] 24)) [.bool b2, .slice A2 0 c2, .int .i64 x2] 24
  simp only [World.size_alloc] at QB
  replace PB := Blk.alloc PB (.cells #[.bool b2, .slice A2 0 c2, .int .i64 x2] 24)
  have bw : Below w.heap.size w ((w.alloc (.cells #[.bool b, .slice A n c, .int .i64 x] 24)).alloc (.cells #[.bool b2, .slice A2 0 c2, .int .i64 x2] 24)) := by go_grown
  obtain ⟨PB_0, PB_1, PB_2, PB_f0, PB_f1, PB_f2⟩ := Dbx.cells PB
  obtain ⟨QB_0, QB_1, QB_2, QB_f0, QB_f1, QB_f2⟩ := Dbx.cells QB
  have k1 : decide (0 < n) = true := by simp; omega
  go_enter Tryz.func83, Tryz.ntmps83
  go_wp2_with fail
  go_ret
  exact ⟨rfl, by go_grown⟩

set_option maxRecDepth 100000 in
set_option maxHeartbeats 8000000 in
theorem rFar_gt (b b2 : Bool) (A A2 : Option Addr) (n n2 c c2 : Nat) (x x2 : Int) (w : World) (x0 : -1048576 ≤ x) (x1 : x ≤ 1048576) (y0 : -1048576 ≤ x2) (y1 : x2 ≤ 1048576) (h : 0 < n) (h2 : 0 < n2) (h3 : 262144 < x - x2) :
    Calls Tryz.prog 83 #[dyV b A n c x, dyV b2 A2 n2 c2 x2] w fun e w' => e = .returned (.bool true) ∧ Below w.heap.size w w' := by
  have PB := Blk.new w [.bool b, .slice A n c, .int .i64 x] 24
  have QB := Blk.new (w.alloc (.cells #[.bool b, .slice A n c, .int .i64 x] 24)) [.bool b2, .slice A2 n2 c2, .int .i64 x2] 24
  simp only [World.size_alloc] at QB
  replace PB := Blk.alloc PB (.cells #[.bool b2, .slice A2 n2 c2, .int .i64 x2] 24)
  have bw : Below w.heap.size w ((w.alloc (.cells #[.bool b, .slice A n c, .int .i64 x] 24)).alloc (.cells #[.bool b2, .slice A2 n2 c2, .int .i64 x2] 24)) := by go_grown
  obtain ⟨PB_0, PB_1, PB_2, PB_f0, PB_f1, PB_f2⟩ := Dbx.cells PB
  obtain ⟨QB_0, QB_1, QB_2, QB_f0, QB_f1, QB_f2⟩ := Dbx.cells QB
  have k1 : decide (0 < n) = true := by simp; omega
  have k2 : decide (0 < n2) = true := by simp; omega
  have k3 : decide ((262144 : Int) < x - x2) = true := by simp; omega
  go_enter Tryz.func83, Tryz.ntmps83
  go_wp2_with fail
  go_ret
  exact ⟨rfl, by go_grown⟩

set_option maxRecDepth 100000 in
set_option maxHeartbeats 8000000 in
theorem rFar_lt (b b2 : Bool) (A A2 : Option Addr) (n n2 c c2 : Nat) (x x2 : Int) (w : World) (x0 : -1048576 ≤ x) (x1 : x ≤ 1048576) (y0 : -1048576 ≤ x2) (y1 : x2 ≤ 1048576) (h : 0 < n) (h2 : 0 < n2) (h3 : 262144 < x2 - x) :
    Calls Tryz.prog 83 #[dyV b A n c x, dyV b2 A2 n2 c2 x2] w fun e w' => e = .returned (.bool true) ∧ Below w.heap.size w w' := by
  have PB := Blk.new w [.bool b, .slice A n c, .int .i64 x] 24
  have QB := Blk.new (w.alloc (.cells #[.bool b, .slice A n c, .int .i64 x] 24)) [.bool b2, .slice A2 n2 c2, .int .i64 x2] 24
  simp only [World.size_alloc] at QB
  replace PB := Blk.alloc PB (.cells #[.bool b2, .slice A2 n2 c2, .int .i64 x2] 24)
  have bw : Below w.heap.size w ((w.alloc (.cells #[.bool b, .slice A n c, .int .i64 x] 24)).alloc (.cells #[.bool b2, .slice A2 n2 c2, .int .i64 x2] 24)) := by go_grown
  obtain ⟨PB_0, PB_1, PB_2, PB_f0, PB_f1, PB_f2⟩ := Dbx.cells PB
  obtain ⟨QB_0, QB_1, QB_2, QB_f0, QB_f1, QB_f2⟩ := Dbx.cells QB
  have k1 : decide (0 < n) = true := by simp; omega
  have k2 : decide (0 < n2) = true := by simp; omega
  have k3 : decide ((262144 : Int) < x - x2) = false := by simp; omega
  have k4 : decide ((262144 : Int) < x2 - x) = true := by simp; omega
  go_enter Tryz.func83, Tryz.ntmps83
  go_wp2_with fail
  go_ret
  exact ⟨rfl, by go_grown⟩

set_option maxRecDepth 100000 in
set_option maxHeartbeats 8000000 in
theorem rFar_no (b b2 : Bool) (A A2 : Option Addr) (n n2 c c2 : Nat) (x x2 : Int) (w : World) (x0 : -1048576 ≤ x) (x1 : x ≤ 1048576) (y0 : -1048576 ≤ x2) (y1 : x2 ≤ 1048576) (h : 0 < n) (h2 : 0 < n2) (h3 : x - x2 ≤ 262144) (h4 : x2 - x ≤ 262144) :
    Calls Tryz.prog 83 #[dyV b A n c x, dyV b2 A2 n2 c2 x2] w fun e w' => e = .returned (.bool false) ∧ Below w.heap.size w w' := by
  have PB := Blk.new w [.bool b, .slice A n c, .int .i64 x] 24
  have QB := Blk.new (w.alloc (.cells #[.bool b, .slice A n c, .int .i64 x] 24)) [.bool b2, .slice A2 n2 c2, .int .i64 x2] 24
  simp only [World.size_alloc] at QB
  replace PB := Blk.alloc PB (.cells #[.bool b2, .slice A2 n2 c2, .int .i64 x2] 24)
  have bw : Below w.heap.size w ((w.alloc (.cells #[.bool b, .slice A n c, .int .i64 x] 24)).alloc (.cells #[.bool b2, .slice A2 n2 c2, .int .i64 x2] 24)) := by go_grown
  obtain ⟨PB_0, PB_1, PB_2, PB_f0, PB_f1, PB_f2⟩ := Dbx.cells PB
  obtain ⟨QB_0, QB_1, QB_2, QB_f0, QB_f1, QB_f2⟩ := Dbx.cells QB
  have k1 : decide (0 < n) = true := by simp; omega
  have k2 : decide (0 < n2) = true := by simp; omega
  have k3 : decide ((262144 : Int) < x - x2) = false := by simp; omega
  have k4 : decide ((262144 : Int) < x2 - x) = false := by simp; omega
  go_enter Tryz.func83, Tryz.ntmps83
  go_wp2_with fail
  go_ret
  exact ⟨rfl, by go_grown⟩


theorem rFar_any (h : Lv w A n c l) (h2 : Lv w A2 n2 c2 l2) {d d2 : Nf} (hd : Dn b l x d) (hd2 : Dn b2 l2 x2 d2) (x0 : -1048576 ≤ x) (x1 : x ≤ 1048576) (y0 : -1048576 ≤ x2) (y1 : x2 ≤ 1048576) :
    Calls Tryz.prog 83 #[dyV b A n c x, dyV b2 A2 n2 c2 x2] w fun e w' => e = .returned (.bool (farN d d2)) ∧ Below w.heap.size w w' := by
  have e1 := hd.nil h.2.2
  have e2 := hd2.nil h2.2.2
  rw [h.1] at e1
  rw [h2.1] at e2
  unfold farN farB
  rw [hd.exp, hd2.exp]
  by_cases a1 : n = 0
  · rw [decide_eq_true (e1.1 a1)]
    exact rFar_z1 b b2 A A2 n n2 c c2 x x2 w x0 x1 y0 y1 a1
  · rw [decide_eq_false (fun e => a1 (e1.2 e))]
    by_cases a2 : n2 = 0
    · rw [decide_eq_true (e2.1 a2)]
      exact rFar_z2 b b2 A A2 n n2 c c2 x x2 w x0 x1 y0 y1 (by omega) a2
    · rw [decide_eq_false (fun e => a2 (e2.2 e))]
      by_cases a3 : 262144 < x - x2
      · rw [decide_eq_true a3]
        exact rFar_gt b b2 A A2 n n2 c c2 x x2 w x0 x1 y0 y1 (by omega) (by omega) a3
      · rw [decide_eq_false a3]
        by_cases a4 : 262144 < x2 - x
        · rw [decide_eq_true a4]
          exact rFar_lt b b2 A A2 n n2 c c2 x x2 w x0 x1 y0 y1 (by omega) (by omega) a4
        · rw [decide_eq_false a4]
          exact rFar_no b b2 A A2 n n2 c c2 x x2 w x0 x1 y0 y1 (by omega) (by omega) (by omega) (by omega)

/-- both sizes in steps of one place -/
def Lvl (p v v2 : Int) (w : World) (e : Ending) (w' : World) : Prop :=
  ∃ L A c L2 A2 c2, e = .returned (.tuple #[.slice A L.length c, .slice A2 L2.length c2, .int .i64 p]) ∧ Normal L ∧ Normal L2 ∧ Hid (val 18446744073709551616 L = v) ∧ Hid (val 18446744073709551616 L2 = v2) ∧ Lv w' A L.length c L ∧ Lv w' A2 L2.length c2 L2 ∧ Below w.heap.size w w'
set_option maxRecDepth 100000 in
set_option maxHeartbeats 8000000 in
theorem rLevel_n_lt (h : Lv w A n c l) (hn : n ≤ 4096) (nl : Normal l) (h2 : Lv w A2 n2 c2 l2) (hn2 : n2 ≤ 4096) (nl2 : Normal l2) (x0 : -1048576 ≤ x) (x1 : x ≤ 1048576) (y0 : -1048576 ≤ x2) (y1 : x2 ≤ 1048576) (hf : x - x2 ≤ 600000 ∧ x2 - x ≤ 600000) (hz1 : l ≠ []) (hz2 : l2 ≠ []) (hx : x < x2) :
    Calls Tryz.prog 84 #[dyV b A n c x, dyV b2 A2 n2 c2 x2] w (Lvl x (val 18446744073709551616 l * 2 ^ (x - x).toNat) (val 18446744073709551616 l2 * 2 ^ (x2 - x).toNat) w) := by
  have e1 := h.1
  have e2 := h2.1
  subst e1 e2
  obtain ⟨f1, f2⟩ := hf
  have PB := Blk.new w [.bool b, .slice A l.length c, .int .i64 x] 24
  have QB := Blk.new (w.alloc (.cells #[.bool b, .slice A l.length c, .int .i64 x] 24)) [.bool b2, .slice A2 l2.length c2, .int .i64 x2] 24
  simp only [World.size_alloc] at QB
  replace PB := Blk.alloc PB (.cells #[.bool b2, .slice A2 l2.length c2, .int .i64 x2] 24)
  have bw : Below w.heap.size w ((w.alloc (.cells #[.bool b, .slice A l.length c, .int .i64 x] 24)).alloc (.cells #[.bool b2, .slice A2 l2.length c2, .int .i64 x2] 24)) := by go_grown
  obtain ⟨PB_0, PB_1, PB_2, PB_f0, PB_f1, PB_f2⟩ := Dbx.cells PB
  obtain ⟨QB_0, QB_1, QB_2, QB_f0, QB_f1, QB_f2⟩ := Dbx.cells QB
  have k1 : ((l.length : Int) == 0) = false := beq_eq_false_iff_ne.2 (fun e => hz1 (nil_of_len (by omega)))
  have k2 : ((l2.length : Int) == 0) = false := beq_eq_false_iff_ne.2 (fun e => hz2 (nil_of_len (by omega)))
  have k3 : min x x2 = x := by omega
  have k5 : decide (x < x2) = true := by simp; omega
  obtain ⟨j, hj⟩ : ∃ j : Nat, x2 - x = j := ⟨(x2 - x).toNat, by omega⟩
  have j9 : j ≤ 600000 := by omega
  have J := Lib.hid (show (x2 - x).toNat = j by omega)
  have h9 := h.on bw
  have h29 := h2.on bw
  clear h h2 hz1 hz2
  go_enter Tryz.func84, Tryz.ntmps84
  go_wp2_with fail
  go_quiet (fail)
  clear PB_0 PB_1 PB_2 PB_f0 PB_f1 PB_f2
  clear QB_0 QB_1 QB_2 QB_f0 QB_f1 QB_f2
  have hb : Below ((w.alloc (.cells #[.bool b, .slice A l.length c, .int .i64 x] 24)).alloc (.cells #[.bool b2, .slice A2 l2.length c2, .int .i64 x2] 24)).heap.size ((w.alloc (.cells #[.bool b, .slice A l.length c, .int .i64 x] 24)).alloc (.cells #[.bool b2, .slice A2 l2.length c2, .int .i64 x2] 24)) (((w.alloc (.cells #[.bool b, .slice A l.length c, .int .i64 x] 24)).alloc (.cells #[.bool b2, .slice A2 l2.length c2, .int .i64 x2] 24)).drewN nq) := below_drewN (Below.refl _ _) _
  replace h9 := Lv.on h9 hb
  replace h29 := Lv.on h29 hb
  replace PB := Blk.on PB hb
  replace QB := Blk.on QB hb
  replace bw := dy_end bw hb
  clear hb
  obtain ⟨PB_0, PB_1, PB_2, PB_f0, PB_f1, PB_f2⟩ := Dbx.cells PB
  obtain ⟨QB_0, QB_1, QB_2, QB_f0, QB_f1, QB_f2⟩ := Dbx.cells QB
  go_wp2_with fail
  with_reducible refine (refShl_any h29 (by omega) j j9).mono ?_
  rintro e w1 ⟨q5, A5, c5, rfl, k9, v5, m5, hb⟩
  clear PB_0 PB_1 PB_2 PB_f0 PB_f1 PB_f2
  clear QB_0 QB_1 QB_2 QB_f0 QB_f1 QB_f2
  have hs1 := hb.size
  try simp only [World.size_alloc, World.size_setCell] at hs1
  replace bw : Below w.heap.size w w1 := dy_end (by go_grown) hb
  replace h9 := Lv.on h9 hb
  replace h29 := Lv.on h29 hb
  replace PB := Blk.on PB hb
  replace QB := Blk.on QB hb
  clear hb
  obtain ⟨PB_0, PB_1, PB_2, PB_f0, PB_f1, PB_f2⟩ := Dbx.cells PB
  obtain ⟨QB_0, QB_1, QB_2, QB_f0, QB_f1, QB_f2⟩ := Dbx.cells QB
  go_wp2_with fail
  refine bodyPost_ret (v := .tuple #[.slice A l.length c, .slice A5 q5.length c5, .int .i64 x]) (by simp [results, Tryz.results84, go_sem]) rfl ?_
  exact ⟨l, A, c, q5, A5, c5, rfl, nl, k9, Lib.hid (by rw [show (x - x).toNat = 0 by omega, Int.pow_zero, Int.mul_one]), Lib.hid (by rw [v5.out, J.out]), h9, m5, bw⟩

set_option maxRecDepth 100000 in
set_option maxHeartbeats 8000000 in
theorem rLevel_n_eq (h : Lv w A n c l) (hn : n ≤ 4096) (nl : Normal l) (h2 : Lv w A2 n2 c2 l2) (hn2 : n2 ≤ 4096) (nl2 : Normal l2) (x0 : -1048576 ≤ x) (x1 : x ≤ 1048576) (y0 : -1048576 ≤ x2) (y1 : x2 ≤ 1048576) (hf : x - x2 ≤ 600000 ∧ x2 - x ≤ 600000) (hz1 : l ≠ []) (hz2 : l2 ≠ []) (hx : x ≤ x2) (hy : x2 ≤ x) :
    Calls Tryz.prog 84 #[dyV b A n c x, dyV b2 A2 n2 c2 x2] w (Lvl x (val 18446744073709551616 l * 2 ^ (x - x).toNat) (val 18446744073709551616 l2 * 2 ^ (x2 - x).toNat) w) := by
  have e1 := h.1
  have e2 := h2.1
  subst e1 e2
  obtain ⟨f1, f2⟩ := hf
  have PB := Blk.new w [.bool b, .slice A l.length c, .int .i64 x] 24
  have QB := Blk.new (w.alloc (.cells #[.bool b, .slice A l.length c, .int .i64 x] 24)) [.bool b2, .slice A2 l2.length c2, .int .i64 x2] 24
  simp only [World.size_alloc] at QB
  replace PB := Blk.alloc PB (.cells #[.bool b2, .slice A2 l2.length c2, .int .i64 x2] 24)
  have bw : Below w.heap.size w ((w.alloc (.cells #[.bool b, .slice A l.length c, .int .i64 x] 24)).alloc (.cells #[.bool b2, .slice A2 l2.length c2, .int .i64 x2] 24)) := by go_grown
  obtain ⟨PB_0, PB_1, PB_2, PB_f0, PB_f1, PB_f2⟩ := Dbx.cells PB
  obtain ⟨QB_0, QB_1, QB_2, QB_f0, QB_f1, QB_f2⟩ := Dbx.cells QB
  have k1 : ((l.length : Int) == 0) = false := beq_eq_false_iff_ne.2 (fun e => hz1 (nil_of_len (by omega)))
  have k2 : ((l2.length : Int) == 0) = false := beq_eq_false_iff_ne.2 (fun e => hz2 (nil_of_len (by omega)))
  have k3 : min x x2 = x := by omega
  have k5 : decide (x < x2) = false := by simp; omega
  have h9 := h.on bw
  have h29 := h2.on bw
  clear h h2 hz1 hz2
  go_enter Tryz.func84, Tryz.ntmps84
  go_wp2_with fail
  go_quiet (fail)
  clear PB_0 PB_1 PB_2 PB_f0 PB_f1 PB_f2
  clear QB_0 QB_1 QB_2 QB_f0 QB_f1 QB_f2
  have hb : Below ((w.alloc (.cells #[.bool b, .slice A l.length c, .int .i64 x] 24)).alloc (.cells #[.bool b2, .slice A2 l2.length c2, .int .i64 x2] 24)).heap.size ((w.alloc (.cells #[.bool b, .slice A l.length c, .int .i64 x] 24)).alloc (.cells #[.bool b2, .slice A2 l2.length c2, .int .i64 x2] 24)) (((w.alloc (.cells #[.bool b, .slice A l.length c, .int .i64 x] 24)).alloc (.cells #[.bool b2, .slice A2 l2.length c2, .int .i64 x2] 24)).drewN nq) := below_drewN (Below.refl _ _) _
  replace h9 := Lv.on h9 hb
  replace h29 := Lv.on h29 hb
  replace PB := Blk.on PB hb
  replace QB := Blk.on QB hb
  replace bw := dy_end bw hb
  clear hb
  obtain ⟨PB_0, PB_1, PB_2, PB_f0, PB_f1, PB_f2⟩ := Dbx.cells PB
  obtain ⟨QB_0, QB_1, QB_2, QB_f0, QB_f1, QB_f2⟩ := Dbx.cells QB
  go_wp2_with fail
  refine bodyPost_ret (v := .tuple #[.slice A l.length c, .slice A2 l2.length c2, .int .i64 x]) (by simp [results, Tryz.results84, go_sem]) rfl ?_
  exact ⟨l, A, c, l2, A2, c2, rfl, nl, nl2, Lib.hid (by rw [show (x - x).toNat = 0 by omega, Int.pow_zero, Int.mul_one]), Lib.hid (by rw [show (x2 - x).toNat = 0 by omega, Int.pow_zero, Int.mul_one]), h9, h29, bw⟩

set_option maxRecDepth 100000 in
set_option maxHeartbeats 8000000 in
theorem rLevel_n_gt (h : Lv w A n c l) (hn : n ≤ 4096) (nl : Normal l) (h2 : Lv w A2 n2 c2 l2) (hn2 : n2 ≤ 4096) (nl2 : Normal l2) (x0 : -1048576 ≤ x) (x1 : x ≤ 1048576) (y0 : -1048576 ≤ x2) (y1 : x2 ≤ 1048576) (hf : x - x2 ≤ 600000 ∧ x2 - x ≤ 600000) (hz1 : l ≠ []) (hz2 : l2 ≠ []) (hx : x2 < x) :
    Calls Tryz.prog 84 #[dyV b A n c x, dyV b2 A2 n2 c2 x2] w (Lvl x2 (val 18446744073709551616 l * 2 ^ (x - x2).toNat) (val 18446744073709551616 l2 * 2 ^ (x2 - x2).toNat) w) := by
  have e1 := h.1
  have e2 := h2.1
  subst e1 e2
  obtain ⟨f1, f2⟩ := hf
  have PB := Blk.new w [.bool b, .slice A l.length c, .int .i64 x] 24
  have QB := Blk.new (w.alloc (.cells #[.bool b, .slice A l.length c, .int .i64 x] 24)) [.bool b2, .slice A2 l2.length c2, .int .i64 x2] 24
  simp only [World.size_alloc] at QB
  replace PB := Blk.alloc PB (.cells #[.bool b2, .slice A2 l2.length c2, .int .i64 x2] 24)
  have bw : Below w.heap.size w ((w.alloc (.cells #[.bool b, .slice A l.length c, .int .i64 x] 24)).alloc (.cells #[.bool b2, .slice A2 l2.length c2, .int .i64 x2] 24)) := by go_grown
  obtain ⟨PB_0, PB_1, PB_2, PB_f0, PB_f1, PB_f2⟩ := Dbx.cells PB
  obtain ⟨QB_0, QB_1, QB_2, QB_f0, QB_f1, QB_f2⟩ := Dbx.cells QB
  have k1 : ((l.length : Int) == 0) = false := beq_eq_false_iff_ne.2 (fun e => hz1 (nil_of_len (by omega)))
  have k2 : ((l2.length : Int) == 0) = false := beq_eq_false_iff_ne.2 (fun e => hz2 (nil_of_len (by omega)))
  have k3 : min x x2 = x2 := by omega
  have k4 : decide (x2 < x) = true := by simp; omega
  obtain ⟨j, hj⟩ : ∃ j : Nat, x - x2 = j := ⟨(x - x2).toNat, by omega⟩
  have j9 : j ≤ 600000 := by omega
  have J := Lib.hid (show (x - x2).toNat = j by omega)
  have h9 := h.on bw
  have h29 := h2.on bw
  clear h h2 hz1 hz2
  go_enter Tryz.func84, Tryz.ntmps84
  go_wp2_with fail
  go_quiet (fail)
  clear PB_0 PB_1 PB_2 PB_f0 PB_f1 PB_f2
  clear QB_0 QB_1 QB_2 QB_f0 QB_f1 QB_f2
  have hb : Below ((w.alloc (.cells #[.bool b, .slice A l.length c, .int .i64 x] 24)).alloc (.cells #[.bool b2, .slice A2 l2.length c2, .int .i64 x2] 24)).heap.size ((w.alloc (.cells #[.bool b, .slice A l.length c, .int .i64 x] 24)).alloc (.cells #[.bool b2, .slice A2 l2.length c2, .int .i64 x2] 24)) (((w.alloc (.cells #[.bool b, .slice A l.length c, .int .i64 x] 24)).alloc (.cells #[.bool b2, .slice A2 l2.length c2, .int .i64 x2] 24)).drewN nq) := below_drewN (Below.refl _ _) _
  replace h9 := Lv.on h9 hb
  replace h29 := Lv.on h29 hb
  replace PB := Blk.on PB hb
  replace QB := Blk.on QB hb
  replace bw := dy_end bw hb
  clear hb
  obtain ⟨PB_0, PB_1, PB_2, PB_f0, PB_f1, PB_f2⟩ := Dbx.cells PB
  obtain ⟨QB_0, QB_1, QB_2, QB_f0, QB_f1, QB_f2⟩ := Dbx.cells QB
  go_wp2_with fail
  with_reducible refine (refShl_any h9 (by omega) j j9).mono ?_
  rintro e w1 ⟨q5, A5, c5, rfl, k9, v5, m5, hb⟩
  clear PB_0 PB_1 PB_2 PB_f0 PB_f1 PB_f2
  clear QB_0 QB_1 QB_2 QB_f0 QB_f1 QB_f2
  have hs1 := hb.size
  try simp only [World.size_alloc, World.size_setCell] at hs1
  replace bw : Below w.heap.size w w1 := dy_end (by go_grown) hb
  replace h9 := Lv.on h9 hb
  replace h29 := Lv.on h29 hb
  replace PB := Blk.on PB hb
  replace QB := Blk.on QB hb
  clear hb
  obtain ⟨PB_0, PB_1, PB_2, PB_f0, PB_f1, PB_f2⟩ := Dbx.cells PB
  obtain ⟨QB_0, QB_1, QB_2, QB_f0, QB_f1, QB_f2⟩ := Dbx.cells QB
  go_wp2_with fail
  refine bodyPost_ret (v := .tuple #[.slice A5 q5.length c5, .slice A2 l2.length c2, .int .i64 x2]) (by simp [results, Tryz.results84, go_sem]) rfl ?_
  exact ⟨q5, A5, c5, l2, A2, c2, rfl, k9, nl2, Lib.hid (by rw [v5.out, J.out]), Lib.hid (by rw [show (x2 - x2).toNat = 0 by omega, Int.pow_zero, Int.mul_one]), m5, h29, bw⟩

set_option maxRecDepth 100000 in
set_option maxHeartbeats 8000000 in
theorem rLevel_a_gt (h : Lv w A n c l) (hn : n ≤ 4096) (nl : Normal l) (h2 : Lv w A2 n2 c2 l2) (hn2 : n2 ≤ 4096) (nl2 : Normal l2) (x0 : -1048576 ≤ x) (x1 : x ≤ 1048576) (y0 : -1048576 ≤ x2) (y1 : x2 ≤ 1048576) (hf : x - x2 ≤ 600000 ∧ x2 - x ≤ 600000) (hz1 : l = []) (hz2 : l2 ≠ []) (hx : x2 < x) :
    Calls Tryz.prog 84 #[dyV b A n c x, dyV b2 A2 n2 c2 x2] w (Lvl x2 (val 18446744073709551616 l * 2 ^ (x - x2).toNat) (val 18446744073709551616 l2 * 2 ^ (x2 - x2).toNat) w) := by
  have e1 := h.1
  have e2 := h2.1
  subst e1 e2
  obtain ⟨f1, f2⟩ := hf
  have PB := Blk.new w [.bool b, .slice A l.length c, .int .i64 x] 24
  have QB := Blk.new (w.alloc (.cells #[.bool b, .slice A l.length c, .int .i64 x] 24)) [.bool b2, .slice A2 l2.length c2, .int .i64 x2] 24
  simp only [World.size_alloc] at QB
  replace PB := Blk.alloc PB (.cells #[.bool b2, .slice A2 l2.length c2, .int .i64 x2] 24)
  have bw : Below w.heap.size w ((w.alloc (.cells #[.bool b, .slice A l.length c, .int .i64 x] 24)).alloc (.cells #[.bool b2, .slice A2 l2.length c2, .int .i64 x2] 24)) := by go_grown
  obtain ⟨PB_0, PB_1, PB_2, PB_f0, PB_f1, PB_f2⟩ := Dbx.cells PB
  obtain ⟨QB_0, QB_1, QB_2, QB_f0, QB_f1, QB_f2⟩ := Dbx.cells QB
  have k1 : ((l.length : Int) == 0) = true := by rw [hz1]; rfl
  have k2 : ((l2.length : Int) == 0) = false := beq_eq_false_iff_ne.2 (fun e => hz2 (nil_of_len (by omega)))
  have k3 : min x x2 = x2 := by omega
  have k4 : decide (x2 < x) = true := by simp; omega
  obtain ⟨j, hj⟩ : ∃ j : Nat, x - x2 = j := ⟨(x - x2).toNat, by omega⟩
  have j9 : j ≤ 600000 := by omega
  have J := Lib.hid (show (x - x2).toNat = j by omega)
  have h9 := h.on bw
  have h29 := h2.on bw
  clear h h2 hz1 hz2
  go_enter Tryz.func84, Tryz.ntmps84
  go_wp2_with fail
  go_quiet (fail)
  clear PB_0 PB_1 PB_2 PB_f0 PB_f1 PB_f2
  clear QB_0 QB_1 QB_2 QB_f0 QB_f1 QB_f2
  have hb : Below ((w.alloc (.cells #[.bool b, .slice A l.length c, .int .i64 x] 24)).alloc (.cells #[.bool b2, .slice A2 l2.length c2, .int .i64 x2] 24)).heap.size ((w.alloc (.cells #[.bool b, .slice A l.length c, .int .i64 x] 24)).alloc (.cells #[.bool b2, .slice A2 l2.length c2, .int .i64 x2] 24)) (((w.alloc (.cells #[.bool b, .slice A l.length c, .int .i64 x] 24)).alloc (.cells #[.bool b2, .slice A2 l2.length c2, .int .i64 x2] 24)).drewN nq) := below_drewN (Below.refl _ _) _
  replace h9 := Lv.on h9 hb
  replace h29 := Lv.on h29 hb
  replace PB := Blk.on PB hb
  replace QB := Blk.on QB hb
  replace bw := dy_end bw hb
  clear hb
  obtain ⟨PB_0, PB_1, PB_2, PB_f0, PB_f1, PB_f2⟩ := Dbx.cells PB
  obtain ⟨QB_0, QB_1, QB_2, QB_f0, QB_f1, QB_f2⟩ := Dbx.cells QB
  go_wp2_with fail
  with_reducible refine (refShl_any h9 (by omega) j j9).mono ?_
  rintro e w1 ⟨q5, A5, c5, rfl, k9, v5, m5, hb⟩
  clear PB_0 PB_1 PB_2 PB_f0 PB_f1 PB_f2
  clear QB_0 QB_1 QB_2 QB_f0 QB_f1 QB_f2
  have hs1 := hb.size
  try simp only [World.size_alloc, World.size_setCell] at hs1
  replace bw : Below w.heap.size w w1 := dy_end (by go_grown) hb
  replace h9 := Lv.on h9 hb
  replace h29 := Lv.on h29 hb
  replace PB := Blk.on PB hb
  replace QB := Blk.on QB hb
  clear hb
  obtain ⟨PB_0, PB_1, PB_2, PB_f0, PB_f1, PB_f2⟩ := Dbx.cells PB
  obtain ⟨QB_0, QB_1, QB_2, QB_f0, QB_f1, QB_f2⟩ := Dbx.cells QB
  go_wp2_with fail
  refine bodyPost_ret (v := .tuple #[.slice A5 q5.length c5, .slice A2 l2.length c2, .int .i64 x2]) (by simp [results, Tryz.results84, go_sem]) rfl ?_
  exact ⟨q5, A5, c5, l2, A2, c2, rfl, k9, nl2, Lib.hid (by rw [v5.out, J.out]), Lib.hid (by rw [show (x2 - x2).toNat = 0 by omega, Int.pow_zero, Int.mul_one]), m5, h29, bw⟩

set_option maxRecDepth 100000 in
set_option maxHeartbeats 8000000 in
theorem rLevel_a_le (h : Lv w A n c l) (hn : n ≤ 4096) (nl : Normal l) (h2 : Lv w A2 n2 c2 l2) (hn2 : n2 ≤ 4096) (nl2 : Normal l2) (x0 : -1048576 ≤ x) (x1 : x ≤ 1048576) (y0 : -1048576 ≤ x2) (y1 : x2 ≤ 1048576) (hf : x - x2 ≤ 600000 ∧ x2 - x ≤ 600000) (hz1 : l = []) (hz2 : l2 ≠ []) (hx : x ≤ x2) :
    Calls Tryz.prog 84 #[dyV b A n c x, dyV b2 A2 n2 c2 x2] w (Lvl x2 (val 18446744073709551616 l * 2 ^ (x - x2).toNat) (val 18446744073709551616 l2 * 2 ^ (x2 - x2).toNat) w) := by
  have e1 := h.1
  have e2 := h2.1
  subst e1 e2
  obtain ⟨f1, f2⟩ := hf
  have PB := Blk.new w [.bool b, .slice A l.length c, .int .i64 x] 24
  have QB := Blk.new (w.alloc (.cells #[.bool b, .slice A l.length c, .int .i64 x] 24)) [.bool b2, .slice A2 l2.length c2, .int .i64 x2] 24
  simp only [World.size_alloc] at QB
  replace PB := Blk.alloc PB (.cells #[.bool b2, .slice A2 l2.length c2, .int .i64 x2] 24)
  have bw : Below w.heap.size w ((w.alloc (.cells #[.bool b, .slice A l.length c, .int .i64 x] 24)).alloc (.cells #[.bool b2, .slice A2 l2.length c2, .int .i64 x2] 24)) := by go_grown
  obtain ⟨PB_0, PB_1, PB_2, PB_f0, PB_f1, PB_f2⟩ := Dbx.cells PB
  obtain ⟨QB_0, QB_1, QB_2, QB_f0, QB_f1, QB_f2⟩ := Dbx.cells QB
  have k1 : ((l.length : Int) == 0) = true := by rw [hz1]; rfl
  have k2 : ((l2.length : Int) == 0) = false := beq_eq_false_iff_ne.2 (fun e => hz2 (nil_of_len (by omega)))
  have k3 : min x x2 = x := by omega
  have k4 : decide (x2 < x) = false := by simp; omega
  have h9 := h.on bw
  have h29 := h2.on bw
  clear h h2 hz1 hz2
  go_enter Tryz.func84, Tryz.ntmps84
  go_wp2_with fail
  go_quiet (fail)
  clear PB_0 PB_1 PB_2 PB_f0 PB_f1 PB_f2
  clear QB_0 QB_1 QB_2 QB_f0 QB_f1 QB_f2
  have hb : Below ((w.alloc (.cells #[.bool b, .slice A l.length c, .int .i64 x] 24)).alloc (.cells #[.bool b2, .slice A2 l2.length c2, .int .i64 x2] 24)).heap.size ((w.alloc (.cells #[.bool b, .slice A l.length c, .int .i64 x] 24)).alloc (.cells #[.bool b2, .slice A2 l2.length c2, .int .i64 x2] 24)) (((w.alloc (.cells #[.bool b, .slice A l.length c, .int .i64 x] 24)).alloc (.cells #[.bool b2, .slice A2 l2.length c2, .int .i64 x2] 24)).drewN nq) := below_drewN (Below.refl _ _) _
  replace h9 := Lv.on h9 hb
  replace h29 := Lv.on h29 hb
  replace PB := Blk.on PB hb
  replace QB := Blk.on QB hb
  replace bw := dy_end bw hb
  clear hb
  obtain ⟨PB_0, PB_1, PB_2, PB_f0, PB_f1, PB_f2⟩ := Dbx.cells PB
  obtain ⟨QB_0, QB_1, QB_2, QB_f0, QB_f1, QB_f2⟩ := Dbx.cells QB
  go_wp2_with fail
  refine bodyPost_ret (v := .tuple #[.slice A l.length c, .slice A2 l2.length c2, .int .i64 x2]) (by simp [results, Tryz.results84, go_sem]) rfl ?_
  exact ⟨l, A, c, l2, A2, c2, rfl, nl, nl2, Lib.hid (by rw [show (x - x2).toNat = 0 by omega, Int.pow_zero, Int.mul_one]), Lib.hid (by rw [show (x2 - x2).toNat = 0 by omega, Int.pow_zero, Int.mul_one]), h9, h29, bw⟩

set_option maxRecDepth 100000 in
set_option maxHeartbeats 8000000 in
theorem rLevel_b_lt (h : Lv w A n c l) (hn : n ≤ 4096) (nl : Normal l) (h2 : Lv w A2 n2 c2 l2) (hn2 : n2 ≤ 4096) (nl2 : Normal l2) (x0 : -1048576 ≤ x) (x1 : x ≤ 1048576) (y0 : -1048576 ≤ x2) (y1 : x2 ≤ 1048576) (hf : x - x2 ≤ 600000 ∧ x2 - x ≤ 600000) (hz1 : l ≠ []) (hz2 : l2 = []) (hx : x < x2) :
    Calls Tryz.prog 84 #[dyV b A n c x, dyV b2 A2 n2 c2 x2] w (Lvl x (val 18446744073709551616 l * 2 ^ (x - x).toNat) (val 18446744073709551616 l2 * 2 ^ (x2 - x).toNat) w) := by
  have e1 := h.1
  have e2 := h2.1
  subst e1 e2
  obtain ⟨f1, f2⟩ := hf
  have PB := Blk.new w [.bool b, .slice A l.length c, .int .i64 x] 24
  have QB := Blk.new (w.alloc (.cells #[.bool b, .slice A l.length c, .int .i64 x] 24)) [.bool b2, .slice A2 l2.length c2, .int .i64 x2] 24
  simp only [World.size_alloc] at QB
  replace PB := Blk.alloc PB (.cells #[.bool b2, .slice A2 l2.length c2, .int .i64 x2] 24)
  have bw : Below w.heap.size w ((w.alloc (.cells #[.bool b, .slice A l.length c, .int .i64 x] 24)).alloc (.cells #[.bool b2, .slice A2 l2.length c2, .int .i64 x2] 24)) := by go_grown
  obtain ⟨PB_0, PB_1, PB_2, PB_f0, PB_f1, PB_f2⟩ := Dbx.cells PB
  obtain ⟨QB_0, QB_1, QB_2, QB_f0, QB_f1, QB_f2⟩ := Dbx.cells QB
  have k1 : ((l.length : Int) == 0) = false := beq_eq_false_iff_ne.2 (fun e => hz1 (nil_of_len (by omega)))
  have k2 : ((l2.length : Int) == 0) = true := by rw [hz2]; rfl
  have k3 : min x x2 = x := by omega
  have k5 : decide (x < x2) = true := by simp; omega
  obtain ⟨j, hj⟩ : ∃ j : Nat, x2 - x = j := ⟨(x2 - x).toNat, by omega⟩
  have j9 : j ≤ 600000 := by omega
  have J := Lib.hid (show (x2 - x).toNat = j by omega)
  have h9 := h.on bw
  have h29 := h2.on bw
  clear h h2 hz1 hz2
  go_enter Tryz.func84, Tryz.ntmps84
  go_wp2_with fail
  go_quiet (fail)
  clear PB_0 PB_1 PB_2 PB_f0 PB_f1 PB_f2
  clear QB_0 QB_1 QB_2 QB_f0 QB_f1 QB_f2
  have hb : Below ((w.alloc (.cells #[.bool b, .slice A l.length c, .int .i64 x] 24)).alloc (.cells #[.bool b2, .slice A2 l2.length c2, .int .i64 x2] 24)).heap.size ((w.alloc (.cells #[.bool b, .slice A l.length c, .int .i64 x] 24)).alloc (.cells #[.bool b2, .slice A2 l2.length c2, .int .i64 x2] 24)) (((w.alloc (.cells #[.bool b, .slice A l.length c, .int .i64 x] 24)).alloc (.cells #[.bool b2, .slice A2 l2.length c2, .int .i64 x2] 24)).drewN nq) := below_drewN (Below.refl _ _) _
  replace h9 := Lv.on h9 hb
  replace h29 := Lv.on h29 hb
  replace PB := Blk.on PB hb
  replace QB := Blk.on QB hb
  replace bw := dy_end bw hb
  clear hb
  obtain ⟨PB_0, PB_1, PB_2, PB_f0, PB_f1, PB_f2⟩ := Dbx.cells PB
  obtain ⟨QB_0, QB_1, QB_2, QB_f0, QB_f1, QB_f2⟩ := Dbx.cells QB
  go_wp2_with fail
  with_reducible refine (refShl_any h29 (by omega) j j9).mono ?_
  rintro e w1 ⟨q5, A5, c5, rfl, k9, v5, m5, hb⟩
  clear PB_0 PB_1 PB_2 PB_f0 PB_f1 PB_f2
  clear QB_0 QB_1 QB_2 QB_f0 QB_f1 QB_f2
  have hs1 := hb.size
  try simp only [World.size_alloc, World.size_setCell] at hs1
  replace bw : Below w.heap.size w w1 := dy_end (by go_grown) hb
  replace h9 := Lv.on h9 hb
  replace h29 := Lv.on h29 hb
  replace PB := Blk.on PB hb
  replace QB := Blk.on QB hb
  clear hb
  obtain ⟨PB_0, PB_1, PB_2, PB_f0, PB_f1, PB_f2⟩ := Dbx.cells PB
  obtain ⟨QB_0, QB_1, QB_2, QB_f0, QB_f1, QB_f2⟩ := Dbx.cells QB
  go_wp2_with fail
  refine bodyPost_ret (v := .tuple #[.slice A l.length c, .slice A5 q5.length c5, .int .i64 x]) (by simp [results, Tryz.results84, go_sem]) rfl ?_
  exact ⟨l, A, c, q5, A5, c5, rfl, nl, k9, Lib.hid (by rw [show (x - x).toNat = 0 by omega, Int.pow_zero, Int.mul_one]), Lib.hid (by rw [v5.out, J.out]), h9, m5, bw⟩

set_option maxRecDepth 100000 in
set_option maxHeartbeats 8000000 in
theorem rLevel_b_ge (h : Lv w A n c l) (hn : n ≤ 4096) (nl : Normal l) (h2 : Lv w A2 n2 c2 l2) (hn2 : n2 ≤ 4096) (nl2 : Normal l2) (x0 : -1048576 ≤ x) (x1 : x ≤ 1048576) (y0 : -1048576 ≤ x2) (y1 : x2 ≤ 1048576) (hf : x - x2 ≤ 600000 ∧ x2 - x ≤ 600000) (hz1 : l ≠ []) (hz2 : l2 = []) (hx : x2 ≤ x) :
    Calls Tryz.prog 84 #[dyV b A n c x, dyV b2 A2 n2 c2 x2] w (Lvl x (val 18446744073709551616 l * 2 ^ (x - x).toNat) (val 18446744073709551616 l2 * 2 ^ (x2 - x).toNat) w) := by
  have e1 := h.1
  have e2 := h2.1
  subst e1 e2
  obtain ⟨f1, f2⟩ := hf
  have PB := Blk.new w [.bool b, .slice A l.length c, .int .i64 x] 24
  have QB := Blk.new (w.alloc (.cells #[.bool b, .slice A l.length c, .int .i64 x] 24)) [.bool b2, .slice A2 l2.length c2, .int .i64 x2] 24
  simp only [World.size_alloc] at QB
  replace PB := Blk.alloc PB (.cells #[.bool b2, .slice A2 l2.length c2, .int .i64 x2] 24)
  have bw : Below w.heap.size w ((w.alloc (.cells #[.bool b, .slice A l.length c, .int .i64 x] 24)).alloc (.cells #[.bool b2, .slice A2 l2.length c2, .int .i64 x2] 24)) := by go_grown
  obtain ⟨PB_0, PB_1, PB_2, PB_f0, PB_f1, PB_f2⟩ := Dbx.cells PB
  obtain ⟨QB_0, QB_1, QB_2, QB_f0, QB_f1, QB_f2⟩ := Dbx.cells QB
  have k1 : ((l.length : Int) == 0) = false := beq_eq_false_iff_ne.2 (fun e => hz1 (nil_of_len (by omega)))
  have k2 : ((l2.length : Int) == 0) = true := by rw [hz2]; rfl
  have k3 : min x x2 = x2 := by omega
  have k5 : decide (x < x2) = false := by simp; omega
  have h9 := h.on bw
  have h29 := h2.on bw
  clear h h2 hz1 hz2
  go_enter Tryz.func84, Tryz.ntmps84
  go_wp2_with fail
  go_quiet (fail)
  clear PB_0 PB_1 PB_2 PB_f0 PB_f1 PB_f2
  clear QB_0 QB_1 QB_2 QB_f0 QB_f1 QB_f2
  have hb : Below ((w.alloc (.cells #[.bool b, .slice A l.length c, .int .i64 x] 24)).alloc (.cells #[.bool b2, .slice A2 l2.length c2, .int .i64 x2] 24)).heap.size ((w.alloc (.cells #[.bool b, .slice A l.length c, .int .i64 x] 24)).alloc (.cells #[.bool b2, .slice A2 l2.length c2, .int .i64 x2] 24)) (((w.alloc (.cells #[.bool b, .slice A l.length c, .int .i64 x] 24)).alloc (.cells #[.bool b2, .slice A2 l2.length c2, .int .i64 x2] 24)).drewN nq) := below_drewN (Below.refl _ _) _
  replace h9 := Lv.on h9 hb
  replace h29 := Lv.on h29 hb
  replace PB := Blk.on PB hb
  replace QB := Blk.on QB hb
  replace bw := dy_end bw hb
  clear hb
  obtain ⟨PB_0, PB_1, PB_2, PB_f0, PB_f1, PB_f2⟩ := Dbx.cells PB
  obtain ⟨QB_0, QB_1, QB_2, QB_f0, QB_f1, QB_f2⟩ := Dbx.cells QB
  go_wp2_with fail
  refine bodyPost_ret (v := .tuple #[.slice A l.length c, .slice A2 l2.length c2, .int .i64 x]) (by simp [results, Tryz.results84, go_sem]) rfl ?_
  exact ⟨l, A, c, l2, A2, c2, rfl, nl, nl2, Lib.hid (by rw [show (x - x).toNat = 0 by omega, Int.pow_zero, Int.mul_one]), Lib.hid (by rw [show (x2 - x).toNat = 0 by omega, Int.pow_zero, Int.mul_one]), h9, h29, bw⟩

set_option maxRecDepth 100000 in
set_option maxHeartbeats 8000000 in
theorem rLevel_z (h : Lv w A n c l) (hn : n ≤ 4096) (nl : Normal l) (h2 : Lv w A2 n2 c2 l2) (hn2 : n2 ≤ 4096) (nl2 : Normal l2) (x0 : -1048576 ≤ x) (x1 : x ≤ 1048576) (y0 : -1048576 ≤ x2) (y1 : x2 ≤ 1048576) (hf : x - x2 ≤ 600000 ∧ x2 - x ≤ 600000) (hz1 : l = []) (hz2 : l2 = []) (hx : x ≤ x2) (hy : x2 ≤ x) :
    Calls Tryz.prog 84 #[dyV b A n c x, dyV b2 A2 n2 c2 x2] w (Lvl x (val 18446744073709551616 l * 2 ^ (x - x).toNat) (val 18446744073709551616 l2 * 2 ^ (x2 - x).toNat) w) := by
  have e1 := h.1
  have e2 := h2.1
  subst e1 e2
  obtain ⟨f1, f2⟩ := hf
  have PB := Blk.new w [.bool b, .slice A l.length c, .int .i64 x] 24
  have QB := Blk.new (w.alloc (.cells #[.bool b, .slice A l.length c, .int .i64 x] 24)) [.bool b2, .slice A2 l2.length c2, .int .i64 x2] 24
  simp only [World.size_alloc] at QB
  replace PB := Blk.alloc PB (.cells #[.bool b2, .slice A2 l2.length c2, .int .i64 x2] 24)
  have bw : Below w.heap.size w ((w.alloc (.cells #[.bool b, .slice A l.length c, .int .i64 x] 24)).alloc (.cells #[.bool b2, .slice A2 l2.length c2, .int .i64 x2] 24)) := by go_grown
  obtain ⟨PB_0, PB_1, PB_2, PB_f0, PB_f1, PB_f2⟩ := Dbx.cells PB
  obtain ⟨QB_0, QB_1, QB_2, QB_f0, QB_f1, QB_f2⟩ := Dbx.cells QB
  have k1 : ((l.length : Int) == 0) = true := by rw [hz1]; rfl
  have k2 : ((l2.length : Int) == 0) = true := by rw [hz2]; rfl
  have k3 : min x x2 = x := by omega
  have k5 : decide (x < x2) = false := by simp; omega
  have h9 := h.on bw
  have h29 := h2.on bw
  clear h h2 hz1 hz2
  go_enter Tryz.func84, Tryz.ntmps84
  go_wp2_with fail
  go_quiet (fail)
  clear PB_0 PB_1 PB_2 PB_f0 PB_f1 PB_f2
  clear QB_0 QB_1 QB_2 QB_f0 QB_f1 QB_f2
  have hb : Below ((w.alloc (.cells #[.bool b, .slice A l.length c, .int .i64 x] 24)).alloc (.cells #[.bool b2, .slice A2 l2.length c2, .int .i64 x2] 24)).heap.size ((w.alloc (.cells #[.bool b, .slice A l.length c, .int .i64 x] 24)).alloc (.cells #[.bool b2, .slice A2 l2.length c2, .int .i64 x2] 24)) (((w.alloc (.cells #[.bool b, .slice A l.length c, .int .i64 x] 24)).alloc (.cells #[.bool b2, .slice A2 l2.length c2, .int .i64 x2] 24)).drewN nq) := below_drewN (Below.refl _ _) _
  replace h9 := Lv.on h9 hb
  replace h29 := Lv.on h29 hb
  replace PB := Blk.on PB hb
  replace QB := Blk.on QB hb
  replace bw := dy_end bw hb
  clear hb
  obtain ⟨PB_0, PB_1, PB_2, PB_f0, PB_f1, PB_f2⟩ := Dbx.cells PB
  obtain ⟨QB_0, QB_1, QB_2, QB_f0, QB_f1, QB_f2⟩ := Dbx.cells QB
  go_wp2_with fail
  refine bodyPost_ret (v := .tuple #[.slice A l.length c, .slice A2 l2.length c2, .int .i64 x]) (by simp [results, Tryz.results84, go_sem]) rfl ?_
  exact ⟨l, A, c, l2, A2, c2, rfl, nl, nl2, Lib.hid (by rw [show (x - x).toNat = 0 by omega, Int.pow_zero, Int.mul_one]), Lib.hid (by rw [show (x2 - x).toNat = 0 by omega, Int.pow_zero, Int.mul_one]), h9, h29, bw⟩


/-- the place where two are brought together -/
def plc (l l2 : List Int) (x x2 : Int) : Int := if l2 = [] then x else if l = [] then x2 else min x x2
theorem rLevel_any (h : Lv w A n c l) (hn : n ≤ 4096) (nl : Normal l) (h2 : Lv w A2 n2 c2 l2) (hn2 : n2 ≤ 4096) (nl2 : Normal l2) (x0 : -1048576 ≤ x) (x1 : x ≤ 1048576) (y0 : -1048576 ≤ x2) (y1 : x2 ≤ 1048576) (hf : x - x2 ≤ 600000 ∧ x2 - x ≤ 600000) (hs : l = [] → x = 0) (hs2 : l2 = [] → x2 = 0) :
    Calls Tryz.prog 84 #[dyV b A n c x, dyV b2 A2 n2 c2 x2] w (Lvl (plc l l2 x x2) (val 18446744073709551616 l * 2 ^ (x - (plc l l2 x x2)).toNat) (val 18446744073709551616 l2 * 2 ^ (x2 - (plc l l2 x x2)).toNat) w) := by
  unfold plc
  by_cases z1 : l = []
  · by_cases z2 : l2 = []
    · have e1 := hs z1
      have e2 := hs2 z2
      rw [if_pos z2]
      exact rLevel_z h hn nl h2 hn2 nl2 x0 x1 y0 y1 hf z1 z2 (by omega) (by omega)
    · rw [if_neg z2, if_pos z1]
      by_cases g : x2 < x
      · exact rLevel_a_gt h hn nl h2 hn2 nl2 x0 x1 y0 y1 hf z1 z2 g
      · exact rLevel_a_le h hn nl h2 hn2 nl2 x0 x1 y0 y1 hf z1 z2 (by omega)
  · by_cases z2 : l2 = []
    · rw [if_pos z2]
      by_cases g : x < x2
      · exact rLevel_b_lt h hn nl h2 hn2 nl2 x0 x1 y0 y1 hf z1 z2 g
      · exact rLevel_b_ge h hn nl h2 hn2 nl2 x0 x1 y0 y1 hf z1 z2 (by omega)
    · rw [if_neg z2, if_neg z1]
      rcases Int.lt_trichotomy x x2 with g | g | g
      · rw [Int.min_eq_left (by omega)]
        exact rLevel_n_lt h hn nl h2 hn2 nl2 x0 x1 y0 y1 hf z1 z2 g
      · rw [Int.min_eq_left (by omega)]
        exact rLevel_n_eq h hn nl h2 hn2 nl2 x0 x1 y0 y1 hf z1 z2 (by omega) (by omega)
      · rw [Int.min_eq_right (by omega)]
        exact rLevel_n_gt h hn nl h2 hn2 nl2 x0 x1 y0 y1 hf z1 z2 g
end
end Go.Proofs.YtknomchkfamajaaGreatDoor
