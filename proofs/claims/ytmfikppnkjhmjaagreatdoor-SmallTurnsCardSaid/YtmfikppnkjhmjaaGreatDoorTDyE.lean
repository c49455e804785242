/-
  Layer 3, walks, part three: what was handed in, what is answered, signs. (Written by wip/tools/gen_dye.py.)
-/
import Derived.Test.YtmfikppnkjhmjaaGreatDoorTDyD
namespace Go.Proofs.YtmfikppnkjhmjaaGreatDoor
open Go.RowKit
set_option linter.unusedVariables false
set_option linter.unusedSimpArgs false

theorem normal_odd {b : Bool} {l : List Int} {x : Int} {d : Nf} (h : Dn b l x d) (hl : Lim 18446744073709551616 l) (h0 : l.length ≠ 0) : val 18446744073709551616 l % 2 = 1 := by
  have h1 := ok_odd h.2.2.2 (fun e => h0 ((h.nil hl).2 e))
  have := h.man hl
  omega
/-- its sign, as a number -/
def sgnV (b : Bool) (n : Nat) : Int := if n = 0 then 0 else if b then -1 else 1

section
variable {b : Bool} {A : Option Addr} {n c : Nat} {x : Int} {l : List Int} {w : World}

set_option maxRecDepth 100000 in
set_option maxHeartbeats 4000000 in
theorem dyTaken_yes (h : Lv w A n c l) (hn : n ≤ 4096) (hT : Tab w) (ho : okE x = true) :
    Calls Tryz.prog 61 #[dyV b A n c x] w (DyK (nfl b (val 18446744073709551616 l) x) 0 w) := by
  obtain ⟨x0, x1⟩ := (okE_iff x).1 ho
  have PB := Blk.new w [.bool b, .slice A n c, .int .i64 x] 31
  have DB := Blk.new (w.alloc (.cells #[.bool b, .slice A n c, .int .i64 x] 31)) [.bool false, .slice none 0 0, .int .i64 0] 31
  simp only [World.size_alloc] at DB
  replace PB := Blk.alloc PB (.cells #[.bool false, .slice none 0 0, .int .i64 0] 31)
  have bw : Below w.heap.size w ((w.alloc (.cells #[.bool b, .slice A n c, .int .i64 x] 31)).alloc (.cells #[.bool false, .slice none 0 0, .int .i64 0] 31)) := by go_grown
  have PB_0 := Blk.cell PB 0 rfl
  have PB_1 := Blk.cell PB 1 rfl
  have PB_2 := Blk.cell PB 2 rfl
  have PB_f0 := Blk.free PB 0
  have PB_f1 := Blk.free PB 1
  have PB_f2 := Blk.free PB 2
  have DB_0 := Blk.cell DB 0 rfl
  have DB_1 := Blk.cell DB 1 rfl
  have DB_2 := Blk.cell DB 2 rfl
  have DB_f0 := Blk.free DB 0
  have DB_f1 := Blk.free DB 1
  have DB_f2 := Blk.free DB 2
  go_enter Tryz.func61, Tryz.ntmps61
  go_wp2_with fail
  with_reducible refine (dyMay_yes (b := b) (x := x) (h.on (by go_grown)) hn ho).mono ?_
  rintro e w1 ⟨rfl, hb⟩
  clear PB_0 PB_1 PB_2 PB_f0 PB_f1 PB_f2
  clear DB_0 DB_1 DB_2 DB_f0 DB_f1 DB_f2
  have hs1 := hb.size
  try simp only [World.size_alloc, World.size_setCell] at hs1
  replace bw : Below w.heap.size w w1 := dy_end (by go_grown) hb
  replace PB := Blk.on PB hb
  replace DB := Blk.on DB hb
  clear hb
  have PB_0 := Blk.cell PB 0 rfl
  have PB_1 := Blk.cell PB 1 rfl
  have PB_2 := Blk.cell PB 2 rfl
  have PB_f0 := Blk.free PB 0
  have PB_f1 := Blk.free PB 1
  have PB_f2 := Blk.free PB 2
  have DB_0 := Blk.cell DB 0 rfl
  have DB_1 := Blk.cell DB 1 rfl
  have DB_2 := Blk.cell DB 2 rfl
  have DB_f0 := Blk.free DB 0
  have DB_f1 := Blk.free DB 1
  have DB_f2 := Blk.free DB 2
  go_wp2_with fail
  with_reducible refine (normal_any (b := b) (x := x) (h.on (by go_grown)) hn (hT.onD (by go_grown)) (by omega) (by omega)).mono ?_
  rintro e w2 ⟨b', q, A2, c2, x', rfl, hd, m2, hb⟩
  clear PB_0 PB_1 PB_2 PB_f0 PB_f1 PB_f2
  clear DB_0 DB_1 DB_2 DB_f0 DB_f1 DB_f2
  have hs2 := hb.size
  try simp only [World.size_alloc, World.size_setCell] at hs2
  replace bw : Below w.heap.size w w2 := dy_end (by go_grown) hb
  replace PB := Blk.on PB hb
  replace DB := Blk.on DB hb
  clear hb
  have PB_0 := Blk.cell PB 0 rfl
  have PB_1 := Blk.cell PB 1 rfl
  have PB_2 := Blk.cell PB 2 rfl
  have PB_f0 := Blk.free PB 0
  have PB_f1 := Blk.free PB 1
  have PB_f2 := Blk.free PB 2
  have DB_0 := Blk.cell DB 0 rfl
  have DB_1 := Blk.cell DB 1 rfl
  have DB_2 := Blk.cell DB 2 rfl
  have DB_f0 := Blk.free DB 0
  have DB_f1 := Blk.free DB 1
  have DB_f2 := Blk.free DB 2
  go_wp2_with fail
  refine bodyPost_ret (v := .tuple #[dyV b' A2 q.length c2 x', .int .i64 0]) (by simp [results, Tryz.results61, go_sem, DB_0, DB_1, DB_2]) rfl ?_
  exact ⟨b', q, A2, c2, x', rfl, hd, m2.put DB _ _ _ _ _, by go_grown⟩

set_option maxRecDepth 100000 in
set_option maxHeartbeats 4000000 in
theorem dyTaken_no (h : Lv w A n c l) (hn : n ≤ 4096) (ho : okE x = false) :
    Calls Tryz.prog 61 #[dyV b A n c x] w (DyK zeroN 2 w) := by
  have PB := Blk.new w [.bool b, .slice A n c, .int .i64 x] 31
  have DB := Blk.new (w.alloc (.cells #[.bool b, .slice A n c, .int .i64 x] 31)) [.bool false, .slice none 0 0, .int .i64 0] 31
  simp only [World.size_alloc] at DB
  replace PB := Blk.alloc PB (.cells #[.bool false, .slice none 0 0, .int .i64 0] 31)
  have bw : Below w.heap.size w ((w.alloc (.cells #[.bool b, .slice A n c, .int .i64 x] 31)).alloc (.cells #[.bool false, .slice none 0 0, .int .i64 0] 31)) := by go_grown
  have PB_0 := Blk.cell PB 0 rfl
  have PB_1 := Blk.cell PB 1 rfl
  have PB_2 := Blk.cell PB 2 rfl
  have PB_f0 := Blk.free PB 0
  have PB_f1 := Blk.free PB 1
  have PB_f2 := Blk.free PB 2
  have DB_0 := Blk.cell DB 0 rfl
  have DB_1 := Blk.cell DB 1 rfl
  have DB_2 := Blk.cell DB 2 rfl
  have DB_f0 := Blk.free DB 0
  have DB_f1 := Blk.free DB 1
  have DB_f2 := Blk.free DB 2
  go_enter Tryz.func61, Tryz.ntmps61
  go_wp2_with fail
  with_reducible refine (dyMay_no (b := b) (x := x) (h.on (by go_grown)) hn ho).mono ?_
  rintro e w1 ⟨rfl, hb⟩
  clear PB_0 PB_1 PB_2 PB_f0 PB_f1 PB_f2
  clear DB_0 DB_1 DB_2 DB_f0 DB_f1 DB_f2
  have hs1 := hb.size
  try simp only [World.size_alloc, World.size_setCell] at hs1
  replace bw : Below w.heap.size w w1 := dy_end (by go_grown) hb
  replace PB := Blk.on PB hb
  replace DB := Blk.on DB hb
  clear hb
  have PB_0 := Blk.cell PB 0 rfl
  have PB_1 := Blk.cell PB 1 rfl
  have PB_2 := Blk.cell PB 2 rfl
  have PB_f0 := Blk.free PB 0
  have PB_f1 := Blk.free PB 1
  have PB_f2 := Blk.free PB 2
  have DB_0 := Blk.cell DB 0 rfl
  have DB_1 := Blk.cell DB 1 rfl
  have DB_2 := Blk.cell DB 2 rfl
  have DB_f0 := Blk.free DB 0
  have DB_f1 := Blk.free DB 1
  have DB_f2 := Blk.free DB 2
  go_wp2_with fail
  refine bodyPost_ret (v := .tuple #[dyV false none 0 0 0, .int .i64 2]) (by simp [results, Tryz.results61, go_sem, DB_0, DB_1, DB_2]) rfl ?_
  exact ⟨false, [], none, 0, 0, rfl, Dn.zero, lv_nil _, by go_grown⟩

set_option maxRecDepth 100000 in
set_option maxHeartbeats 4000000 in
theorem dyAns_zero (h : Lv w A n c l) (h0 : n = 0) :
    Calls Tryz.prog 40 #[.bool b, .slice A n c, .int .i64 x] w (DyK zeroN 0 w) := by
  subst h0
  have DB := Blk.new w [.bool false, .slice none 0 0, .int .i64 0] 31
  have PB := Blk.new (w.alloc (.cells #[.bool false, .slice none 0 0, .int .i64 0] 31)) [.bool b, .slice A 0 c, .int .i64 x] 31
  simp only [World.size_alloc] at PB
  replace DB := Blk.alloc DB (.cells #[.bool b, .slice A 0 c, .int .i64 x] 31)
  have bw : Below w.heap.size w ((w.alloc (.cells #[.bool false, .slice none 0 0, .int .i64 0] 31)).alloc (.cells #[.bool b, .slice A 0 c, .int .i64 x] 31)) := by go_grown
  have DB_0 := Blk.cell DB 0 rfl
  have DB_1 := Blk.cell DB 1 rfl
  have DB_2 := Blk.cell DB 2 rfl
  have DB_f0 := Blk.free DB 0
  have DB_f1 := Blk.free DB 1
  have DB_f2 := Blk.free DB 2
  have PB_0 := Blk.cell PB 0 rfl
  have PB_1 := Blk.cell PB 1 rfl
  have PB_2 := Blk.cell PB 2 rfl
  have PB_f0 := Blk.free PB 0
  have PB_f1 := Blk.free PB 1
  have PB_f2 := Blk.free PB 2
  go_enter Tryz.func40, Tryz.ntmps40
  go_wp2_with fail
  refine bodyPost_ret (v := .tuple #[dyV false none 0 0 0, .int .i64 0]) (by simp [results, Tryz.results40, go_sem, DB_0, DB_1, DB_2]) rfl ?_
  exact ⟨false, [], none, 0, 0, rfl, Dn.zero, lv_nil _, by go_grown⟩

set_option maxRecDepth 100000 in
set_option maxHeartbeats 4000000 in
theorem dyAns_yes (h : Lv w A n c l) (hn : n ≤ 4096) (h0 : ((n : Int) == 0) = false) (hl : l.length = n) {d : Nf} (hd : Dn b l x d) (ho : okE x = true) :
    Calls Tryz.prog 40 #[.bool b, .slice A n c, .int .i64 x] w (DyK d 0 w) := by
  have DB := Blk.new w [.bool false, .slice none 0 0, .int .i64 0] 31
  have PB := Blk.new (w.alloc (.cells #[.bool false, .slice none 0 0, .int .i64 0] 31)) [.bool b, .slice A n c, .int .i64 x] 31
  simp only [World.size_alloc] at PB
  replace DB := Blk.alloc DB (.cells #[.bool b, .slice A n c, .int .i64 x] 31)
  have bw : Below w.heap.size w ((w.alloc (.cells #[.bool false, .slice none 0 0, .int .i64 0] 31)).alloc (.cells #[.bool b, .slice A n c, .int .i64 x] 31)) := by go_grown
  have DB_0 := Blk.cell DB 0 rfl
  have DB_1 := Blk.cell DB 1 rfl
  have DB_2 := Blk.cell DB 2 rfl
  have DB_f0 := Blk.free DB 0
  have DB_f1 := Blk.free DB 1
  have DB_f2 := Blk.free DB 2
  have PB_0 := Blk.cell PB 0 rfl
  have PB_1 := Blk.cell PB 1 rfl
  have PB_2 := Blk.cell PB 2 rfl
  have PB_f0 := Blk.free PB 0
  have PB_f1 := Blk.free PB 1
  have PB_f2 := Blk.free PB 2
  go_enter Tryz.func40, Tryz.ntmps40
  go_wp2_with fail
  with_reducible refine (dyMay_yes (b := b) (x := x) (h.on (by go_grown)) hn ho).mono ?_
  rintro e w1 ⟨rfl, hb⟩
  clear DB_0 DB_1 DB_2 DB_f0 DB_f1 DB_f2
  clear PB_0 PB_1 PB_2 PB_f0 PB_f1 PB_f2
  have hs1 := hb.size
  try simp only [World.size_alloc, World.size_setCell] at hs1
  replace bw : Below w.heap.size w w1 := dy_end (by go_grown) hb
  replace DB := Blk.on DB hb
  replace PB := Blk.on PB hb
  clear hb
  have DB_0 := Blk.cell DB 0 rfl
  have DB_1 := Blk.cell DB 1 rfl
  have DB_2 := Blk.cell DB 2 rfl
  have DB_f0 := Blk.free DB 0
  have DB_f1 := Blk.free DB 1
  have DB_f2 := Blk.free DB 2
  have PB_0 := Blk.cell PB 0 rfl
  have PB_1 := Blk.cell PB 1 rfl
  have PB_2 := Blk.cell PB 2 rfl
  have PB_f0 := Blk.free PB 0
  have PB_f1 := Blk.free PB 1
  have PB_f2 := Blk.free PB 2
  go_wp2_with fail
  refine bodyPost_ret (v := .tuple #[dyV b A n c x, .int .i64 0]) (by simp [results, Tryz.results40, go_sem, DB_0, DB_1, DB_2]) rfl ?_
  exact ⟨b, l, A, c, x, by rw [hl], hd, by rw [hl]; exact (h.on bw).put DB _ _ _ _ _, by go_grown⟩

set_option maxRecDepth 100000 in
set_option maxHeartbeats 4000000 in
theorem dyAns_no (h : Lv w A n c l) (hn : n ≤ 4096) (h0 : ((n : Int) == 0) = false) (ho : okE x = false) :
    Calls Tryz.prog 40 #[.bool b, .slice A n c, .int .i64 x] w (DyK zeroN 3 w) := by
  have DB := Blk.new w [.bool false, .slice none 0 0, .int .i64 0] 31
  have PB := Blk.new (w.alloc (.cells #[.bool false, .slice none 0 0, .int .i64 0] 31)) [.bool b, .slice A n c, .int .i64 x] 31
  simp only [World.size_alloc] at PB
  replace DB := Blk.alloc DB (.cells #[.bool b, .slice A n c, .int .i64 x] 31)
  have bw : Below w.heap.size w ((w.alloc (.cells #[.bool false, .slice none 0 0, .int .i64 0] 31)).alloc (.cells #[.bool b, .slice A n c, .int .i64 x] 31)) := by go_grown
  have DB_0 := Blk.cell DB 0 rfl
  have DB_1 := Blk.cell DB 1 rfl
  have DB_2 := Blk.cell DB 2 rfl
  have DB_f0 := Blk.free DB 0
  have DB_f1 := Blk.free DB 1
  have DB_f2 := Blk.free DB 2
  have PB_0 := Blk.cell PB 0 rfl
  have PB_1 := Blk.cell PB 1 rfl
  have PB_2 := Blk.cell PB 2 rfl
  have PB_f0 := Blk.free PB 0
  have PB_f1 := Blk.free PB 1
  have PB_f2 := Blk.free PB 2
  go_enter Tryz.func40, Tryz.ntmps40
  go_wp2_with fail
  with_reducible refine (dyMay_no (b := b) (x := x) (h.on (by go_grown)) hn ho).mono ?_
  rintro e w1 ⟨rfl, hb⟩
  clear DB_0 DB_1 DB_2 DB_f0 DB_f1 DB_f2
  clear PB_0 PB_1 PB_2 PB_f0 PB_f1 PB_f2
  have hs1 := hb.size
  try simp only [World.size_alloc, World.size_setCell] at hs1
  replace bw : Below w.heap.size w w1 := dy_end (by go_grown) hb
  replace DB := Blk.on DB hb
  replace PB := Blk.on PB hb
  clear hb
  have DB_0 := Blk.cell DB 0 rfl
  have DB_1 := Blk.cell DB 1 rfl
  have DB_2 := Blk.cell DB 2 rfl
  have DB_f0 := Blk.free DB 0
  have DB_f1 := Blk.free DB 1
  have DB_f2 := Blk.free DB 2
  have PB_0 := Blk.cell PB 0 rfl
  have PB_1 := Blk.cell PB 1 rfl
  have PB_2 := Blk.cell PB 2 rfl
  have PB_f0 := Blk.free PB 0
  have PB_f1 := Blk.free PB 1
  have PB_f2 := Blk.free PB 2
  go_wp2_with fail
  refine bodyPost_ret (v := .tuple #[dyV false none 0 0 0, .int .i64 3]) (by simp [results, Tryz.results40, go_sem, DB_0, DB_1, DB_2]) rfl ?_
  exact ⟨false, [], none, 0, 0, rfl, Dn.zero, lv_nil _, by go_grown⟩


theorem dyAns_any (h : Lv w A n c l) (hn : n ≤ 4096) (nl : Normal l) (ho : n ≠ 0 → val 18446744073709551616 l % 2 = 1) :
    Calls Tryz.prog 40 #[.bool b, .slice A n c, .int .i64 x] w (DyK (ansR b (val 18446744073709551616 l) x).1 (ansR b (val 18446744073709551616 l) x).2 w) := by
  have hv0 := lim_val h.2.2
  by_cases h0 : n = 0
  · have e : ansR b (val 18446744073709551616 l) x = (zeroN, 0) := by unfold ansR; rw [if_pos (by rw [nil_of_len (h.1.trans h0)]; rfl)]
    rw [e]
    exact dyAns_zero h h0
  · have hv := ho h0
    have hb : ((n : Int) == 0) = false := beq_eq_false_iff_ne.2 (by omega)
    by_cases hx : okE x = true
    · have e : ansR b (val 18446744073709551616 l) x = (⟨b, (val 18446744073709551616 l).toNat, x⟩, 0) := by unfold ansR; rw [if_neg (by omega), doneR_yes (by exact hx)]
      rw [e]
      exact dyAns_yes h hn hb h.1 (Dn.of h.2.2 nl (by rw [h.1]; exact hn) hv) hx
    · have hx' : okE x = false := by simpa using hx
      have e : ansR b (val 18446744073709551616 l) x = (zeroN, 3) := by unfold ansR; rw [if_neg (by omega), doneR_no (by exact hx')]
      rw [e]
      exact dyAns_no h hn hb hx'

set_option maxHeartbeats 400000 in
theorem signOf_any (b : Bool) (A : Option Addr) (n c : Nat) (w : World) :
    Calls Tryz.prog 68 #[.bool b, .slice A n c] w fun e w' => e = .returned (.int .i64 (sgnV b n)) ∧ w = w' := by
  by_cases h0 : n = 0
  · subst h0
    go_enter Tryz.func68, Tryz.ntmps68
    go_wp2_with fail
    go_ret
    exact ⟨rfl, rfl⟩
  · have hb : ((n : Int) == 0) = false := beq_eq_false_iff_ne.2 (by omega)
    cases b
    · have e : sgnV false n = 1 := by unfold sgnV; rw [if_neg h0]; rfl
      rw [e]
      clear e
      go_enter Tryz.func68, Tryz.ntmps68
      go_wp2_with fail
      go_ret
      exact ⟨rfl, rfl⟩
    · have e : sgnV true n = -1 := by unfold sgnV; rw [if_neg h0]; rfl
      rw [e]
      clear e
      go_enter Tryz.func68, Tryz.ntmps68
      go_wp2_with fail
      go_ret
      exact ⟨rfl, rfl⟩
end
end Go.Proofs.YtmfikppnkjhmjaaGreatDoor
