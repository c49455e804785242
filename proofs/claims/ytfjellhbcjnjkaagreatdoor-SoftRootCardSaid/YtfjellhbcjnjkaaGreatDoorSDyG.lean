/-
  Layer 3, walks, part four: copies; what is handed on. (Written by wip/tools/gen_dyg.py.)
-/
import Derived.Test.YtfjellhbcjnjkaaGreatDoorSDyE
import Derived.Lib.SliceRun
namespace Go.Proofs.YtfjellhbcjnjkaaGreatDoor
open Go.RowKit
set_option linter.unusedVariables false
set_option linter.unusedSimpArgs false

section
variable {b : Bool} {A : Option Addr} {n c : Nat} {x : Int} {l : List Int} {w : World}
set_option maxHeartbeats 1000000 in
theorem sclone_any (h : Lv w A n c l) (hn : n ≤ 1000000) :
    Calls Tryz.prog 159 #[.slice A n c] w fun e w' => ∃ A' c', e = .returned (.slice A' n c') ∧ Lv w' A' n c' l ∧ Below w.heap.size w w' := by
  have qT : ∀ (w : World) (a : Option Addr) (n c n' c' : Nat), (binOp .eql 33 (.slice a n c) (.slice none n' c')).run Tryz.prog w = .ok (.bool a.isNone) w := fun w a n c n' c' => Lib.run_eql_slice_nil w _ _ a n c n' c' Tryz.underlying33
  have hl := h.1
  rcases A with _ | ad
  · have h0 : l = [] := by
      rcases Nat.eq_zero_or_pos l.length with g | g
      · exact nil_of_len g
      · obtain ⟨ad, e, _⟩ := h.2.1.2.2 g
        cases e
    subst h0
    obtain rfl : n = 0 := by rw [← hl]; rfl
    go_enter Tryz.func159, Tryz.ntmps159
    go_wp2_with fail
    go_ret
    exact ⟨none, 0, rfl, lv_nil _, Below.refl _ _⟩
  · have hN := h.2.1.alloc (Nat.le_refl _) (.cells (L []).toArray 22)
    have hO : Own (w.alloc (.cells (L []).toArray 22)) w.heap.size (some ⟨w.heap.size, 0, none⟩) 0 [] := (Row.new w []).own 0 (by simp) (by simp) (Nat.le_refl _)
    subst hl
    go_enter Tryz.func159, Tryz.ntmps159
    go_wp2_with (at_builtin; refine wpList_app _ rfl _ _ rfl w.heap.size (some ⟨w.heap.size, 0, none⟩) 0 [] rfl hO _ (some ad) c l rfl hN (by simp; omega) (by simp) ?_; intro A2 c2 w2 hown hg hat)
    go_ret
    refine ⟨A2, c2, rfl, ⟨rfl, hown.nums, h.2.2⟩, ?_⟩
    exact below_app ((Below.refl _ _).alloc (Nat.le_refl _) _) hO hg (by simp)

theorem ansR_dn {d : Nf} (hd : Dn b l x d) (hl : Lim 18446744073709551616 l) : ansR b (val 18446744073709551616 l) x = doneR d := by
  have hm := hd.man hl
  unfold ansR
  by_cases h0 : d.man = 0
  · rw [if_pos (by omega), ok_zero hd.2.2.2 h0]; rfl
  · rw [if_neg (by omega), ← hd.2.2.1]
theorem Dn.odd {d : Nf} (hd : Dn b l x d) (hl : Lv w A n c l) : n ≠ 0 → val 18446744073709551616 l % 2 = 1 := fun h0 => normal_odd hd hl.2.2 (by rw [hl.1]; exact h0)
theorem Dn.len {d : Nf} (hd : Dn b l x d) : l.length ≤ 4096 := hd.2.1

set_option maxRecDepth 100000 in
set_option maxHeartbeats 4000000 in
theorem copied_any (h : Lv w A n c l) (hn : n ≤ 4096) (nl : Normal l) (ho : n ≠ 0 → val 18446744073709551616 l % 2 = 1) :
    Calls Tryz.prog 138 #[.bool b, .slice A n c, .int .i64 x] w (DyK (ansR b (val 18446744073709551616 l) x).1 (ansR b (val 18446744073709551616 l) x).2 w) := by
  have DB := Blk.new w [.bool false, .slice none 0 0, .int .i64 0] 35
  have bw : Below w.heap.size w (w.alloc (.cells #[.bool false, .slice none 0 0, .int .i64 0] 35)) := by go_grown
  have DB_0 := Blk.cell DB 0 rfl
  have DB_1 := Blk.cell DB 1 rfl
  have DB_2 := Blk.cell DB 2 rfl
  have DB_f0 := Blk.free DB 0
  have DB_f1 := Blk.free DB 1
  have DB_f2 := Blk.free DB 2
  go_enter Tryz.func138, Tryz.ntmps138
  go_wp2_with fail
  with_reducible refine (sclone_any (h.on (by go_grown)) (by omega)).mono ?_
  rintro e w1 ⟨A1, c1, rfl, m1, hb⟩
  clear DB_0 DB_1 DB_2 DB_f0 DB_f1 DB_f2
  have hs1 := hb.size
  try simp only [World.size_alloc, World.size_setCell] at hs1
  replace bw : Below w.heap.size w w1 := dy_end (by go_grown) hb
  replace DB := Blk.on DB hb
  clear hb
  have DB_0 := Blk.cell DB 0 rfl
  have DB_1 := Blk.cell DB 1 rfl
  have DB_2 := Blk.cell DB 2 rfl
  have DB_f0 := Blk.free DB 0
  have DB_f1 := Blk.free DB 1
  have DB_f2 := Blk.free DB 2
  go_wp2_with fail
  with_reducible refine (dyAns_any (b := b) (x := x) m1 hn nl ho).mono ?_
  rintro e w2 ⟨b2, q2, A2, c2, x2, rfl, hd2, m2, hb⟩
  clear DB_0 DB_1 DB_2 DB_f0 DB_f1 DB_f2
  have hs2 := hb.size
  try simp only [World.size_alloc, World.size_setCell] at hs2
  replace bw : Below w.heap.size w w2 := dy_end (by go_grown) hb
  replace m1 := Lv.on m1 hb
  replace DB := Blk.on DB hb
  clear hb
  have DB_0 := Blk.cell DB 0 rfl
  have DB_1 := Blk.cell DB 1 rfl
  have DB_2 := Blk.cell DB 2 rfl
  have DB_f0 := Blk.free DB 0
  have DB_f1 := Blk.free DB 1
  have DB_f2 := Blk.free DB 2
  go_wp2_with fail
  refine bodyPost_ret (v := .tuple #[dyV b2 A2 q2.length c2 x2, .int .i64 (ansR b (val 18446744073709551616 l) x).2]) (by simp [results, Tryz.results138, go_sem, DB_0, DB_1, DB_2]) rfl ?_
  exact ⟨b2, q2, A2, c2, x2, rfl, hd2, m2.put DB _ _ _ _ _, by go_grown⟩


end
end Go.Proofs.YtfjellhbcjnjkaaGreatDoor
