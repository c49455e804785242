/-
  Layer 9: the law of a reflection made. (Written by wip/tools/gen_rfp.py.)
-/
import Derived.Test.YtcdbjlmegkcaiaaRfM
import Derived.Test.YtcdbjlmegkcaiaaRfE
namespace Go.Proofs.Ytcdbjlmegkcaiaa
open Go.RowKit Go.Bw
set_option linter.unusedVariables false
set_option linter.unusedSimpArgs false
attribute [local go_sem] run_store_float

abbrev RTrue (w : World) (e : Ending) (w' : World) : Prop := e = .returned (.bool true) ∧ Below w.heap.size w w'
set_option maxRecDepth 100000 in
set_option maxHeartbeats 8000000 in
theorem law_makes {A : Option Addr} {n c : Nat} {l : List Int} {w : World} (h : FL w A n c l) : Calls Try.prog 3 #[.slice A n c] w (RTrue w) := by
  have hmx := h.max
  have bz := Below.refl w.heap.size w
  by_cases hbig : 600 < n
  · have hb1 : (600 : Int) < n := by omega
    clear h
    go_enter Try.func3, Try.ntmps3
    go_wp2_with fail
    with_reducible refine (known_any _).mono ?_
    rintro e w1 ⟨rfl, hb⟩
    go_wp2_with fail
    go_ret
    exact ⟨rfl, hb⟩
  · by_cases hn : n = 0
    · subst hn
      clear hbig h
      go_enter Try.func3, Try.ntmps3
      go_wp2_with fail
      with_reducible refine (gMake_none _).mono ?_
      rintro e w1 ⟨rfl, hb⟩
      have bz1 := hb.alloc hb.size (.cells #[.slice none 0 0, .float .f64 0] 26)
      go_wp2_with fail
      with_reducible refine (known_any _).mono ?_
      rintro e w2 ⟨rfl, hb2⟩
      go_wp2_with fail
      go_ret
      exact ⟨rfl, bz1.trans (hb2.mono bz1.size)⟩
    · have hb1 : ¬ (600 : Int) < n := by omega
      have hb2 : ((n : Int) == 0) = false := by simp; exact hn
      go_enter Try.func3, Try.ntmps3
      go_wp2_with fail
      with_reducible refine (gMake_any h (by omega) (by omega)).mono ?_
      rintro e w1 ⟨g1, t1, b1, v1, rfl, R1, hg1, I1, ht1, hb11, bt1, bb1, hb⟩
      replace h := h.on hb
      replace bz := bz.trans (hb.mono bz.size)
      clear hb
      have B1 := Blk.new w1 [.slice (some ⟨g1, 0, none⟩) n n, .float .f64 t1] 26
      have hbA := (Below.refl _ w1).alloc (Nat.le_refl _) (.cells #[.slice (some ⟨g1, 0, none⟩) n n, .float .f64 t1] 26)
      replace h := h.on hbA
      replace R1 := R1.on hbA
      clear hbA
      replace bz := bz.alloc bz.size (.cells #[.slice (some ⟨g1, 0, none⟩) n n, .float .f64 t1] 26)
      go_wp2_with fail
      with_reducible refine (rMake_any h (by omega) (by omega)).mono ?_
      rintro e w2 ⟨g2, t2, b2, v2, rfl, R2, hg2, I2, ht2, hb12, bt2, bb2, hb⟩
      replace h := h.on hb
      replace R1 := R1.on hb
      replace B1 := B1.on hb
      replace bz := bz.trans (hb.mono bz.size)
      clear hb
      have B2 := Blk.new w2 [.slice (some ⟨g2, 0, none⟩) n n, .float .f64 t2] 26
      have hbA := (Below.refl _ w2).alloc (Nat.le_refl _) (.cells #[.slice (some ⟨g2, 0, none⟩) n n, .float .f64 t2] 26)
      replace h := h.on hbA
      replace R1 := R1.on hbA
      replace B1 := B1.on hbA
      replace R2 := R2.on hbA
      clear hbA
      replace bz := bz.alloc bz.size (.cells #[.slice (some ⟨g2, 0, none⟩) n n, .float .f64 t2] 26)
      obtain ⟨p0, p1, _, _⟩ := Rbx.cells B1
      obtain ⟨q0, q1, _, _⟩ := Rbx.cells B2
      have F1 : FL (w2.alloc (.cells #[.slice (some ⟨g2, 0, none⟩) n n, .float .f64 t2] 26)) (some ⟨g1, 0, none⟩) n n v1 := by have h9 := R1.fl I1.wd (by rw [I1.len]; unfold maxLen; omega); rw [I1.len] at h9; exact h9
      have F2 : FL (w2.alloc (.cells #[.slice (some ⟨g2, 0, none⟩) n n, .float .f64 t2] 26)) (some ⟨g2, 0, none⟩) n n v2 := by have h9 := R2.fl I2.wd (by rw [I2.len]; unfold maxLen; omega); rw [I2.len] at h9; exact h9
      have hs : ∀ k, k < n → fa (D v1 k) = fa (D v2 k) := fun k hk => (I1.at_ k hk).trans (I2.at_ k hk).symm
      have HS := Lib.hid hs
      have e1 := hb11.trans hb12.symm
      have e2 := ht1.trans ht2.symm
      clear hs I1 I2 R1 R2 hb11 hb12 ht1 ht2
      have ps := rSame_any bb1 bb2 e1 (w2.alloc (.cells #[.slice (some ⟨g2, 0, none⟩) n n, .float .f64 t2] 26))
      have ps2 := rSame_any bt1 bt2 e2 (w2.alloc (.cells #[.slice (some ⟨g2, 0, none⟩) n n, .float .f64 t2] 26))
      have ps3 := rSameAll_any F1 F2 HS.out
      clear F1 F2 e1 e2 HS h
      go_wp2_with fail
      with_reducible refine ps.mono ?_
      rintro e w3 ⟨rfl, rfl⟩
      go_wp2_with fail
      with_reducible refine ps2.mono ?_
      rintro e w3 ⟨rfl, rfl⟩
      go_wp2_with fail
      with_reducible refine ps3.mono ?_
      rintro e w3 ⟨rfl, hb⟩
      replace bz := bz.trans (hb.mono bz.size)
      clear hb
      go_wp2_with fail
      with_reducible refine (known_any _).mono ?_
      rintro e w4 ⟨rfl, hb⟩
      go_wp2_with fail
      go_ret
      exact ⟨rfl, bz.trans (hb.mono bz.size)⟩
end Go.Proofs.Ytcdbjlmegkcaiaa
