/-
  Layer 3: shifts.
-/
import Derived.Test.YtcdbjlmegkcaiaaGreatDoorYDyC
import Derived.Lib.SliceRun
namespace Go.Proofs.YtcdbjlmegkcaiaaGreatDoor
open Go.RowKit
set_option linter.unusedVariables false
set_option linter.unusedSimpArgs false

section
variable {b : Bool} {A : Option Addr} {n c : Nat} {x : Int} {l : List Int} {w : World}
set_option maxHeartbeats 1000000 in
theorem sclone_any (h : Lv w A n c l) (hn : n ≤ 1000000) :
    Calls Tryz.prog 60 #[.slice A n c] w fun e w' => ∃ A' c', e = .returned (.slice A' n c') ∧ Lv w' A' n c' l ∧ Below w.heap.size w w' := by
  have qT : ∀ (w : World) (a : Option Addr) (n c n' c' : Nat), (binOp .eql 38 (.slice a n c) (.slice none n' c')).run Tryz.prog w = .ok (.bool a.isNone) w := fun w a n c n' c' => Lib.run_eql_slice_nil w _ _ a n c n' c' Tryz.underlying38
  have hl := h.1
  rcases A with _ | ad
  · have h0 : l = [] := by
      rcases Nat.eq_zero_or_pos l.length with g | g
      · exact nil_of_len g
      · obtain ⟨ad, e, _⟩ := h.2.1.2.2 g
        cases e
    subst h0
    obtain rfl : n = 0 := by rw [← hl]; rfl
    go_enter Tryz.func60, Tryz.ntmps60
    go_wp2_with fail
    go_ret
    exact ⟨none, 0, rfl, lv_nil _, Below.refl _ _⟩
  · have hN := h.2.1.alloc (Nat.le_refl _) (.cells (L []).toArray 62)
    have hO : Own (w.alloc (.cells (L []).toArray 62)) w.heap.size (some ⟨w.heap.size, 0, none⟩) 0 [] := (Row.new w []).own 0 (by simp) (by simp) (Nat.le_refl _)
    subst hl
    go_enter Tryz.func60, Tryz.ntmps60
    go_wp2_with (at_builtin; refine wpList_app _ rfl _ _ rfl w.heap.size (some ⟨w.heap.size, 0, none⟩) 0 [] rfl hO _ (some ad) c l rfl hN (by simp; omega) (by simp) ?_; intro A2 c2 w2 hown hg hat)
    go_ret
    refine ⟨A2, c2, rfl, ⟨rfl, hown.nums, h.2.2⟩, ?_⟩
    exact below_app ((Below.refl _ _).alloc (Nat.le_refl _) _) hO hg (by simp)

theorem ansR_dn {d : Nf} (hd : Dn b l x d) (hl : Lim 18446744073709551616 l) : ansR b (val 18446744073709551616 l) x = doneR d := by
  have hm := hd.man hl
  unfold ansR
  by_cases h0 : d.man = 0
  · rw [if_pos (by omega), ok_zero hd.2.2.2 h0]; rfl
  · rw [if_neg (by omega), ← hd.2.2.1]
theorem ansR_neg {d : Nf} (hd : Dn b l x d) (hl : Lim 18446744073709551616 l) : ansR (!b) (val 18446744073709551616 l) x = doneR (negN d) := by
  have hm := hd.man hl
  unfold ansR
  by_cases h0 : d.man = 0
  · rw [if_pos (by omega), ok_zero hd.2.2.2 h0, negN_zero]; rfl
  · have ho := ok_odd hd.2.2.2 h0
    rw [if_neg (by omega)]
    have e := hd.2.2.1
    rw [e] at ho ⊢
    rw [negN_is ho]
theorem ansR_abs {d : Nf} (hd : Dn b l x d) (hl : Lim 18446744073709551616 l) : ansR false (val 18446744073709551616 l) x = doneR (absN d) := by
  have hm := hd.man hl
  unfold ansR
  by_cases h0 : d.man = 0
  · rw [if_pos (by omega), ok_zero hd.2.2.2 h0]; rfl
  · have e := hd.2.2.1
    rw [if_neg (by omega), e]
    rfl
/-- a number times 2^k -/
def shR (d : Nf) (k : Int) : Nf × Int := if d.man = 0 then (zeroN, 0) else doneR ⟨d.neg, d.man, d.exp + k⟩
theorem ansR_shift {d : Nf} (hd : Dn b l x d) (hl : Lim 18446744073709551616 l) (k y : Int) (h : okE y = okE (x + k)) (h2 : okE (x + k) = true → y = x + k) : ansR b (val 18446744073709551616 l) y = shR d k := by
  have hm := hd.man hl
  unfold ansR shR
  by_cases h0 : d.man = 0
  · rw [if_pos (by omega), if_pos h0]
  · rw [if_neg (by omega), if_neg h0, hd.2.2.1]
    simp only
    by_cases ho : okE (x + k) = true
    · rw [h2 ho]
    · have ho' : okE (x + k) = false := by simpa using ho
      rw [doneR_no (d := ⟨b, (val 18446744073709551616 l).toNat, y⟩) (h.trans ho'), doneR_no (by exact ho')]
theorem Dn.odd {d : Nf} (hd : Dn b l x d) (hl : Lv w A n c l) : n ≠ 0 → val 18446744073709551616 l % 2 = 1 := fun h0 => normal_odd hd hl.2.2 (by rw [hl.1]; exact h0)
theorem Dn.len {d : Nf} (hd : Dn b l x d) : l.length ≤ 4096 := hd.2.1

set_option maxRecDepth 100000 in
set_option maxHeartbeats 4000000 in
theorem copied_any (h : Lv w A n c l) (hn : n ≤ 4096) (nl : Normal l) (ho : n ≠ 0 → val 18446744073709551616 l % 2 = 1) :
    Calls Tryz.prog 35 #[.bool b, .slice A n c, .int .i64 x] w (DyK (ansR b (val 18446744073709551616 l) x).1 (ansR b (val 18446744073709551616 l) x).2 w) := by
  have DB := Blk.new w [.bool false, .slice none 0 0, .int .i64 0] 40
  have bw : Below w.heap.size w (w.alloc (.cells #[.bool false, .slice none 0 0, .int .i64 0] 40)) := by go_grown
  have DB_0 := Blk.cell DB 0 rfl
  have DB_1 := Blk.cell DB 1 rfl
  have DB_2 := Blk.cell DB 2 rfl
  have DB_f0 := Blk.free DB 0
  have DB_f1 := Blk.free DB 1
  have DB_f2 := Blk.free DB 2
  go_enter Tryz.func35, Tryz.ntmps35
  go_wp2_with fail
  with_reducible refine (sclone_any (h.on (by go_grown)) (by omega)).mono ?_
  rintro e w1 ⟨A1, c1, rfl, m1, hb⟩
  clear DB_0 DB_1 DB_2 DB_f0 DB_f1 DB_f2
  have hs1 := hb.size
  try simp only [World.size_alloc, World.size_setCell] at hs1
  replace bw : Below w.heap.size w w1 := dy_end (by go_grown) hb
  replace DB := Blk.on DB hb
  clear hb
  have DB_0 := Blk.cell DB 0 rfl
  have DB_1 := Blk.cell DB 1 rfl
  have DB_2 := Blk.cell DB 2 rfl
  have DB_f0 := Blk.free DB 0
  have DB_f1 := Blk.free DB 1
  have DB_f2 := Blk.free DB 2
  go_wp2_with fail
  with_reducible refine (dyAns_any (b := b) (x := x) m1 hn nl ho).mono ?_
  rintro e w2 ⟨b2, q2, A2, c2, x2, rfl, hd2, m2, hb⟩
  clear DB_0 DB_1 DB_2 DB_f0 DB_f1 DB_f2
  have hs2 := hb.size
  try simp only [World.size_alloc, World.size_setCell] at hs2
  replace bw : Below w.heap.size w w2 := dy_end (by go_grown) hb
  replace m1 := Lv.on m1 hb
  replace DB := Blk.on DB hb
  clear hb
  have DB_0 := Blk.cell DB 0 rfl
  have DB_1 := Blk.cell DB 1 rfl
  have DB_2 := Blk.cell DB 2 rfl
  have DB_f0 := Blk.free DB 0
  have DB_f1 := Blk.free DB 1
  have DB_f2 := Blk.free DB 2
  go_wp2_with fail
  refine bodyPost_ret (v := .tuple #[dyV b2 A2 q2.length c2 x2, .int .i64 (ansR b (val 18446744073709551616 l) x).2]) (by simp [results, Tryz.results35, go_sem, DB_0, DB_1, DB_2]) rfl ?_
  exact ⟨b2, q2, A2, c2, x2, rfl, hd2, m2.put DB _ _ _ _ _, by go_grown⟩


theorem copied_dn {d : Nf} (hd : Dn b l x d) (h : Lv w A l.length c l) : Calls Tryz.prog 35 #[.bool b, .slice A l.length c, .int .i64 x] w (DyK (doneR d).1 (doneR d).2 w) := by
  rw [← ansR_dn hd h.2.2]
  exact copied_any h hd.len hd.1 (hd.odd h)
theorem copied_neg {d : Nf} (hd : Dn b l x d) (h : Lv w A l.length c l) : Calls Tryz.prog 35 #[.bool (!b), .slice A l.length c, .int .i64 x] w (DyK (doneR (negN d)).1 (doneR (negN d)).2 w) := by
  rw [← ansR_neg hd h.2.2]
  exact copied_any h hd.len hd.1 (hd.odd h)
theorem copied_abs {d : Nf} (hd : Dn b l x d) (h : Lv w A l.length c l) : Calls Tryz.prog 35 #[.bool false, .slice A l.length c, .int .i64 x] w (DyK (doneR (absN d)).1 (doneR (absN d)).2 w) := by
  rw [← ansR_abs hd h.2.2]
  exact copied_any h hd.len hd.1 (hd.odd h)
theorem copied_shift {d : Nf} (hd : Dn b l x d) (h : Lv w A l.length c l) (k y : Int) (h1 : okE y = okE (x + k)) (h2 : okE (x + k) = true → y = x + k) : Calls Tryz.prog 35 #[.bool b, .slice A l.length c, .int .i64 y] w (DyK (shR d k).1 (shR d k).2 w) := by
  rw [← ansR_shift hd h.2.2 k y h1 h2]
  exact copied_any h hd.len hd.1 (hd.odd h)
theorem okE_wrap {x k : Int} (x0 : -1048576 ≤ x) (x1 : x ≤ 1048576) (k0 : -9223372036854775808 ≤ k) (k1 : k ≤ 9223372036854775807) : okE (wrap64 (x + k)) = okE (x + k) ∧ (okE (x + k) = true → wrap64 (x + k) = x + k) := by
  by_cases h : -9223372036854775808 ≤ x + k ∧ x + k ≤ 9223372036854775807
  · rw [IntWalk.wrap64_in _ ⟨by omega, by omega⟩]
    exact ⟨rfl, fun _ => rfl⟩
  · have e1 : okE (x + k) = false := okE_false.2 (by omega)
    have e2 : okE (wrap64 (x + k)) = false := by
      rw [okE_false]
      unfold wrap64
      omega
    rw [e1, e2]
    exact ⟨rfl, fun h => by cases h⟩

set_option maxRecDepth 100000 in
set_option maxHeartbeats 4000000 in
theorem shiftOne_dn {d : Nf} (hd : Dn b l x d) (h : Lv w A l.length c l) (k : Int) (kg : Nat) (hkg : kg < w.heap.size) (hk : w.cell? ⟨kg, 0, none⟩ = some (.int .i64 k)) (x0 : -1048576 ≤ x) (x1 : x ≤ 1048576) (k0 : -9223372036854775808 ≤ k) (k1 : k ≤ 9223372036854775807) :
    Calls Tryz.prog 34 #[.bool b, .slice A l.length c, .int .i64 x, .pointer (some ⟨kg, 0, none⟩)] w (DyK (shR d k).1 (shR d k).2 w) := by
  have DB := Blk.new w [.bool false, .slice none 0 0, .int .i64 0] 40
  have bw : Below w.heap.size w (w.alloc (.cells #[.bool false, .slice none 0 0, .int .i64 0] 40)) := by go_grown
  have DB_0 := Blk.cell DB 0 rfl
  have DB_1 := Blk.cell DB 1 rfl
  have DB_2 := Blk.cell DB 2 rfl
  have DB_f0 := Blk.free DB 0
  have DB_f1 := Blk.free DB 1
  have DB_f2 := Blk.free DB 2
  have kb := bw.cell (p := ⟨kg, 0, none⟩) hkg
  rw [hk] at kb
  obtain ⟨e1, e2⟩ := okE_wrap x0 x1 k0 k1
  have E1 := Lib.hid e1
  have E2 := Lib.hid e2
  clear e1 e2
  go_enter Tryz.func34, Tryz.ntmps34
  go_wp2_with fail
  with_reducible refine (copied_shift hd (h.on (by go_grown)) k (wrap64 (x + k)) E1.out E2.out).mono ?_
  rintro e w1 ⟨b2, q2, A2, c2, x2, rfl, hd2, m2, hb⟩
  clear DB_0 DB_1 DB_2 DB_f0 DB_f1 DB_f2
  have hs1 := hb.size
  try simp only [World.size_alloc, World.size_setCell] at hs1
  replace bw : Below w.heap.size w w1 := dy_end (by go_grown) hb
  replace DB := Blk.on DB hb
  clear hb
  have DB_0 := Blk.cell DB 0 rfl
  have DB_1 := Blk.cell DB 1 rfl
  have DB_2 := Blk.cell DB 2 rfl
  have DB_f0 := Blk.free DB 0
  have DB_f1 := Blk.free DB 1
  have DB_f2 := Blk.free DB 2
  go_wp2_with fail
  refine bodyPost_ret (v := .tuple #[dyV b2 A2 q2.length c2 x2, .int .i64 (shR d k).2]) (by simp [results, Tryz.results34, go_sem, DB_0, DB_1, DB_2]) rfl ?_
  exact ⟨b2, q2, A2, c2, x2, rfl, hd2, m2.put DB _ _ _ _ _, by go_grown⟩

set_option maxRecDepth 100000 in
set_option maxHeartbeats 4000000 in
theorem handed_copied (h : Lv w A n c l) (hn : n ≤ 4096) (hT : Tab w) (ho : okE x = true) :
    Calls Tryz.prog 33 #[dyV b A n c x, .func (.func 35) #[] #[]] w (DyK (doneR (nfl b (val 18446744073709551616 l) x)).1 (doneR (nfl b (val 18446744073709551616 l) x)).2 w) := by
  have PB := Blk.new w [.bool b, .slice A n c, .int .i64 x] 40
  have DB := Blk.new (w.alloc (.cells #[.bool b, .slice A n c, .int .i64 x] 40)) [.bool false, .slice none 0 0, .int .i64 0] 40
  simp only [World.size_alloc] at DB
  replace PB := Blk.alloc PB (.cells #[.bool false, .slice none 0 0, .int .i64 0] 40)
  have bw : Below w.heap.size w ((w.alloc (.cells #[.bool b, .slice A n c, .int .i64 x] 40)).alloc (.cells #[.bool false, .slice none 0 0, .int .i64 0] 40)) := by go_grown
  have PB_0 := Blk.cell PB 0 rfl
  have PB_1 := Blk.cell PB 1 rfl
  have PB_2 := Blk.cell PB 2 rfl
  have PB_f0 := Blk.free PB 0
  have PB_f1 := Blk.free PB 1
  have PB_f2 := Blk.free PB 2
  have DB_0 := Blk.cell DB 0 rfl
  have DB_1 := Blk.cell DB 1 rfl
  have DB_2 := Blk.cell DB 2 rfl
  have DB_f0 := Blk.free DB 0
  have DB_f1 := Blk.free DB 1
  have DB_f2 := Blk.free DB 2
  go_enter Tryz.func33, Tryz.ntmps33
  go_wp2_with fail
  with_reducible refine (dyTaken_yes (b := b) (x := x) (h.on (by go_grown)) hn (hT.onD (by go_grown)) ho).mono ?_
  rintro e w1 ⟨b1, q1, A1, c1, x1, rfl, hd1, m1, hb⟩
  clear PB_0 PB_1 PB_2 PB_f0 PB_f1 PB_f2
  clear DB_0 DB_1 DB_2 DB_f0 DB_f1 DB_f2
  have hs1 := hb.size
  try simp only [World.size_alloc, World.size_setCell] at hs1
  replace bw : Below w.heap.size w w1 := dy_end (by go_grown) hb
  replace PB := Blk.on PB hb
  replace DB := Blk.on DB hb
  clear hb
  have PB_0 := Blk.cell PB 0 rfl
  have PB_1 := Blk.cell PB 1 rfl
  have PB_2 := Blk.cell PB 2 rfl
  have PB_f0 := Blk.free PB 0
  have PB_f1 := Blk.free PB 1
  have PB_f2 := Blk.free PB 2
  have DB_0 := Blk.cell DB 0 rfl
  have DB_1 := Blk.cell DB 1 rfl
  have DB_2 := Blk.cell DB 2 rfl
  have DB_f0 := Blk.free DB 0
  have DB_f1 := Blk.free DB 1
  have DB_f2 := Blk.free DB 2
  replace m1 := Lv.put m1 PB (b1) (A1) (q1.length) (c1) (x1)
  replace DB := Blk.putO DB (g := w.heap.size) (by omega) (.bool (b1)) (.slice (A1) (q1.length) (c1)) (.int .i64 (x1))
  replace PB := Dbx.put PB (b1) (A1) (q1.length) (c1) (x1)
  go_wp2_with fail
  with_reducible refine (copied_dn hd1 m1).mono ?_
  rintro e w2 ⟨b2, q2, A2, c2, x2, rfl, hd2, m2, hb⟩
  clear PB_0 PB_1 PB_2 PB_f0 PB_f1 PB_f2
  clear DB_0 DB_1 DB_2 DB_f0 DB_f1 DB_f2
  have hs2 := hb.size
  try simp only [World.size_alloc, World.size_setCell] at hs2
  replace bw : Below w.heap.size w w2 := dy_end (by go_grown) hb
  replace m1 := Lv.on m1 hb
  replace PB := Blk.on PB hb
  replace DB := Blk.on DB hb
  clear hb
  have PB_0 := Blk.cell PB 0 rfl
  have PB_1 := Blk.cell PB 1 rfl
  have PB_2 := Blk.cell PB 2 rfl
  have PB_f0 := Blk.free PB 0
  have PB_f1 := Blk.free PB 1
  have PB_f2 := Blk.free PB 2
  have DB_0 := Blk.cell DB 0 rfl
  have DB_1 := Blk.cell DB 1 rfl
  have DB_2 := Blk.cell DB 2 rfl
  have DB_f0 := Blk.free DB 0
  have DB_f1 := Blk.free DB 1
  have DB_f2 := Blk.free DB 2
  go_wp2_with fail
  refine bodyPost_ret (v := .tuple #[dyV b2 A2 q2.length c2 x2, .int .i64 (doneR (nfl b (val 18446744073709551616 l) x)).2]) (by simp [results, Tryz.results33, go_sem, DB_0, DB_1, DB_2]) rfl ?_
  exact ⟨b2, q2, A2, c2, x2, rfl, hd2, m2.put DB _ _ _ _ _, by go_grown⟩

end
end Go.Proofs.YtcdbjlmegkcaiaaGreatDoor
namespace Go.Proofs.YtcdbjlmegkcaiaaGreatDoor
open Go.RowKit
set_option linter.unusedVariables false
set_option linter.unusedSimpArgs false

section
variable {b : Bool} {A : Option Addr} {n c : Nat} {x : Int} {l : List Int} {w : World}
/-- places behind the noughts -/
theorem nfl_place {v x : Int} {k : Nat} (b : Bool) (h0 : 0 ≤ v) (hv : v < 2 ^ k) : (nfl b v x).exp = 0 ∨ (x ≤ (nfl b v x).exp ∧ (nfl b v x).exp ≤ x + k) := by
  rcases (show v = 0 ∨ 0 < v by omega) with h | h
  · subst h; rw [nfl_zero]; exact .inl rfl
  · have h1 := nfl_in (b := b) (v := v) (e := x) (q := x + k) h0 (by omega) (by rw [show (x + (k : Int) - x).toNat = k by omega]; exact hv)
    have h2 : (nfl b v x).man ≠ 0 := fun e => by have := (nfl_man0 (b := b) (e := x) h0).1 e; omega
    exact .inr (h1.exp h2)

theorem kept {w W : World} {kg : Nat} {u : Value} (hkg : kg < w.heap.size) (hk : w.cell? ⟨kg, 0, none⟩ = some u) (hb : Below w.heap.size w W) : W.cell? ⟨kg, 0, none⟩ = some u := (hb.cell (p := ⟨kg, 0, none⟩) hkg).trans hk

set_option maxRecDepth 100000 in
set_option maxHeartbeats 4000000 in
theorem handed_shift (h : Lv w A n c l) (hn : n ≤ 4096) (hT : Tab w) (ho : okE x = true) (k : Int) (kg : Nat) (hkg : kg < w.heap.size) (hk : w.cell? ⟨kg, 0, none⟩ = some (.int .i64 k)) (k0 : -9223372036854775808 ≤ k) (k1 : k ≤ 9223372036854775807) :
    Calls Tryz.prog 33 #[dyV b A n c x, .func (.func 34) #[] #[.pointer (some ⟨kg, 0, none⟩)]] w (DyK (shR (nfl b (val 18446744073709551616 l) x) k).1 (shR (nfl b (val 18446744073709551616 l) x) k).2 w) := by
  have PB := Blk.new w [.bool b, .slice A n c, .int .i64 x] 40
  have DB := Blk.new (w.alloc (.cells #[.bool b, .slice A n c, .int .i64 x] 40)) [.bool false, .slice none 0 0, .int .i64 0] 40
  simp only [World.size_alloc] at DB
  replace PB := Blk.alloc PB (.cells #[.bool false, .slice none 0 0, .int .i64 0] 40)
  have bw : Below w.heap.size w ((w.alloc (.cells #[.bool b, .slice A n c, .int .i64 x] 40)).alloc (.cells #[.bool false, .slice none 0 0, .int .i64 0] 40)) := by go_grown
  have PB_0 := Blk.cell PB 0 rfl
  have PB_1 := Blk.cell PB 1 rfl
  have PB_2 := Blk.cell PB 2 rfl
  have PB_f0 := Blk.free PB 0
  have PB_f1 := Blk.free PB 1
  have PB_f2 := Blk.free PB 2
  have DB_0 := Blk.cell DB 0 rfl
  have DB_1 := Blk.cell DB 1 rfl
  have DB_2 := Blk.cell DB 2 rfl
  have DB_f0 := Blk.free DB 0
  have DB_f1 := Blk.free DB 1
  have DB_f2 := Blk.free DB 2
  have kb := hk
  go_enter Tryz.func33, Tryz.ntmps33
  go_wp2_with fail
  with_reducible refine (dyTaken_yes (b := b) (x := x) (h.on (by go_grown)) hn (hT.onD (by go_grown)) ho).mono ?_
  rintro e w1 ⟨b1, q1, A1, c1, x1, rfl, hd1, m1, hb⟩
  clear PB_0 PB_1 PB_2 PB_f0 PB_f1 PB_f2
  clear DB_0 DB_1 DB_2 DB_f0 DB_f1 DB_f2
  have hs1 := hb.size
  try simp only [World.size_alloc, World.size_setCell] at hs1
  replace bw : Below w.heap.size w w1 := dy_end (by go_grown) hb
  replace PB := Blk.on PB hb
  replace DB := Blk.on DB hb
  clear hb
  have PB_0 := Blk.cell PB 0 rfl
  have PB_1 := Blk.cell PB 1 rfl
  have PB_2 := Blk.cell PB 2 rfl
  have PB_f0 := Blk.free PB 0
  have PB_f1 := Blk.free PB 1
  have PB_f2 := Blk.free PB 2
  have DB_0 := Blk.cell DB 0 rfl
  have DB_1 := Blk.cell DB 1 rfl
  have DB_2 := Blk.cell DB 2 rfl
  have DB_f0 := Blk.free DB 0
  have DB_f1 := Blk.free DB 1
  have DB_f2 := Blk.free DB 2
  replace m1 := Lv.put m1 PB (b1) (A1) (q1.length) (c1) (x1)
  replace DB := Blk.putO DB (g := w.heap.size) (by omega) (.bool (b1)) (.slice (A1) (q1.length) (c1)) (.int .i64 (x1))
  replace PB := Dbx.put PB (b1) (A1) (q1.length) (c1) (x1)
  have xb := nfl_place (k := 262144) b (x := x) (lim_val h.2.2) (lv_bound h hn)
  rw [hd1.exp] at xb
  have xr := (okE_iff x).1 ho
  have X := Lib.hid (And.intro xb xr)
  clear xb xr
  go_wp2_with fail
  with_reducible refine (shiftOne_dn hd1 m1 k kg (by simp; omega) (kept hkg hk (by go_grown)) (by have := X.out; omega) (by have := X.out; omega) k0 k1).mono ?_
  rintro e w2 ⟨b2, q2, A2, c2, x2, rfl, hd2, m2, hb⟩
  clear PB_0 PB_1 PB_2 PB_f0 PB_f1 PB_f2
  clear DB_0 DB_1 DB_2 DB_f0 DB_f1 DB_f2
  have hs2 := hb.size
  try simp only [World.size_alloc, World.size_setCell] at hs2
  replace bw : Below w.heap.size w w2 := dy_end (by go_grown) hb
  replace m1 := Lv.on m1 hb
  replace PB := Blk.on PB hb
  replace DB := Blk.on DB hb
  clear hb
  have PB_0 := Blk.cell PB 0 rfl
  have PB_1 := Blk.cell PB 1 rfl
  have PB_2 := Blk.cell PB 2 rfl
  have PB_f0 := Blk.free PB 0
  have PB_f1 := Blk.free PB 1
  have PB_f2 := Blk.free PB 2
  have DB_0 := Blk.cell DB 0 rfl
  have DB_1 := Blk.cell DB 1 rfl
  have DB_2 := Blk.cell DB 2 rfl
  have DB_f0 := Blk.free DB 0
  have DB_f1 := Blk.free DB 1
  have DB_f2 := Blk.free DB 2
  go_wp2_with fail
  refine bodyPost_ret (v := .tuple #[dyV b2 A2 q2.length c2 x2, .int .i64 (shR (nfl b (val 18446744073709551616 l) x) k).2]) (by simp [results, Tryz.results33, go_sem, DB_0, DB_1, DB_2]) rfl ?_
  exact ⟨b2, q2, A2, c2, x2, rfl, hd2, m2.put DB _ _ _ _ _, by go_grown⟩

set_option maxRecDepth 100000 in
set_option maxHeartbeats 4000000 in
theorem handed_no (h : Lv w A n c l) (hn : n ≤ 4096) (ho : okE x = false) (fv : Value) :
    Calls Tryz.prog 33 #[dyV b A n c x, fv] w (DyK zeroN 2 w) := by
  have PB := Blk.new w [.bool b, .slice A n c, .int .i64 x] 40
  have DB := Blk.new (w.alloc (.cells #[.bool b, .slice A n c, .int .i64 x] 40)) [.bool false, .slice none 0 0, .int .i64 0] 40
  simp only [World.size_alloc] at DB
  replace PB := Blk.alloc PB (.cells #[.bool false, .slice none 0 0, .int .i64 0] 40)
  have bw : Below w.heap.size w ((w.alloc (.cells #[.bool b, .slice A n c, .int .i64 x] 40)).alloc (.cells #[.bool false, .slice none 0 0, .int .i64 0] 40)) := by go_grown
  have PB_0 := Blk.cell PB 0 rfl
  have PB_1 := Blk.cell PB 1 rfl
  have PB_2 := Blk.cell PB 2 rfl
  have PB_f0 := Blk.free PB 0
  have PB_f1 := Blk.free PB 1
  have PB_f2 := Blk.free PB 2
  have DB_0 := Blk.cell DB 0 rfl
  have DB_1 := Blk.cell DB 1 rfl
  have DB_2 := Blk.cell DB 2 rfl
  have DB_f0 := Blk.free DB 0
  have DB_f1 := Blk.free DB 1
  have DB_f2 := Blk.free DB 2
  go_enter Tryz.func33, Tryz.ntmps33
  go_wp2_with fail
  with_reducible refine (dyTaken_no (b := b) (x := x) (h.on (by go_grown)) hn ho).mono ?_
  rintro e w1 ⟨b1, q1, A1, c1, x1, rfl, hd1, m1, hb⟩
  clear PB_0 PB_1 PB_2 PB_f0 PB_f1 PB_f2
  clear DB_0 DB_1 DB_2 DB_f0 DB_f1 DB_f2
  have hs1 := hb.size
  try simp only [World.size_alloc, World.size_setCell] at hs1
  replace bw : Below w.heap.size w w1 := dy_end (by go_grown) hb
  replace PB := Blk.on PB hb
  replace DB := Blk.on DB hb
  clear hb
  have PB_0 := Blk.cell PB 0 rfl
  have PB_1 := Blk.cell PB 1 rfl
  have PB_2 := Blk.cell PB 2 rfl
  have PB_f0 := Blk.free PB 0
  have PB_f1 := Blk.free PB 1
  have PB_f2 := Blk.free PB 2
  have DB_0 := Blk.cell DB 0 rfl
  have DB_1 := Blk.cell DB 1 rfl
  have DB_2 := Blk.cell DB 2 rfl
  have DB_f0 := Blk.free DB 0
  have DB_f1 := Blk.free DB 1
  have DB_f2 := Blk.free DB 2
  go_wp2_with fail
  obtain ⟨e1, e2, e3⟩ := Dn.uniq Dn.zero hd1 (Lim.nil _) m1.2.2
  refine bodyPost_ret (v := .tuple #[dyV false none 0 0 0, .int .i64 2]) (by simp [results, Tryz.results33, go_sem, DB_0, DB_1, DB_2]) rfl ?_
  exact ⟨false, [], none, 0, 0, rfl, Dn.zero, lv_nil _, by go_grown⟩

set_option maxRecDepth 100000 in
set_option maxHeartbeats 4000000 in
theorem dShift_yes (h : Lv w A n c l) (hn : n ≤ 4096) (hT : Tab w) (ho : okE x = true) (k : Int) (k0 : -9223372036854775808 ≤ k) (k1 : k ≤ 9223372036854775807) :
    Calls Tryz.prog 12 #[dyV b A n c x, .int .i64 k] w (DyK (shR (nfl b (val 18446744073709551616 l) x) k).1 (shR (nfl b (val 18446744073709551616 l) x) k).2 w) := by
  have PB := Blk.new w [.bool b, .slice A n c, .int .i64 x] 40
  have KB := Blk.new (w.alloc (.cells #[.bool b, .slice A n c, .int .i64 x] 40)) [.int .i64 k] 3
  simp only [World.size_alloc] at KB
  replace PB := Blk.alloc PB (.cells #[.int .i64 k] 3)
  have DB := Blk.new ((w.alloc (.cells #[.bool b, .slice A n c, .int .i64 x] 40)).alloc (.cells #[.int .i64 k] 3)) [.bool false, .slice none 0 0, .int .i64 0] 40
  simp only [World.size_alloc] at DB
  replace PB := Blk.alloc PB (.cells #[.bool false, .slice none 0 0, .int .i64 0] 40)
  replace KB := Blk.alloc KB (.cells #[.bool false, .slice none 0 0, .int .i64 0] 40)
  have bw : Below w.heap.size w (((w.alloc (.cells #[.bool b, .slice A n c, .int .i64 x] 40)).alloc (.cells #[.int .i64 k] 3)).alloc (.cells #[.bool false, .slice none 0 0, .int .i64 0] 40)) := by go_grown
  have PB_0 := Blk.cell PB 0 rfl
  have PB_1 := Blk.cell PB 1 rfl
  have PB_2 := Blk.cell PB 2 rfl
  have PB_f0 := Blk.free PB 0
  have PB_f1 := Blk.free PB 1
  have PB_f2 := Blk.free PB 2
  have KB_0 := Blk.cell KB 0 rfl
  have KB_f0 := Blk.free KB 0
  have DB_0 := Blk.cell DB 0 rfl
  have DB_1 := Blk.cell DB 1 rfl
  have DB_2 := Blk.cell DB 2 rfl
  have DB_f0 := Blk.free DB 0
  have DB_f1 := Blk.free DB 1
  have DB_f2 := Blk.free DB 2
  go_enter Tryz.func12, Tryz.ntmps12
  go_wp2_with fail
  with_reducible refine (handed_shift (b := b) (x := x) (h.on (by go_grown)) hn (hT.onD (by go_grown)) ho k _ (by simp) KB_0 k0 k1).mono ?_
  rintro e w1 ⟨b1, q1, A1, c1, x1, rfl, hd1, m1, hb⟩
  clear PB_0 PB_1 PB_2 PB_f0 PB_f1 PB_f2
  clear KB_0 KB_f0
  clear DB_0 DB_1 DB_2 DB_f0 DB_f1 DB_f2
  have hs1 := hb.size
  try simp only [World.size_alloc, World.size_setCell] at hs1
  replace bw : Below w.heap.size w w1 := dy_end (by go_grown) hb
  replace PB := Blk.on PB hb
  replace KB := Blk.on KB hb
  replace DB := Blk.on DB hb
  clear hb
  have PB_0 := Blk.cell PB 0 rfl
  have PB_1 := Blk.cell PB 1 rfl
  have PB_2 := Blk.cell PB 2 rfl
  have PB_f0 := Blk.free PB 0
  have PB_f1 := Blk.free PB 1
  have PB_f2 := Blk.free PB 2
  have KB_0 := Blk.cell KB 0 rfl
  have KB_f0 := Blk.free KB 0
  have DB_0 := Blk.cell DB 0 rfl
  have DB_1 := Blk.cell DB 1 rfl
  have DB_2 := Blk.cell DB 2 rfl
  have DB_f0 := Blk.free DB 0
  have DB_f1 := Blk.free DB 1
  have DB_f2 := Blk.free DB 2
  go_wp2_with fail
  refine bodyPost_ret (v := .tuple #[dyV b1 A1 q1.length c1 x1, .int .i64 (shR (nfl b (val 18446744073709551616 l) x) k).2]) (by simp [results, Tryz.results12, go_sem, DB_0, DB_1, DB_2]) rfl ?_
  exact ⟨b1, q1, A1, c1, x1, rfl, hd1, m1.put DB _ _ _ _ _, by go_grown⟩

set_option maxRecDepth 100000 in
set_option maxHeartbeats 4000000 in
theorem dShift_no (h : Lv w A n c l) (hn : n ≤ 4096) (ho : okE x = false) (k : Int) :
    Calls Tryz.prog 12 #[dyV b A n c x, .int .i64 k] w (DyK zeroN 2 w) := by
  have PB := Blk.new w [.bool b, .slice A n c, .int .i64 x] 40
  have KB := Blk.new (w.alloc (.cells #[.bool b, .slice A n c, .int .i64 x] 40)) [.int .i64 k] 3
  simp only [World.size_alloc] at KB
  replace PB := Blk.alloc PB (.cells #[.int .i64 k] 3)
  have DB := Blk.new ((w.alloc (.cells #[.bool b, .slice A n c, .int .i64 x] 40)).alloc (.cells #[.int .i64 k] 3)) [.bool false, .slice none 0 0, .int .i64 0] 40
  simp only [World.size_alloc] at DB
  replace PB := Blk.alloc PB (.cells #[.bool false, .slice none 0 0, .int .i64 0] 40)
  replace KB := Blk.alloc KB (.cells #[.bool false, .slice none 0 0, .int .i64 0] 40)
  have bw : Below w.heap.size w (((w.alloc (.cells #[.bool b, .slice A n c, .int .i64 x] 40)).alloc (.cells #[.int .i64 k] 3)).alloc (.cells #[.bool false, .slice none 0 0, .int .i64 0] 40)) := by go_grown
  have PB_0 := Blk.cell PB 0 rfl
  have PB_1 := Blk.cell PB 1 rfl
  have PB_2 := Blk.cell PB 2 rfl
  have PB_f0 := Blk.free PB 0
  have PB_f1 := Blk.free PB 1
  have PB_f2 := Blk.free PB 2
  have KB_0 := Blk.cell KB 0 rfl
  have KB_f0 := Blk.free KB 0
  have DB_0 := Blk.cell DB 0 rfl
  have DB_1 := Blk.cell DB 1 rfl
  have DB_2 := Blk.cell DB 2 rfl
  have DB_f0 := Blk.free DB 0
  have DB_f1 := Blk.free DB 1
  have DB_f2 := Blk.free DB 2
  go_enter Tryz.func12, Tryz.ntmps12
  go_wp2_with fail
  with_reducible refine (handed_no (b := b) (x := x) (h.on (by go_grown)) hn ho _).mono ?_
  rintro e w1 ⟨b1, q1, A1, c1, x1, rfl, hd1, m1, hb⟩
  clear PB_0 PB_1 PB_2 PB_f0 PB_f1 PB_f2
  clear KB_0 KB_f0
  clear DB_0 DB_1 DB_2 DB_f0 DB_f1 DB_f2
  have hs1 := hb.size
  try simp only [World.size_alloc, World.size_setCell] at hs1
  replace bw : Below w.heap.size w w1 := dy_end (by go_grown) hb
  replace PB := Blk.on PB hb
  replace KB := Blk.on KB hb
  replace DB := Blk.on DB hb
  clear hb
  have PB_0 := Blk.cell PB 0 rfl
  have PB_1 := Blk.cell PB 1 rfl
  have PB_2 := Blk.cell PB 2 rfl
  have PB_f0 := Blk.free PB 0
  have PB_f1 := Blk.free PB 1
  have PB_f2 := Blk.free PB 2
  have KB_0 := Blk.cell KB 0 rfl
  have KB_f0 := Blk.free KB 0
  have DB_0 := Blk.cell DB 0 rfl
  have DB_1 := Blk.cell DB 1 rfl
  have DB_2 := Blk.cell DB 2 rfl
  have DB_f0 := Blk.free DB 0
  have DB_f1 := Blk.free DB 1
  have DB_f2 := Blk.free DB 2
  go_wp2_with fail
  refine bodyPost_ret (v := .tuple #[dyV b1 A1 q1.length c1 x1, .int .i64 2]) (by simp [results, Tryz.results12, go_sem, DB_0, DB_1, DB_2]) rfl ?_
  exact ⟨b1, q1, A1, c1, x1, rfl, hd1, m1.put DB _ _ _ _ _, by go_grown⟩

end
end Go.Proofs.YtcdbjlmegkcaiaaGreatDoor
