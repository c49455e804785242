/-
  Layer 2, walks, part fourteen: a number divided by one limb, into another list, or in place.
-/
import Derived.Test.YtigphbjgodfhpaaDoorNatN
namespace Go.Proofs.YtigphbjgodfhpaaDoor
open Go.RowKit
set_option linter.unusedVariables false

theorem val_drop (b : Int) (l : List Int) (i : Nat) (h : i < l.length) : val b (l.drop i) = D l i + b * val b (l.drop (i + 1)) := by
  rw [List.drop_eq_getElem_cons h, val_cons, D_in h]
theorem quot_step {l C : List Int} {i : Nat} {d r q r' : Int} (hl : i < l.length) (hC : C.length = l.length) (h : val 18446744073709551616 (l.drop (i + 1)) = val 18446744073709551616 (C.drop (i + 1)) * d + r)
    (h2 : r * 18446744073709551616 + D l i = q * d + r') : val 18446744073709551616 (l.drop i) = val 18446744073709551616 ((C.set i q).drop i) * d + r' := by
  rw [val_drop _ _ _ hl, val_drop _ (C.set i q) i (by rw [List.length_set]; omega), h, D_set _ _ (by omega), if_pos rfl, List.drop_set, if_pos (by omega)]
  generalize val 18446744073709551616 (C.drop (i + 1)) = T at *
  grind

theorem only_drewN {a w : World} {row : Option Nat} (h : a.grownBy w row) (n : Nat) : a.grownBy (w.drewN n) row := ⟨h.os, h.tape, h.output, h.size, h.block⟩

/-- what a division by one limb leaves -/
def QuotPost (l : List Int) (d : Int) (g : Nat) (w0 : World) (e : Ending) (w : World) : Prop :=
  ∃ (C : List Int) (r : Int), e = .returned (.int .u64 r) ∧ 0 ≤ r ∧ r < d ∧ C.length = l.length ∧ Lim 18446744073709551616 C ∧ Row w g C ∧ w0.grownBy w (some g) ∧ Hid (val 18446744073709551616 l = val 18446744073709551616 C * d + r)

set_option maxHeartbeats 4000000 in
theorem quotients_any (A : Option Addr) (c : Nat) (l C0 : List Int) (g : Nat) (d : Int) (w : World) (h : Nums w g A c l) (hl : Lim 18446744073709551616 l) (hr0 : Row w g C0) (hC0 : C0.length = l.length) (hCl0 : Lim 18446744073709551616 C0)
    (hb1 : l.length ≤ 1000000) (hd : 0 < d) (hd1 : d < 18446744073709551616) :
    Calls Tryd.prog 88 #[.slice (some ⟨g, 0, none⟩) l.length l.length, .slice A l.length c, .int .u64 d] w (QuotPost l d g w) := by
  have hg0 := hr0.lt
  have H0 := Lib.hid hC0
  clear hC0
  go_enter Tryd.func88, Tryd.ntmps88
  go_wp2_with fail
  go_loopw [6, 11] (fun a i wr => ∃ (k : Nat) (r : Int) (C : List Int), k ≤ l.length ∧ a = .int .u64 r ∧ i = .int .i64 k ∧ 0 ≤ r ∧ r < d ∧ Hid (C.length = l.length) ∧ Lim 18446744073709551616 C ∧ Row wr g C ∧ w.grownBy wr (some g) ∧
      Hid (val 18446744073709551616 (l.drop (l.length - k)) = val 18446744073709551616 (C.drop (l.length - k)) * d + r)) (fun _ i _ => l.length - (intOf i).toNat)
  case atStart => exact ⟨0, 0, C0, by omega, rfl, rfl, by omega, hd, H0, hCl0, hr0, World.grownBy.refl w _, by show _ = _; rw [List.drop_of_length_le (by omega), List.drop_of_length_le (by have := H0.out; omega)]; simp [val_nil]⟩
  case round =>
    obtain ⟨k, r, C, hk, rfl, rfl, r0, r1, HC, hCl, hr, hg, HE⟩ := hrel
    have hgl := hr.lt
    by_cases hkl : k < l.length
    · obtain ⟨j, hj⟩ : ∃ j, l.length - 1 - k = j := ⟨_, rfl⟩
      have he : (l.length : Int) - 1 - k = j := by omega
      have hj1 : j < l.length := by omega
      have e1 : l.length - k = j + 1 := by omega
      have e2 : l.length - (k + 1) = j := by omega
      have hx := D_lim (b := 18446744073709551616) (by omega) hl j
      have hnums : Nums wr g A c l := h.grown hg (by omega) (fun i e => by injection e; omega)
      obtain ⟨ad, rfl, hadb, c1⟩ := hnums.at_ hj1
      have i0 : (0 : Int) ≤ j := by omega
      have i1 : (j : Int) < l.length := by omega
      have c0 := hr.cell (k := j) (by rw [HC.out]; exact hj1)
      have f0 := hr.frozen j
      have hE := HE.out
      rw [e1] at hE
      have HE' := Lib.hid hE
      have E2 := Lib.hid e2
      clear hj e1 e2 hE
      go_wp2_with (go_at_call 98; ((with_reducible refine (div64_any r (D l j) d _ r0 r1 hd1 hx.1 hx.2).mono ?_); rintro e w' ⟨n, q, r', rfl, q0, q1, r0', r1', hdiv, rfl⟩))
      go_roundw
      case rel =>
        refine ⟨k + 1, r', C.set j q, by omega, rfl, by go_num, r0', r1', by show _ = _; rw [List.length_set, HC.out], hCl.set j q0 q1, (hr.drewN n).set_ j q, only_setCell (p := ⟨g, j, none⟩) (only_drewN hg n) (.inl rfl) _, ?_⟩
        show _ = _
        rw [E2.out]
        exact quot_step hj1 HC.out HE'.out hdiv.out
      case measure => simp [intOf]; omega
    · obtain rfl : k = l.length := by omega
      go_wp2_with fail
      go_ret
      refine ⟨C, r, rfl, r0, r1, HC.out, hCl, hr, hg, ?_⟩
      have := HE.out
      show _ = _
      simpa using this

set_option maxHeartbeats 2000000 in
theorem divideByLimb_any (A : Option Addr) (c : Nat) (l C0 : List Int) (g : Nat) (d : Int) (w0 w : World) (h : Nums w g A c l) (hl : Lim 18446744073709551616 l) (hr0 : Row w g C0) (hC0 : C0.length = l.length) (hCl0 : Lim 18446744073709551616 C0)
    (hb1 : l.length ≤ 1000000) (hd : 0 < d) (hd1 : d < 18446744073709551616) (hb : Below w0.heap.size w0 w) (hgw : w0.heap.size ≤ g) :
    Calls Tryd.prog 80 #[.slice (some ⟨g, 0, none⟩) l.length l.length, .slice A l.length c, .int .u64 d] w fun e w' =>
      ∃ q r A1 c1 A2 c2, e = .returned (.tuple #[.slice A1 q.length c1, .slice A2 r.length c2]) ∧ Lim 18446744073709551616 q ∧ Lim 18446744073709551616 r ∧ Normal q ∧ Normal r ∧
        Hid (val 18446744073709551616 l = val 18446744073709551616 q * d + val 18446744073709551616 r ∧ val 18446744073709551616 r < d) ∧ Own w' w0.heap.size A1 c1 q ∧ Own w' w0.heap.size A2 c2 r ∧ Below w0.heap.size w0 w' := by
  have hsz := hb.size
  go_enter Tryd.func80, Tryd.ntmps80
  go_wp2_with (first
    | (go_at_call 88; ((with_reducible refine (quotients_any A c l C0 g d _ h hl hr0 hC0 hCl0 hb1 hd hd1).mono ?_); rintro e w1 ⟨C, r, rfl, r0, r1, hC, hCl, hr, hg, hdiv⟩; have hb1 := below_of_only hb hg hsz hgw))
    | (go_at_call 72; ((with_reducible refine (trim_row hC hr hCl (by omega) hgw hb1).mono ?_); rintro e w2 ⟨q, A1, c1, rfl, hq1, hq2, hq3, hq4, hq5⟩; have HQ3 := Lib.hid hq3; clear hq3))
    | (go_at_call 47; ((with_reducible refine (of_any r _ r0 (by omega)).mono ?_); rintro e w3 ⟨A2, c2, rfl, ho1, ho2⟩)))
  go_ret2
  have hlr : Lim 18446744073709551616 [r] := fun x hx => by simp at hx; omega
  have hvr : val 18446744073709551616 (norm [r]) = r := by rw [norm_val, val_cons, val_nil]; omega
  refine ⟨q, norm [r], A1, c1, A2, c2, rfl, hq1, norm_lim hlr, hq2, norm_normal _, ⟨?_, ?_⟩, hq4.below ho2, ho1.less hq5.size, hq5.trans (ho2.mono hq5.size)⟩
  · rw [hvr, HQ3.out]; exact hdiv.out
  · rw [hvr]; exact r1
end Go.Proofs.YtigphbjgodfhpaaDoor
