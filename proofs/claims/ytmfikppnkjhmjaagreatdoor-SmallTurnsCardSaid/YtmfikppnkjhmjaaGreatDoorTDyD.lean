/-
  Layer 3, walks, part two: the normal number; what was handed in; what is answered.
-/
import Derived.Test.YtmfikppnkjhmjaaGreatDoorTDyC
namespace Go.Proofs.YtmfikppnkjhmjaaGreatDoor
open Go.RowKit
set_option linter.unusedVariables false
set_option linter.unusedSimpArgs false

theorem Tab.onD {W W' : World} (h : Tab W) (hb : Below W.heap.size W W') : Tab W' := h.below hb h.lt
theorem Tab.alD {W : World} (h : Tab W) (o : Obj) : Tab (W.alloc o) := h.onD ((Below.refl _ W).alloc (Nat.le_refl _) o)
theorem bcellD {W w1 : World} (hb : Below W.heap.size W w1) : (∀ b o, b < W.heap.size → w1.cell? ⟨b, o, none⟩ = W.cell? ⟨b, o, none⟩) ∧ (∀ b o, b < W.heap.size → w1.frozen? ⟨b, o, none⟩ = W.frozen? ⟨b, o, none⟩) :=
  ⟨fun b o h => hb.cell (p := ⟨b, o, none⟩) h, fun b o h => hb.frozen (p := ⟨b, o, none⟩) h⟩
theorem pow_lt_inv {a b : Nat} (h : (2 : Int) ^ a < 2 ^ b) : a < b := by
  rcases Nat.lt_or_ge a b with g | g
  · exact g
  · have := pow_le' (b := 2) (by omega) g
    omega
theorem zeros_lt {v : Int} {k n : Nat} (hk : IsZeros v k) (hv : v < 2 ^ n) : k < n := by
  obtain ⟨m, hm, e⟩ := hk
  have h1 : (2 : Int) ^ k * 1 ≤ 2 ^ k * (2 * m + 1) := Int.mul_le_mul_of_nonneg_left (by omega) (Int.le_of_lt (Int.pow_pos (by omega)))
  exact pow_lt_inv (by omega)
/-- a number without its noughts -/
theorem zeros_nf {b : Bool} {v x : Int} {k : Nat} (h : IsZeros v k) : nfl b v x = ⟨b, (v / 2 ^ k).toNat, x + k⟩ ∧ v / 2 ^ k % 2 = 1 := by
  obtain ⟨m, hm, e⟩ := h
  have hp := Int.pow_pos (n := (2 : Int)) (m := k) (by omega)
  have e1 : v / 2 ^ k = 2 * m + 1 := by rw [e, Int.mul_ediv_cancel_left _ (Int.ne_of_gt hp)]
  refine ⟨?_, by omega⟩
  rw [e1]
  refine nfl_is (m := (2 * m + 1).toNat) (by omega) ?_
  rw [e, Int.mul_comm]
  congr 1
  omega
theorem odd_head {l : List Int} (h : 0 < l.length) : val 18446744073709551616 l % 2 = D l 0 % 2 := by
  rcases l with _ | ⟨y, l⟩
  · simp at h
  · rw [val_cons, D_cons_zero]; omega
theorem normal_of_last {l : List Int} (h : D l (l.length - 1) ≠ 0) : Normal l := .inr h
theorem nfl_odd (b : Bool) {v : Int} (x : Int) (h : v % 2 = 1) (h0 : 0 ≤ v) : nfl b v x = ⟨b, v.toNat, x⟩ := by
  have := nfl_is (b := b) (v := v) (e := x) (m := v.toNat) (k := 0) (by omega) (by omega)
  rw [this]
  simp
theorem nil_of_len {l : List Int} (h : l.length = 0) : l = [] := List.eq_nil_of_length_eq_zero h

theorem dy_end {w W w2 : World} (hw : Below w.heap.size w W) (hb : Below W.heap.size W w2) : Below w.heap.size w w2 := hw.trans (hb.mono hw.size)
/-- what is shifted down has no more limbs -/
theorem shr_len {l q : List Int} {n k : Nat} (hn : n ≤ 4096) (hl : l.length = n) (h : Lim 18446744073709551616 l) (hq : Lim 18446744073709551616 q) (nq : Normal q) (hv : Hid (val 18446744073709551616 q = val 18446744073709551616 l / 2 ^ k)) : q.length ≤ 4096 := by
  refine length_le_of_lt (b := 18446744073709551616) (by omega) hq nq ?_
  have h1 := (val_bound (b := 18446744073709551616) (by omega) h)
  have h2 := pow_le' (b := 18446744073709551616) (by omega) (show l.length ≤ 4096 by omega)
  have h3 := Int.ediv_le_self (2 ^ k) h1.1
  rw [hv.out]
  omega

theorem Nums.some_cells {w : World} {B c : Nat} {A : Option Addr} {l : List Int} (h : Nums w B A c l) (hk : 0 < l.length) : ∃ ad, A = some ad ∧ ad.block < B ∧ ∀ k, k < l.length → w.cell? (ad.add k) = some (.int .u64 (D l k)) := h.2.2 hk

section
variable {b : Bool} {A : Option Addr} {n c : Nat} {x : Int} {l : List Int} {w : World}
theorem lv_bound (h : Lv w A n c l) (hn : n ≤ 4096) : val 18446744073709551616 l < 2 ^ 262144 := by
  have h1 := (val_bound (b := 18446744073709551616) (by omega) h.2.2).2
  rw [h.1] at h1
  have h2 := pow_le' (b := 18446744073709551616) (by omega) hn
  rw [show (262144 : Nat) = 64 * 4096 from rfl, ← pow64]
  omega
theorem Zeros_lv (h : Lv w A n c l) (hn : n ≤ 4096) (hT : Tab w) : Calls Tryz.prog 58 #[.slice A n c] w fun e w' => ∃ k : Nat, e = .returned (.tuple #[.int .i64 k, .int .i64 0]) ∧ k ≤ 262144 ∧ Hid ((val 18446744073709551616 l = 0 → k = 0) ∧ (val 18446744073709551616 l ≠ 0 → IsZeros (val 18446744073709551616 l) k)) ∧ w = w' := by
  have := Zeros_any A c l w h.2.1 h.2.2 (norm_le h.1 hn) hT
  rw [h.1] at this
  refine this.mono ?_
  rintro e w' ⟨k, rfl, h0, h1, rfl⟩
  refine ⟨k, rfl, ?_, ⟨h0, h1⟩, rfl⟩
  by_cases hv : val 18446744073709551616 l = 0
  · rw [h0 hv]; omega
  · have := zeros_lt (h1 hv) (lv_bound h hn)
    omega

/-- the ways to the number without its noughts -/
theorem normal_rest {v : Int} {k : Nat} {q : List Int} (h0 : v = 0 → k = 0) (h1 : v ≠ 0 → IsZeros v k) (hq : Lim 18446744073709551616 q) (hn : Normal q) (hk : q.length ≤ 4096) (hv : val 18446744073709551616 q = v / 2 ^ k) (b : Bool) (x : Int) :
    (v = 0 → q.length = 0) ∧ (v ≠ 0 → 0 < q.length ∧ Dn b q (x + k) (nfl b v x)) := by
  constructor
  · intro e
    subst e
    rw [Int.zero_ediv] at hv
    rw [val_eq_zero (b := 18446744073709551616) (by omega) hq hn hv]
    rfl
  · intro e
    obtain ⟨e1, e2⟩ := zeros_nf (b := b) (x := x) (h1 e)
    rw [← hv] at e2
    constructor
    · rcases Nat.eq_zero_or_pos q.length with g | g
      · have := nil_of_len g
        subst this
        rw [val_nil] at e2
        omega
      · exact g
    · rw [e1, ← hv]
      exact Dn.of hq hn hk e2

set_option maxRecDepth 100000 in
set_option maxRecDepth 100000 in
set_option maxRecDepth 100000 in
set_option maxRecDepth 100000 in
set_option maxRecDepth 100000 in
set_option maxRecDepth 100000 in
set_option maxRecDepth 100000 in
set_option maxRecDepth 100000 in
set_option maxHeartbeats 4000000 in
theorem normal_any (h : Lv w A n c l) (hn : n ≤ 4096) (hT : Tab w) (x0 : -1152921504606846976 ≤ x) (x1 : x ≤ 1152921504606846976) :
    Calls Tryz.prog 30 #[dyV b A n c x] w (DyP (nfl b (val 18446744073709551616 l) x) w) := by
  have h1 := (h.alloc (.cells #[.bool b, .slice A n c, .int .i64 x] 31)).alloc (.cells #[.bool false, .slice none 0 0, .int .i64 0] 31)
  have hT1 := (hT.alD (.cells #[.bool b, .slice A n c, .int .i64 x] 31)).alD (.cells #[.bool false, .slice none 0 0, .int .i64 0] 31)
  have DB : Dbx ((w.alloc (.cells #[.bool b, .slice A n c, .int .i64 x] 31)).alloc (.cells #[.bool false, .slice none 0 0, .int .i64 0] 31)) (w.heap.size + 1) false none 0 0 0 := by
    have := Blk.new (w.alloc (.cells #[.bool b, .slice A n c, .int .i64 x] 31)) [.bool false, .slice none 0 0, .int .i64 0] 31
    rwa [World.size_alloc] at this
  rcases Nat.eq_zero_or_pos n with h0 | h0
  · have hv : Hid (val 18446744073709551616 l = 0) := by rw [nil_of_len (h.1.trans h0)]; rfl
    subst h0
    go_enter Tryz.func30, Tryz.ntmps30
    go_wp2_with (first
      | (go_at_call 58; ((with_reducible refine (Zeros_lv h1 hn hT1).mono ?_); rintro e w1 ⟨k, rfl, hk, hz, rfl⟩; have p2 := Shr_lv h1 hn hT1 k (by omega) _ rfl; generalize lostB (val 18446744073709551616 l) k = L9 at p2))
      | (go_at_call 59; ((with_reducible refine p2.mono ?_); rintro e w2 ⟨q, A2, c2, rfl, nq, vq, m2, hb⟩; clear p2; obtain ⟨hc, hf⟩ := bcellD hb; have bw : Below w.heap.size w w2 := dy_end (by go_grown) hb; have hs := hb.size; simp only [World.size_alloc] at hs; have hr := normal_rest hz.out.1 hz.out.2 m2.2.2 nq (shr_len hn h1.1 h1.2.2 m2.2.2 nq vq) vq.out b x; have hq0 : q.length = 0 := hr.1 hv.out; have hq1 : ((q.length : Int) == 0) = true := (by rw [hq0]; rfl); have HR := Lib.hid hr; clear hr)))
    refine bodyPost_ret (v := dyV false none 0 0 0) (by simp [results, Tryz.results30, go_sem, hc, hs]) rfl ?_
    refine ⟨false, [], none, 0, 0, rfl, by rw [hv.out, nfl_zero]; exact Dn.zero, lv_nil _, ?_⟩
    go_grown
  · obtain ⟨ad, rfl, hb, hc⟩ := h1.2.1.some_cells (by rw [h.1]; exact h0)
    have d0 := D_lim (b := 18446744073709551616) (by omega) h.2.2 0
    have i1 : (1 : Int) ≤ n := by omega
    have e1 : ((n : Int) - 1).toNat = n - 1 := by omega
    have hc0 := hc 0 (by rw [h.1]; omega)
    rw [show ad.add 0 = ad by simp [Addr.add]] at hc0
    have hcn := hc (n - 1) (by rw [h.1]; omega)
    have ho := odd_head (l := l) (by rw [h.1]; omega)
    clear hc
    by_cases p : D l 0 % 2 = 1
    · have p' : (bits .and .u64 (D l 0) 1 == 1) = true := by rw [and_one_u64 _ d0.1 (by omega)]; simp [p]
      have hv : Hid (val 18446744073709551616 l ≠ 0) := by intro e; omega
      by_cases q : D l (n - 1) = 0
      · have q' : (D l (n - 1) != 0) = false := by simp [q]
        clear p q
        go_enter Tryz.func30, Tryz.ntmps30
        go_wp2_with (first
          | (go_at_call 58; ((with_reducible refine (Zeros_lv h1 hn hT1).mono ?_); rintro e w1 ⟨k, rfl, hk, hz, rfl⟩; have p2 := Shr_lv h1 hn hT1 k (by omega) _ rfl; generalize lostB (val 18446744073709551616 l) k = L9 at p2))
          | (go_at_call 59; ((with_reducible refine p2.mono ?_); rintro e w2 ⟨q, A2, c2, rfl, nq, vq, m2, hb⟩; clear p2; obtain ⟨hc, hf⟩ := bcellD hb; have bw : Below w.heap.size w w2 := dy_end (by go_grown) hb; have hs := hb.size; simp only [World.size_alloc] at hs; have hr := normal_rest hz.out.1 hz.out.2 m2.2.2 nq (shr_len hn h1.1 h1.2.2 m2.2.2 nq vq) vq.out b x; have hq0 : 0 < q.length := (hr.2 hv.out).1; have hq1 : ((q.length : Int) == 0) = false := beq_eq_false_iff_ne.2 (by omega); have HR := Lib.hid hr; clear hr)))
        refine bodyPost_ret (v := dyV b A2 q.length c2 (x + k)) (by simp [results, Tryz.results30, go_sem, hc, hs]) rfl ?_
        refine ⟨b, q, A2, c2, x + k, rfl, (HR.out.2 hv.out).2, ?_, ?_⟩
        · exact m2.put (Blk.below DB hb (by simp)) _ _ _ _ _
        · go_grown
      · have q' : (D l (n - 1) != 0) = true := by simp [q]
        have HQ := Lib.hid q
        have HP := Lib.hid (ho.trans p)
        clear p q ho
        go_enter Tryz.func30, Tryz.ntmps30
        go_wp2_with fail
        refine bodyPost_ret (v := dyV b (some ad) n c x) (by simp [results, Tryz.results30, go_sem]) rfl ?_
        have nl := normal_of_last (l := l) (by rw [h.1]; exact HQ.out)
        exact ⟨b, l, some ad, c, x, by rw [h.1], by rw [nfl_odd b x HP.out (lim_val h.2.2)]; exact Dn.of h.2.2 nl (by rw [h.1]; exact hn) HP.out, by rw [h.1]; exact (h.alloc _).alloc _, by go_grown⟩
    · have p' : (bits .and .u64 (D l 0) 1 == 1) = false := by rw [and_one_u64 _ d0.1 (by omega)]; simp; omega
      clear p ho
      by_cases hv : val 18446744073709551616 l = 0
      · replace hv := Lib.hid hv
        go_enter Tryz.func30, Tryz.ntmps30
        go_wp2_with (first
          | (go_at_call 58; ((with_reducible refine (Zeros_lv h1 hn hT1).mono ?_); rintro e w1 ⟨k, rfl, hk, hz, rfl⟩; have p2 := Shr_lv h1 hn hT1 k (by omega) _ rfl; generalize lostB (val 18446744073709551616 l) k = L9 at p2))
          | (go_at_call 59; ((with_reducible refine p2.mono ?_); rintro e w2 ⟨q, A2, c2, rfl, nq, vq, m2, hb⟩; clear p2; obtain ⟨hc, hf⟩ := bcellD hb; have bw : Below w.heap.size w w2 := dy_end (by go_grown) hb; have hs := hb.size; simp only [World.size_alloc] at hs; have hr := normal_rest hz.out.1 hz.out.2 m2.2.2 nq (shr_len hn h1.1 h1.2.2 m2.2.2 nq vq) vq.out b x; have hq0 : q.length = 0 := hr.1 hv.out; have hq1 : ((q.length : Int) == 0) = true := (by rw [hq0]; rfl); have HR := Lib.hid hr; clear hr)))
        refine bodyPost_ret (v := dyV false none 0 0 0) (by simp [results, Tryz.results30, go_sem, hc, hs]) rfl ?_
        refine ⟨false, [], none, 0, 0, rfl, by rw [hv.out, nfl_zero]; exact Dn.zero, lv_nil _, ?_⟩
        go_grown
      · replace hv := Lib.hid hv
        go_enter Tryz.func30, Tryz.ntmps30
        go_wp2_with (first
          | (go_at_call 58; ((with_reducible refine (Zeros_lv h1 hn hT1).mono ?_); rintro e w1 ⟨k, rfl, hk, hz, rfl⟩; have p2 := Shr_lv h1 hn hT1 k (by omega) _ rfl; generalize lostB (val 18446744073709551616 l) k = L9 at p2))
          | (go_at_call 59; ((with_reducible refine p2.mono ?_); rintro e w2 ⟨q, A2, c2, rfl, nq, vq, m2, hb⟩; clear p2; obtain ⟨hc, hf⟩ := bcellD hb; have bw : Below w.heap.size w w2 := dy_end (by go_grown) hb; have hs := hb.size; simp only [World.size_alloc] at hs; have hr := normal_rest hz.out.1 hz.out.2 m2.2.2 nq (shr_len hn h1.1 h1.2.2 m2.2.2 nq vq) vq.out b x; have hq0 : 0 < q.length := (hr.2 hv.out).1; have hq1 : ((q.length : Int) == 0) = false := beq_eq_false_iff_ne.2 (by omega); have HR := Lib.hid hr; clear hr)))
        refine bodyPost_ret (v := dyV b A2 q.length c2 (x + k)) (by simp [results, Tryz.results30, go_sem, hc, hs]) rfl ?_
        refine ⟨b, q, A2, c2, x + k, rfl, (HR.out.2 hv.out).2, ?_, ?_⟩
        · exact m2.put (Blk.below DB hb (by simp)) _ _ _ _ _
        · go_grown
end
end Go.Proofs.YtmfikppnkjhmjaaGreatDoor
