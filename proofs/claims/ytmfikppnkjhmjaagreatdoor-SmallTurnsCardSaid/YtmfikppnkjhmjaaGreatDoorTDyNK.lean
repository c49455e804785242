/-
  Layer 3, plain mathematics, part five: comparisons, and what sums and products undo.
-/
import Derived.Test.YtmfikppnkjhmjaaGreatDoorTDyNJ
namespace Go.Proofs.YtmfikppnkjhmjaaGreatDoor
open Go Go.RowKit Go.Bw
set_option linter.unusedVariables false
set_option linter.unusedSimpArgs false

def sgI (s : Int) : Int := if s = 0 then 0 else if s < 0 then -1 else 1
theorem sgn_nf (s e : Int) : sgn (nf s e) = sgI s := by
  unfold sgI
  by_cases h : s = 0
  · subst h; rw [nf_zero, if_pos rfl]; rfl
  · rw [nf_pos h, if_neg h]
    have ho := (odd_is (n := s.natAbs) (by omega)).1
    unfold sgn
    rw [if_neg (show ¬ odd s.natAbs = 0 by omega)]
    by_cases h2 : s < 0
    · rw [if_pos h2]; simp [h2]
    · rw [if_neg h2]; simp [h2]
theorem sgn_is (d : Nf) : sgn d = sgI d.num := by
  unfold sgn sgI Nf.num
  cases d.neg <;> by_cases h : d.man = 0 <;> simp [h] <;> omega
theorem diff_nf {d d2 : Nf} (hd : d.Ok) (hd2 : d2.Ok) : sumN d (negN d2) = nf (d.num * 2 ^ (d.exp - min d.exp d2.exp).toNat + -d2.num * 2 ^ (d2.exp - min d.exp d2.exp).toNat) (min d.exp d2.exp) := by
  have h := sumN_of (s := d.num) (e := d.exp) (t := -d2.num) (f := d2.exp) (p := min d.exp d2.exp) (by omega) (by omega)
  rw [nf_self hd] at h
  exact h.symm
theorem mul_sg {u X : Int} (hX : 0 < X) : sgI (u * X) = sgI u := by
  unfold sgI
  rcases Int.lt_trichotomy u 0 with h | h | h
  · have := Int.mul_neg_of_neg_of_pos h hX
    rw [if_neg (by omega), if_pos (by omega), if_neg (by omega), if_pos h]
  · subst h; simp
  · have := Int.mul_pos h hX
    rw [if_neg (by omega), if_neg (by omega), if_neg (by omega), if_neg (by omega)]
theorem sg_diff {u v : Int} (h : sgI u ≠ sgI v ∨ sgI u = 0) : sgI (u + -v) = cmpS (sgI u) (sgI v) := by
  unfold sgI at *
  unfold cmpS
  repeat' split at h
  all_goals (repeat' split)
  all_goals omega
theorem sgn_diff {d d2 : Nf} (hd : d.Ok) (hd2 : d2.Ok) (h : sgn d ≠ sgn d2 ∨ sgn d = 0) : sgn (sumN d (negN d2)) = cmpS (sgn d) (sgn d2) := by
  rw [diff_nf hd hd2, sgn_nf]
  rw [sgn_is, sgn_is] at h ⊢
  have hX : (0 : Int) < 2 ^ (d.exp - min d.exp d2.exp).toNat := Int.pow_pos (by omega)
  have hY : (0 : Int) < 2 ^ (d2.exp - min d.exp d2.exp).toNat := Int.pow_pos (by omega)
  have e1 := mul_sg (u := d.num) hX
  have e2 := mul_sg (u := d2.num) hY
  rw [← e1, ← e2] at h ⊢
  rw [Int.neg_mul]
  exact sg_diff h
/-- of one sign: by the sizes at one place -/
theorem sgn_sizes {d d2 : Nf} (hd : d.Ok) (hd2 : d2.Ok) (h : sgn d = sgn d2) (h0 : sgn d ≠ 0) (hlt : (d.man : Int) * 2 ^ (d.exp - min d.exp d2.exp).toNat < (d2.man : Int) * 2 ^ (d2.exp - min d.exp d2.exp).toNat) :
    sgn (sumN d (negN d2)) = -sgn d ∧ sgn (sumN d2 (negN d)) = sgn d := by
  rw [diff_nf hd hd2, diff_nf hd2 hd, sgn_nf, sgn_nf, Int.min_comm d2.exp d.exp]
  generalize (2 : Int) ^ (d.exp - min d.exp d2.exp).toNat = X at *
  generalize (2 : Int) ^ (d2.exp - min d.exp d2.exp).toNat = Y at *
  have g1 : d.man ≠ 0 := fun e => h0 (by unfold sgn; rw [if_pos e])
  have g2 : d2.man ≠ 0 := fun e => h0 (by rw [h]; unfold sgn; rw [if_pos e])
  unfold sgn at h ⊢
  rw [if_neg g1, if_neg g2] at h
  rw [if_neg g1]
  unfold Nf.num
  cases e1 : d.neg <;> cases e2 : d2.neg <;> rw [e1, e2] at h <;> simp at h <;> simp only [Bool.false_eq_true, if_false, if_true] <;> unfold sgI
  · constructor
    · rw [if_neg (by rw [Int.neg_mul]; omega), if_pos (by rw [Int.neg_mul]; omega)]
    · rw [if_neg (by rw [Int.neg_mul]; omega), if_neg (by rw [Int.neg_mul]; omega)]
  · constructor
    · rw [if_neg (by rw [Int.neg_neg, Int.neg_mul]; omega), if_neg (by rw [Int.neg_neg, Int.neg_mul]; omega)]; rfl
    · rw [if_neg (by rw [Int.neg_neg, Int.neg_mul]; omega), if_pos (by rw [Int.neg_neg, Int.neg_mul]; omega)]
theorem size_bits {m m2 k k2 : Nat} {x x2 : Int} (hk : IsBits (m : Int) k) (hk2 : IsBits (m2 : Int) k2) (h2 : m2 ≠ 0) (hlt : x + (k : Int) < x2 + (k2 : Int)) : (m : Int) * 2 ^ (x - min x x2).toNat < (m2 : Int) * 2 ^ (x2 - min x x2).toNat := by
  have a1 := hk.2.1
  have hk20 : 0 < k2 := by
    rcases Nat.eq_zero_or_pos k2 with g | g
    · subst g
      have := hk2.2.1
      simp at this
      omega
    · exact g
  have a2 := hk2.2.2 hk20
  have hX : (0 : Int) < 2 ^ (x - min x x2).toNat := Int.pow_pos (by omega)
  have hY : (0 : Int) < 2 ^ (x2 - min x x2).toNat := Int.pow_pos (by omega)
  have b1 := Int.mul_lt_mul_of_pos_right a1 hX
  have b2 := Int.mul_le_mul_of_nonneg_right a2 (Int.le_of_lt hY)
  rw [← Int.pow_add] at b1 b2
  have b3 := pw_mono (show k + (x - min x x2).toNat ≤ k2 - 1 + (x2 - min x x2).toNat by omega)
  omega
/-- what order answers, of numbers within bounds -/
theorem ord_near {d d2 : Nf} {P Q : Int} (i1 : d.In P Q) (i2 : d2.In P Q) (ok1 : d.Ok) (ok2 : d2.Ok) (hPQ : P ≤ Q) (hw : Q - P ≤ 262143) : OrdC d d2 (sgn (sumN d (negN d2))) 0 := by
  have hfar := far_near i1 i2 (by omega)
  intro b b2 A A2 c c2 x x2 l l2 w hd h hd2 h2 hT x0 x1 y0 y1
  by_cases hs : sgn d ≠ sgn d2 ∨ sgn d = 0
  · rw [sgn_diff ok1 ok2 hs]
    exact ord_signs hs (fun _ _ => hfar) hd h hd2 h2 hT x0 x1 y0 y1
  · have h0 : sgn d ≠ 0 := fun e => hs (.inr e)
    have he : sgn d = sgn d2 := Classical.byContradiction fun e => hs (.inl e)
    have m1 : d.man ≠ 0 := fun e => h0 (by unfold sgn; rw [if_pos e])
    have m2 : d2.man ≠ 0 := fun e => h0 (by rw [he]; unfold sgn; rw [if_pos e])
    have g1 := sgn_dn hd h.lim
    have g2 := sgn_dn hd2 h2.lim
    rw [← he] at g2
    have hf : x - x2 ≤ 262144 ∧ x2 - x ≤ 262144 := by
      unfold farN farB at hfar
      rw [hd.exp, hd2.exp] at hfar
      simp [m1, m2] at hfar
      omega
    obtain ⟨k, hk⟩ := exists_bits _ (lim_val h.lim)
    obtain ⟨k2, hk2⟩ := exists_bits _ (lim_val h2.lim)
    have hkm := hk
    have hkm2 := hk2
    rw [← hd.man h.lim] at hkm
    rw [← hd2.man h2.lim] at hkm2
    have r1 : sgn d = -1 ∨ sgn d = 1 := by
      have : sgn d = -1 ∨ sgn d = 0 ∨ sgn d = 1 := by unfold sgn; repeat' split <;> simp
      omega
    rcases Int.lt_trichotomy (x + (k : Int)) (x2 + (k2 : Int)) with g | g | g
    · have hsz := size_bits hkm hkm2 m2 g
      rw [← hd.exp, ← hd2.exp] at hsz
      rw [(sgn_sizes ok1 ok2 he h0 hsz).1]
      rcases r1 with r | r <;> rw [r] at g1 g2 ⊢
      · exact order_lt_n h hd.2.1 h2 hd2.2.1 g1 g2 x0 x1 y0 y1 hf hk hk2 rfl rfl g
      · exact order_lt_p h hd.2.1 h2 hd2.2.1 g1 g2 x0 x1 y0 y1 hf hk hk2 rfl rfl g
    · have hN : Near d (negN d2) := ⟨P, Q, i1, negN_in ok2 i2, hPQ, hw⟩
      have m3 : (negN d2).man ≠ 0 := by
        rcases neg_man d2 with ⟨e, _⟩ | e
        · rw [e]; exact m2
        · exact absurd ok2 e
      rcases r1 with r | r <;> rw [r] at g1 g2
      · exact order_eq_n h hd.2.1 h2 hd2.2.1 g1 g2 x0 x1 y0 y1 hf hk hk2 rfl rfl g hT hd (hd2.turnN h2.lim m2) m1 m3 hN (Lib.hid rfl)
      · exact order_eq_p h hd.2.1 h2 hd2.2.1 g1 g2 x0 x1 y0 y1 hf hk hk2 rfl rfl g hT hd (hd2.turnN h2.lim m2) m1 m3 hN (Lib.hid rfl)
    · have hsz := size_bits hkm2 hkm m1 g
      rw [← hd.exp, ← hd2.exp] at hsz
      rw [(sgn_sizes ok2 ok1 he.symm (by rw [← he]; exact h0) hsz).2, ← he]
      rcases r1 with r | r <;> rw [r] at g1 g2 ⊢
      · exact order_gt_n h hd.2.1 h2 hd2.2.1 g1 g2 x0 x1 y0 y1 hf hk hk2 rfl rfl g
      · exact order_gt_p h hd.2.1 h2 hd2.2.1 g1 g2 x0 x1 y0 y1 hf hk hk2 rfl rfl g
/-! ### what undoes what -/
theorem sumN_neg (b : Nf) (hb : b.Ok) : sumN b (negN b) = zeroN := by
  rw [diff_nf hb hb, Int.neg_mul, Int.add_right_neg, nf_zero]
  rfl
theorem sumN_back {a b : Nf} (ha : a.Ok) (hb : b.Ok) : sumN (sumN a b) (negN b) = a := by
  rw [sumN_assoc ha hb (negN_ok b), sumN_neg b hb, sumN_zero_right ha]
theorem mulN_neg (b c : Nf) (hb : b.Ok) (hc : c.Ok) : mulN (negN b) c = negN (mulN b c) := by
  have h1 := mulN_of (-b.num) b.exp c.num c.exp
  have h2 := negN_of (b.num * c.num) (b.exp + c.exp)
  have e1 : nf (-b.num) b.exp = negN b := rfl
  have e2 : nf (b.num * c.num) (b.exp + c.exp) = mulN b c := rfl
  rw [nf_self hc, e1] at h1
  rw [e2] at h2
  rw [← h1, Int.neg_mul, h2]
theorem squares {a b : Nf} (ha : a.Ok) (hb : b.Ok) : mulN (sumN a b) (sumN a (negN b)) = sumN (mulN a a) (negN (mulN b b)) := by
  have hs := sumN_ok a (negN b)
  rw [mulN_sum ha hb hs, mulN_comm a (sumN a (negN b)), mulN_comm b (sumN a (negN b)), mulN_sum ha (negN_ok b) ha, mulN_sum ha (negN_ok b) hb, mulN_neg b a hb ha, mulN_neg b b hb hb, mulN_comm b a]
  have o1 := mulN_ok a a
  have o2 := mulN_ok a b
  have o3 := negN_ok (mulN b b)
  rw [sumN_assoc o1 (negN_ok _) (sumN_ok _ _), ← sumN_assoc (negN_ok _) o2 o3, sumN_comm (negN (mulN a b)), sumN_neg _ o2, sumN_zero_left o3]
end Go.Proofs.YtmfikppnkjhmjaaGreatDoor
