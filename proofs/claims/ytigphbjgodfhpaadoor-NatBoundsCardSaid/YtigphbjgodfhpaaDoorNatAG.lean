/-
  Layer 2, walks, part twenty-six: the function that hands out a number's digits, the lowest first.
-/
import Derived.Test.YtigphbjgodfhpaaDoorNatAF
namespace Go.Proofs.YtigphbjgodfhpaaDoor
open Go.RowKit Go.Shelf
set_option linter.unusedVariables false
attribute [local go_sem] Oper.semAt_some

/-- a decimal digit -/
abbrev Dgt := { x : Int // 0 ≤ x ∧ x < 10 }
def dv (ys : List Dgt) : List Int := ys.map (·.1)
theorem dv_nil : dv [] = [] := rfl
theorem dv_snoc (ys : List Dgt) (d : Dgt) : dv (ys ++ [d]) = dv ys ++ [d.1] := by simp [dv]
theorem dv_length (ys : List Dgt) : (dv ys).length = ys.length := by simp [dv]
theorem dv_lim (ys : List Dgt) : Lim 10 (dv ys) := fun x hx => by
  simp [dv] at hx
  obtain ⟨h, _⟩ := hx
  exact h

theorem ten_mono {a b : Nat} (h : a ≤ b) : (10 : Int) ^ a ≤ 10 ^ b := by
  have := Nat.pow_le_pow_right (show 0 < 10 by decide) h
  exact_mod_cast this

/-- how far the digits are: b is left of a block, cv of the number behind it -/
def St (V cv : Int) (m : Nat) (b : Int) (ys : List Dgt) : Prop :=
  m ≤ 19 ∧ 0 ≤ b ∧ b < 10 ^ (19 - m) ∧ V = val 10 (dv ys) + (cv * 10 ^ (19 - m) + b) * 10 ^ ys.length ∧ ((cv = 0 ∧ b = 0) → Normal (dv ys))

theorem St.bd {V cv : Int} {m : Nat} {b : Int} {ys : List Dgt} (h : St V cv m b ys) : b < 10000000000000000000 := by
  obtain ⟨_, _, h, _⟩ := h
  have h2 : (10 : Int) ^ (19 - m) ≤ 10 ^ 19 := ten_mono (by omega)
  have : (10 : Int) ^ 19 = 10000000000000000000 := by decide
  omega

theorem St.start {V cv r R : Int} {ys : List Dgt} (hV : V = val 10 (dv ys) + R * 10 ^ ys.length) (hR : R = cv * 10000000000000000000 + r) (h0 : 0 ≤ r) (h1 : r < 10000000000000000000) (hp : 0 < R) : St V cv 0 r ys := by
  have : (10 : Int) ^ 19 = 10000000000000000000 := by decide
  refine ⟨by omega, h0, by rw [Nat.sub_zero, this]; exact h1, by rw [Nat.sub_zero, this, ← hR]; exact hV, fun ⟨a, b⟩ => ?_⟩
  rw [a, b] at hR
  omega

theorem St.next {V cv : Int} {m : Nat} {b : Int} {ys : List Dgt} (h : St V cv m b ys) (hm : m < 19) (hn : ¬ (cv = 0 ∧ b = 0)) (hc : 0 ≤ cv) (d : Dgt) (hd : d.1 = b % 10) : St V cv (m + 1) (b / 10) (ys ++ [d]) := by
  obtain ⟨_, h0, h1, h2, h3⟩ := h
  obtain ⟨p, hp⟩ : ∃ p : Int, (10 : Int) ^ (19 - (m + 1)) = p := ⟨_, rfl⟩
  have hp2 : (10 : Int) ^ (19 - m) = p * 10 := by
    rw [show 19 - m = (19 - (m + 1)) + 1 by omega, Int.pow_succ, hp]
  rw [hp2] at h1 h2
  have hb := Int.emod_add_mul_ediv b 10
  refine ⟨by omega, by omega, by rw [hp]; omega, ?_, fun ⟨e1, e2⟩ => ?_⟩
  · rw [dv_snoc, val_append, hp, List.length_append, List.length_singleton, Int.pow_succ, dv_length, hd, h2]
    simp only [val_cons, val_nil]
    grind
  · rw [dv_snoc]
    refine .inr ?_
    rw [List.length_append, List.length_singleton, Nat.add_sub_cancel, D_append, if_neg (by omega), Nat.sub_self, D_cons_zero, hd]
    omega

theorem St.lt {V cv : Int} {m : Nat} {b : Int} {ys : List Dgt} (h : St V cv m b ys) (hn : ¬ (cv = 0 ∧ b = 0)) (hc : 0 ≤ cv) : ys.length < (digs V.toNat).length := by
  obtain ⟨_, h0, h1, h2, h3⟩ := h
  obtain ⟨d1, d2, d3⟩ := digs_spec V.toNat
  have hp : (0 : Int) < 10 ^ (19 - m) := Int.pow_pos (by omega)
  have hx : 1 ≤ cv * 10 ^ (19 - m) + b := by
    rcases Int.lt_or_le 0 cv with h | h
    · have : 1 * 1 ≤ cv * 10 ^ (19 - m) := Int.mul_le_mul (by omega) (by omega) (by omega) (by omega)
      omega
    · obtain rfl : cv = 0 := by omega
      have : b ≠ 0 := fun e => hn ⟨rfl, e⟩
      omega
  have hv := (val_bound (b := 10) (by omega) (dv_lim ys)).1
  have ht : (0 : Int) < 10 ^ ys.length := Int.pow_pos (by omega)
  have h4 : 1 * 10 ^ ys.length ≤ (cv * 10 ^ (19 - m) + b) * 10 ^ ys.length := Int.mul_le_mul_of_nonneg_right hx (by omega)
  have hb := (val_bound (b := 10) (by omega) d1).2
  rw [d3] at hb
  rcases Nat.lt_or_ge ys.length (digs V.toNat).length with h | h
  · exact h
  · have h5 : (10 : Int) ^ (digs V.toNat).length ≤ 10 ^ ys.length := ten_mono h
    omega

theorem St.over {V cv : Int} {b : Int} {ys : List Dgt} (h : St V cv 19 b ys) : V = val 10 (dv ys) + cv * 10 ^ ys.length ∧ (cv = 0 → Normal (dv ys)) := by
  obtain ⟨_, h0, h1, h2, h3⟩ := h
  simp at h1
  obtain rfl : b = 0 := by omega
  exact ⟨by simpa using h2, fun e => h3 ⟨e, rfl⟩⟩

theorem all_out {V : Int} {ys : List Dgt} (h : V = val 10 (dv ys) + 0 * 10 ^ ys.length) (hn : Normal (dv ys)) : dv ys = digs V.toNat := by
  have hv := (val_bound (b := 10) (by omega) (dv_lim ys)).1
  exact digs_unique (dv_lim ys) hn (by omega)

/-- the numbers R lie in a block of the function's own -/
def Mine (B : Nat) (W : World) (A : Option Addr) (c : Nat) (R : List Int) : Prop := R.length ≤ c ∧ c ≤ maxLen ∧ (R ≠ [] → ∃ g, A = some ⟨g, 0, none⟩ ∧ B ≤ g ∧ Pre W g c R)

theorem Mine.keeps {B c : Nat} {W W' : World} {A : Option Addr} {R : List Int} (h : Mine B W A c R) (k : KeepsT 39 W W') : Mine B W' A c R :=
  ⟨h.1, h.2.1, fun hR => by
    obtain ⟨g, h1, h2, cur, h3, h4, h5⟩ := h.2.2 hR
    exact ⟨g, h1, h2, cur, k.2 _ _ _ h3, h4, h5⟩⟩

theorem Own.mine {B c : Nat} {W : World} {A : Option Addr} {R : List Int} (h : Own W B A c R) : Mine B W A c R := by
  obtain ⟨h1, h2⟩ := h
  rcases h2 with ⟨e, e2⟩ | ⟨g, cap, cur, hv, hb, hg, h3, h4, h5, h6⟩
  · injection e with _ _ h3
    exact ⟨by omega, by unfold maxLen; omega, fun h => absurd (List.eq_nil_of_length_eq_zero e2) h⟩
  · cases hv
    exact ⟨h3, h4, fun _ => ⟨g, rfl, hb, cur, hg, by omega, by simpa using h6⟩⟩

theorem Pre.trimmed {B c c' g : Nat} {W : World} {A' : Option Addr} {C : List Int} (h : Pre W g c C) (hl : C.length ≤ c) (hm : c ≤ maxLen) (hB : B ≤ g) (t : Trims (some ⟨g, 0, none⟩) c A' c' (norm C)) : Mine B W A' c' (norm C) := by
  rcases t with ⟨rfl, rfl, e⟩ | ⟨rfl, rfl, _⟩
  · rw [e]
    exact ⟨by simp, by unfold maxLen; omega, fun h => absurd rfl h⟩
  · have hn := norm_length C
    refine ⟨by omega, hm, fun _ => ⟨g, rfl, hB, ?_⟩⟩
    obtain ⟨cur, h1, h2, h3⟩ := h
    refine ⟨cur, h1, h2, ?_⟩
    have : cur.toList.take (norm C).length = (cur.toList.take C.length).take (norm C).length := by rw [List.take_take, Nat.min_eq_left hn]
    rw [this, h3]
    conv => rhs; rw [norm_take C]
    simp [L]

theorem Pre.nums {w : World} {g c B : Nat} {l : List Int} (h : Pre w g c l) (hl : l.length ≤ c) (hm : c ≤ maxLen) (hB : g < B) : Nums w B (some ⟨g, 0, none⟩) c l :=
  ⟨hl, hm, fun _ => ⟨_, rfl, hB, fun k hk => by rw [add_at]; simpa using h.cell hk⟩⟩

set_option maxHeartbeats 1000000 in
theorem clone_grown (A : Option Addr) (c : Nat) (l : List Int) (w : World) (h : Nums w w.heap.size A c l) (hlen : l.length ≤ 1000000) :
    Calls Tryd.prog 52 #[.slice A l.length c] w fun e w' => ∃ A' c', e = .returned (.slice A' l.length c') ∧ Mine w.heap.size w' A' c' l ∧ w.grownBy w' none := by
  go_enter Tryd.func52, Tryd.ntmps52
  go_wp2_with (at_builtin; refine wpList_app _ rfl _ _ rfl w.heap.size none 0 [] rfl (Own.nil w _) w.heap.size A c l rfl h (by simp; omega) (Nat.le_refl _) ?_; intro A2 c2 w' hown hg hat)
  go_ret
  exact ⟨A2, c2, rfl, hown.mine, hg⟩

set_option maxHeartbeats 1000000 in
/-- the function that digits hands back -/
theorem digits_any (A : Option Addr) (n c : Nat) (w : World) :
    Calls Tryd.prog 67 #[.slice A n c] w fun e w' => e = .returned (.func (.func 87) #[] #[.pointer (some ⟨w.heap.size, 0, none⟩)]) ∧ w' = w.alloc (.cells #[.slice A n c] 22) := by
  go_enter Tryd.func67, Tryd.ntmps67
  go_wp2_with fail
  go_ret
  exact ⟨rfl, rfl⟩
end Go.Proofs.YtigphbjgodfhpaaDoor
