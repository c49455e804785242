/-
  Joined (by wip/tools/joinM.py) of BpV, BpA, BpS.
-/
import Derived.Test.YtbaeabmmokgomaaNC3
import Derived.Test.YtbaeabmmokgomaaNT1
namespace Go.Proofs.Ytbaeabmmokgomaa
open Go.RowKit Go.Bw
set_option linter.unusedVariables false
set_option linter.unusedSimpArgs false
section
attribute [local go_sem] Oper.semAt_some run_store_float

/-! ### the view of all of a store -/
theorem all_ix (s : Nat) (R C i j : Int) (c : Nat) : (Vu.all s R C).ix c i j = i * c + j := by
  unfold Vu.ix Vu.p0 Vu.p1
  simp
theorem all_vk (s : Nat) {R C : Int} (R0 : 0 ≤ R) (R1 : R ≤ 512) (C0 : 0 ≤ C) (C1 : C ≤ 512) {n : Nat} (hn : (n : Int) = R * C) : Vk (Vu.all s R C) s C.toNat n 1 where
  bd := ⟨⟨by simp, by simp⟩, ⟨by simp, by simp⟩, ⟨by simp, by simp⟩, ⟨by simp, by simp⟩, ⟨by simp, by simp⟩, ⟨by simp, by simp⟩, ⟨R0, R1⟩, ⟨C0, C1⟩, ⟨by simp, by simp⟩⟩
  p := .inr rfl
  ins := by
    intro i j hh
    unfold Vu.has at hh
    obtain ⟨i0, i1, j0, j1⟩ := of_decide_eq_true hh
    simp only at i1 j1
    obtain ⟨I, rfl⟩ := Int.eq_ofNat_of_zero_le i0
    obtain ⟨J, rfl⟩ := Int.eq_ofNat_of_zero_le j0
    obtain ⟨m, rfl⟩ := Int.eq_ofNat_of_zero_le R0
    obtain ⟨q, rfl⟩ := Int.eq_ofNat_of_zero_le C0
    refine ⟨I * q + J, ?_, ?_, ?_⟩
    · rw [all_ix]; simp
    · have h1 : (I + 1) * q ≤ m * q := Nat.mul_le_mul_right q (by omega)
      rw [Nat.succ_mul] at h1
      have h2 : n = m * q := by exact_mod_cast hn
      omega
    · show (Vu.all s _ _).p1 _ _ < _
      unfold Vu.p1
      simp
      omega
theorem all_at (s : Nat) {R C : Int} (R0 : 0 ≤ R) (R1 : R ≤ 512) (C0 : 0 ≤ C) (C1 : C ≤ 512) (l : List Int) {k : Nat} (hk : k < (R * C).toNat) : (Vu.all s R C).at_ C.toNat l ((Vu.all s R C).ei k) ((Vu.all s R C).ej k) = D l k := by
  have hv := all_vk s R0 R1 C0 C1 (n := (R * C).toNat) (by rw [Int.toNat_of_nonneg (Int.mul_nonneg R0 C0)])
  have hh := ei_bd hv.bd (k := k) hk
  unfold Vu.at_
  rw [hh, if_pos rfl, all_ix]
  unfold Vu.ei Vu.ej
  obtain ⟨q, rfl⟩ := Int.eq_ofNat_of_zero_le C0
  congr 1
  simp only [Int.toNat_natCast]
  have := Nat.div_add_mod k q
  have e : ((k / q : Nat) : Int) * (q : Int) + ((k % q : Nat) : Int) = ((k : Nat) : Int) := by
    rw [Nat.mul_comm] at this
    exact_mod_cast this
  rw [e]
  rfl
theorem all_fl (s : Nat) {R C : Int} (R0 : 0 ≤ R) (R1 : R ≤ 512) (C0 : 0 ≤ C) (C1 : C ≤ 512) {l : List Int} (hl : (l.length : Int) = R * C) : (Vu.all s R C).fl C.toNat l = l := by
  apply List.ext_getElem
  · rw [fl_length]; show (R * C).toNat = _; omega
  · intro i h1 h2
    have h3 : i < (R * C).toNat := by omega
    have := fl_D (Vu.all s R C) C.toNat l (k := i) h3
    rw [D_in h1, all_at s R0 R1 C0 C1 l h3, D_in h2] at this
    exact this
section
variable {w : World} {v u : Vu} {K K2 : Int} {B s g cap c n B2 s2 g2 cap2 c2 n2 : Nat} {l l2 : List Int}
end
end
section
theorem zero_vk (s c n : Nat) {K : Int} (h : 1 ≤ K ∧ K ≤ 1099511627776) : Vk Vu.zero s c n K where
  bd := ⟨by simp; omega, by simp; omega, by simp; omega, by simp; omega, by simp; omega, by simp; omega, by simp, by simp, h⟩
  p := .inl rfl
  ins := by intro i j hh; rw [Vu.has_zero] at hh; cases hh
theorem Bd.more {v : Vu} {K K2 : Int} (h : Bd v K) (hk : K ≤ K2) (h2 : K2 ≤ 1099511627776) : Bd v K2 := by
  obtain ⟨a, b, c, d, e, f, g, i, j⟩ := h
  exact ⟨by omega, by omega, by omega, by omega, by omega, by omega, g, i, by omega⟩
theorem Vk.more {v : Vu} {s c n : Nat} {K K2 : Int} (h : Vk v s c n K) (hk : K ≤ K2) (h2 : K2 ≤ 1099511627776) : Vk v s c n K2 := ⟨h.bd.more hk h2, h.p, h.ins⟩
section
variable {v : Vu} {s c n : Nat} {K : Int}
theorem T_p0 (i j : Int) : v.T.p0 i j = v.p0 j i := by unfold Vu.T Vu.p0; simp only; omega
theorem T_p1 (i j : Int) : v.T.p1 i j = v.p1 j i := by unfold Vu.T Vu.p1; simp only; omega
theorem T_ix (i j : Int) : v.T.ix c i j = v.ix c j i := by unfold Vu.ix; rw [T_p0, T_p1]
theorem T_has (i j : Int) : v.T.has i j = v.has j i := by unfold Vu.T Vu.has; simp only; congr 1; apply propext; constructor <;> (intro h; omega)
theorem turn_vk (hv : Vk v s c n K) : Vk v.turnO s c n K := by
  unfold Vu.turnO
  by_cases hz : (v.p == none) = true
  · rw [if_pos hz]; exact zero_vk s c n hv.bd.K
  · rw [if_neg hz]
    obtain ⟨a, b, c', d, e, f, g, i, j⟩ := hv.bd
    refine ⟨⟨a, b, e, f, c', d, i, g, j⟩, ?_, ?_⟩
    · rcases hv.p with h | h
      · rw [h] at hz; exact absurd rfl hz
      · exact .inr h
    · intro i j hh
      rw [T_has] at hh
      obtain ⟨k, h1, h2, h3⟩ := hv.ins j i hh
      exact ⟨k, by rw [T_ix]; exact h1, h2, by rw [T_p1]; exact h3⟩
theorem D_p0 (k : Int) : v.diag.p0 k 0 = v.p0 k k := by unfold Vu.diag Vu.p0; simp only; rw [Int.mul_add]; omega
theorem D_p1 (k : Int) : v.diag.p1 k 0 = v.p1 k k := by unfold Vu.diag Vu.p1; simp only; rw [Int.mul_add]; omega
theorem D_ix (k : Int) : v.diag.ix c k 0 = v.ix c k k := by unfold Vu.ix; rw [D_p0, D_p1]
theorem D_has {i j : Int} (h : v.diag.has i j = true) : j = 0 ∧ v.has i i = true := by
  have h := of_decide_eq_true h
  simp only [Vu.diag] at h
  exact ⟨by omega, decide_eq_true (by omega)⟩
theorem diag_vk (hv : Vk v s c n K) (hK : 2 * K ≤ 1099511627776) : Vk v.diagO s c n (2 * K) := by
  have hk := hv.bd.K
  unfold Vu.diagO
  by_cases hz : (v.p == none) = true
  · rw [if_pos hz]; exact zero_vk s c n (by omega)
  · rw [if_neg hz]
    obtain ⟨a, b, c', d, e, f, g, i, j⟩ := hv.bd
    refine ⟨⟨by unfold Vu.diag; simp only; omega, by unfold Vu.diag; simp only; omega, by unfold Vu.diag; simp only; omega, by unfold Vu.diag; simp only; omega, by unfold Vu.diag; simp only; omega, by unfold Vu.diag; simp only; omega, by unfold Vu.diag; simp only; omega, by unfold Vu.diag; simp only; omega, by omega⟩, ?_, ?_⟩
    · rcases hv.p with h | h
      · rw [h] at hz; exact absurd rfl hz
      · exact .inr h
    · intro i j hh
      obtain ⟨rfl, h1⟩ := D_has hh
      obtain ⟨k, h1, h2, h3⟩ := hv.ins i i h1
      exact ⟨k, by rw [D_ix]; exact h1, h2, by rw [D_p1]; exact h3⟩
theorem P_p0 (i j r m a b : Int) : (v.part i j r m).p0 a b = v.p0 (i + a) (j + b) := by unfold Vu.part Vu.p0; simp only; rw [Int.add_mul, Int.add_mul]; omega
theorem P_p1 (i j r m a b : Int) : (v.part i j r m).p1 a b = v.p1 (i + a) (j + b) := by unfold Vu.part Vu.p1; simp only; rw [Int.add_mul, Int.add_mul]; omega
theorem P_ix (i j r m a b : Int) : (v.part i j r m).ix c a b = v.ix c (i + a) (j + b) := by unfold Vu.ix; rw [P_p0, P_p1]
theorem P_has {i j r m a b : Int} (h1 : withinB i r v.R = true) (h2 : withinB j m v.C = true) (h : (v.part i j r m).has a b = true) : v.has (i + a) (j + b) = true := by
  have h := of_decide_eq_true h
  have h1 := of_decide_eq_true h1
  have h2 := of_decide_eq_true h2
  simp only [Vu.part] at h
  exact decide_eq_true (by omega)
theorem part_vk (hv : Vk v s c n K) (hK : 2 * K ≤ 1099511627776) (i j r m : Int) : Vk (v.partO i j r m) s c n (2 * K) := by
  have hk := hv.bd.K
  unfold Vu.partO
  by_cases hz : (v.p == none) = true
  · rw [if_pos hz]; exact zero_vk s c n (by omega)
  · rw [if_neg hz]
    by_cases hw : (withinB i r v.R && withinB j m v.C) = true
    · rw [if_pos hw]
      simp only [Bool.and_eq_true] at hw
      obtain ⟨i0, i1, r0, r1⟩ := within_bd hw.1 hv.bd.R.2
      obtain ⟨j0, j1, m0, m1⟩ := within_bd hw.2 hv.bd.C.2
      have hp := hv.bd.p i0 i1 j0 j1
      obtain ⟨a, b, c', d, e, f, g, i, j⟩ := hv.bd
      refine ⟨⟨by unfold Vu.part; simp only; omega, by unfold Vu.part; simp only; omega, by unfold Vu.part; simp only; omega, by unfold Vu.part; simp only; omega, by unfold Vu.part; simp only; omega, by unfold Vu.part; simp only; omega, by unfold Vu.part; simp only; omega, by unfold Vu.part; simp only; omega, by omega⟩, ?_, ?_⟩
      · rcases hv.p with h | h
        · rw [h] at hz; exact absurd rfl hz
        · exact .inr h
      · intro a b hh
        obtain ⟨k, h1, h2, h3⟩ := hv.ins _ _ (P_has hw.1 hw.2 hh)
        exact ⟨k, by rw [P_ix]; exact h1, h2, by rw [P_p1]; exact h3⟩
    · rw [if_neg hw]; exact zero_vk s c n (by omega)
end

section
variable {w : World} {v : Vu} {K : Int} {B s g cap c : Nat} {l : List Int}
end
end
section
theorem setTo_D (v : Vu) (c : Nat) (x : Int) (l : List Int) : ∀ (k q : Nat), q < l.length → (∀ j, j < k → ∃ p : Nat, v.ix c (v.ei j) (v.ej j) = p) →
    ((∃ j, j < k ∧ v.ix c (v.ei j) (v.ej j) = q) → D (setTo v c (fun _ => x) l k) q = x) ∧ ((∀ j, j < k → v.ix c (v.ei j) (v.ej j) ≠ q) → D (setTo v c (fun _ => x) l k) q = D l q) := by
  intro k
  induction k with
  | zero => exact fun q _ _ => ⟨fun ⟨j, hj, _⟩ => by omega, fun _ => rfl⟩
  | succ k ih =>
    intro q hq hp
    obtain ⟨ih1, ih2⟩ := ih q hq (fun j hj => hp j (by omega))
    obtain ⟨p, hpk⟩ := hp k (by omega)
    rw [setTo_succ, hpk, Int.toNat_natCast]
    have hlen : (setTo v c (fun _ => x) l k).length = l.length := setTo_len _ _ _ _ _
    by_cases hpq : p = q
    · subst hpq
      rw [D_set _ _ (by rw [hlen]; exact hq), if_pos rfl]
      exact ⟨fun _ => rfl, fun h => absurd hpk (h k (by omega))⟩
    · have e : D ((setTo v c (fun _ => x) l k).set p x) q = D (setTo v c (fun _ => x) l k) q := by
        unfold D
        rw [List.getD_eq_getElem?_getD, List.getD_eq_getElem?_getD, List.getElem?_set_ne hpq]
      rw [e]
      refine ⟨fun ⟨j, hj, hje⟩ => ih1 ⟨j, ?_, hje⟩, fun h => ih2 (fun j hj => h j (by omega))⟩
      rcases Nat.lt_or_ge j k with g | g
      · exact g
      · obtain rfl : j = k := by omega
        rw [hpk] at hje
        omega
section
variable {w : World} {R C : Int}
end
end
section
theorem St.drew {W : World} {B s g cap c : Nat} {l : List Int} (h : St W B s g cap c l) : St W.drew B s g cap c l := ⟨h.box.drew, h.own, h.ne, h.wd, h.lo, h.len, h.col⟩
section
variable {w w' : World} {B s g cap c n cd b : Nat} {A : Option Addr} {l l2 : List Int} {v : Vu} {K : Int} {row : Option Nat}
end
section
variable {w : World} {v u : Vu} {K K2 : Int} {B s g cap c n : Nat} {l : List Int}
end
end
section
/-- no two places of a view lie in one of its store -/
def Inj (v : Vu) (c : Nat) : Prop := ∀ i j a b : Int, v.has i j = true → v.has a b = true → v.ix c i j = v.ix c a b → i = a ∧ j = b
theorem has_iff (v : Vu) (i j : Int) : v.has i j = true ↔ 0 ≤ i ∧ i < v.R ∧ 0 ≤ j ∧ j < v.C := by unfold Vu.has; exact decide_eq_true_iff
theorem Inj.T {v : Vu} {c : Nat} (h : Inj v c) : Inj v.T c := by
  intro i j a b h1 h2 e
  rw [T_has] at h1 h2
  rw [T_ix, T_ix] at e
  have := h j i b a h1 h2 e
  exact ⟨this.2, this.1⟩
theorem inj_all (s : Nat) {R C : Int} (C0 : 0 ≤ C) : Inj (Vu.all s R C) C.toNat := by
  intro i j a b h1 h2 e
  rw [all_ix, all_ix] at e
  obtain ⟨i0, i1, j0, j1⟩ := (has_iff _ _ _).1 h1
  obtain ⟨a0, a1, b0, b1⟩ := (has_iff _ _ _).1 h2
  replace j1 : j < C := j1
  replace b1 : b < C := b1
  have eC : ((C.toNat : Nat) : Int) = C := by omega
  rw [eC] at e
  have hia : i = a := by
    rcases Int.lt_trichotomy i a with h | h | h
    · have : (i + 1) * C ≤ a * C := Int.mul_le_mul_of_nonneg_right (by omega) C0
      rw [Int.add_mul] at this
      omega
    · exact h
    · have : (a + 1) * C ≤ i * C := Int.mul_le_mul_of_nonneg_right (by omega) C0
      rw [Int.add_mul] at this
      omega
  subst hia
  exact ⟨rfl, by omega⟩
section
variable {v : Vu} {s c n : Nat} {K : Int} {l lx : List Int}
section
variable {L : List Int} {m q : Nat} {P Q : Nat → Nat → Bool} {f : Nat → Nat → Option Nat}
end
end
end
end Go.Proofs.Ytbaeabmmokgomaa
namespace Go.Proofs.Ytbaeabmmokgomaa
open Go.RowKit Go.Bw
set_option linter.unusedVariables false
set_option linter.unusedSimpArgs false
attribute [local go_sem] run_store_float
/-- the column k -/
abbrev colV (s m n k : Nat) : Vu := (Vu.all s m n).part 0 k m 1
/-- the row k -/
abbrev rowU (s m n k : Nat) : Vu := (Vu.all s m n).part k 0 1 n
theorem col_is {s m n k : Nat} (hk : k < n) : (Vu.all s m n).partO 0 k m 1 = colV s m n k := by
  unfold Vu.partO
  have e1 : ((Vu.all s m n).p == none) = false := rfl
  have e2 : withinB 0 m (Vu.all s m n).R = true := decide_eq_true (by show (0 : Int) ≤ 0 ∧ (0 : Int) ≤ m ∧ (m : Int) ≤ (m : Int) - 0; omega)
  have e3 : withinB k 1 (Vu.all s m n).C = true := decide_eq_true (by show (0 : Int) ≤ k ∧ (0 : Int) ≤ 1 ∧ (1 : Int) ≤ (n : Int) - k; omega)
  rw [e1, e2, e3]; rfl
theorem row_is {s m n k : Nat} (hk : k < m) : (Vu.all s m n).partO k 0 1 n = rowU s m n k := by
  unfold Vu.partO
  have e1 : ((Vu.all s m n).p == none) = false := rfl
  have e2 : withinB k 1 (Vu.all s m n).R = true := decide_eq_true (by show (0 : Int) ≤ k ∧ (0 : Int) ≤ 1 ∧ (1 : Int) ≤ (m : Int) - k; omega)
  have e3 : withinB 0 n (Vu.all s m n).C = true := decide_eq_true (by show (0 : Int) ≤ 0 ∧ (0 : Int) ≤ n ∧ (n : Int) ≤ (n : Int) - 0; omega)
  rw [e1, e2, e3]; rfl
theorem all_vkN {s m n N : Nat} (hm : m ≤ 512) (hn : n ≤ 512) (hN : N = m * n) : Vk (Vu.all s m n) s n N 1 := by
  have h := all_vk s (R := (m : Int)) (C := (n : Int)) (by omega) (by omega) (by omega) (by omega) (n := N) (by rw [hN]; push_cast; rfl)
  rw [Int.toNat_natCast] at h
  exact h
theorem col_vk {s m n k N : Nat} (hm : m ≤ 512) (hn : n ≤ 512) (hN : N = m * n) (hk : k < n) : Vk (colV s m n k) s n N 2 := by
  have h := part_vk (all_vkN hm hn hN (s := s)) (by decide) 0 (k : Int) (m : Int) 1
  rw [col_is hk] at h
  exact h
theorem row_vk {s m n k N : Nat} (hm : m ≤ 512) (hn : n ≤ 512) (hN : N = m * n) (hk : k < m) : Vk (rowU s m n k) s n N 2 := by
  have h := part_vk (all_vkN hm hn hN (s := s)) (by decide) (k : Int) 0 1 (n : Int)
  rw [row_is hk] at h
  exact h
theorem col_get {s m n k i : Nat} {l : List Int} (hk : k < n) (hi : i < m) : (colV s m n k).get n l (i : Int) = D l (i * n + k) := by
  have hv : (colV s m n k).vec = true := by unfold Vu.vec; simp [Vu.part]
  unfold Vu.get
  rw [if_pos hv]
  have ea : (colV s m n k).ai (i : Int) = (i : Int) := if_pos rfl
  have eb : (colV s m n k).aj (i : Int) = 0 := if_pos rfl
  rw [ea, eb]
  have hh : (colV s m n k).has (i : Int) 0 = true := decide_eq_true (by show (0 : Int) ≤ i ∧ (i : Int) < m ∧ (0 : Int) ≤ 0 ∧ (0 : Int) < 1; omega)
  unfold Vu.at_
  rw [if_pos hh, P_ix, all_ix]
  have e : (0 + (i : Int)) * ((n : Nat) : Int) + ((k : Int) + 0) = ((i * n + k : Nat) : Int) := by push_cast; rw [Int.zero_add, Int.add_zero]
  rw [e, Int.toNat_natCast]
theorem row_get {s m n k j : Nat} {l : List Int} (hk : k < m) (hj : j < n) (h2 : 2 ≤ n) : (rowU s m n k).get n l (j : Int) = D l (k * n + j) := by
  have hv : (rowU s m n k).vec = true := by unfold Vu.vec; simp [Vu.part]
  have hC : ¬ (rowU s m n k).C = 1 := by show ¬ (n : Int) = 1; omega
  unfold Vu.get
  rw [if_pos hv]
  have ea : (rowU s m n k).ai (j : Int) = 0 := if_neg hC
  have eb : (rowU s m n k).aj (j : Int) = (j : Int) := if_neg hC
  rw [ea, eb]
  have hh : (rowU s m n k).has 0 (j : Int) = true := decide_eq_true (by show (0 : Int) ≤ 0 ∧ (0 : Int) < 1 ∧ (0 : Int) ≤ j ∧ (j : Int) < n; omega)
  unfold Vu.at_
  rw [if_pos hh, P_ix, all_ix]
  have e : ((k : Int) + 0) * ((n : Nat) : Int) + (0 + (j : Int)) = ((k * n + j : Nat) : Int) := by push_cast; rw [Int.zero_add, Int.add_zero]
  rw [e, Int.toNat_natCast]
/-- a list of n floats in new memory -/
def LsP (w : World) (n : Nat) (f : Nat → Option Nat) (e : Ending) (w' : World) : Prop := ∃ g L, e = .returned (.slice (some ⟨g, 0, none⟩) n n) ∧ RowF w' g L ∧ w.heap.size ≤ g ∧ Is L n f ∧ Below w.heap.size w w'
set_option maxRecDepth 100000 in
set_option maxHeartbeats 8000000 in
theorem list_get {w : World} (v : Vu) (p n : Nat) (f : Nat → Option Nat) (hn : n ≤ 4000) (hp : p ≤ 4000) (HC : Hid (∀ W, Below w.heap.size w W → ∀ k, k < n → Calls Try.prog 33 #[v.V, .int .i64 ((p + k : Nat) : Int)] W (FB (f k) W))) :
    Calls Try.prog 31 #[.int .i64 p, .int .i64 ((p + n : Nat) : Int), .func (.func 33) #[v.V] #[]] w (LsP w n f) := by
  have hmk := run_makeF n (by omega)
  have HR := RowF.new w (List.replicate n 0)
  have bz := (Below.refl _ w).alloc (Nat.le_refl _) (.cells (LF (List.replicate n 0)).toArray 49)
  have HI : Hid (Is (List.replicate n (0 : Int)) n (fun j => if j < 0 then f j else some 0)) := Lib.hid ⟨by simp, wd_zeros n, fun k _ => by rw [D_zeros]; exact fa_zero⟩
  obtain ⟨q, hq⟩ : ∃ q, p + n = q := ⟨_, rfl⟩
  rw [hq]
  have eq : (q : Int) - (p : Int) = (n : Int) := by omega
  have wq : IntKind.i64.wrap (n : Int) = (n : Int) := IntWalk.i64_in _ (by omega)
  obtain ⟨V9, hV⟩ : ∃ V9, v.V = V9 := ⟨_, rfl⟩
  rw [hV] at HC ⊢
  clear hV hq
  go_enter Try.func31, Try.ntmps31
  go_wp2_with fail
  clear hmk
  go_loopw [16, 8] (fun i i2 wr => ∃ (k : Nat) (L : List Int), k ≤ n ∧ i = .int .i64 k ∧ RowF wr w.heap.size L ∧ Hid (Is L n (fun j => if j < k then f j else some 0)) ∧ Below w.heap.size w wr) (fun i _ _ => n - (intOf i).toNat)
  case atStart => exact ⟨0, _, Nat.zero_le _, rfl, HR, HI, bz⟩
  case round =>
    clear HR HI bz
    obtain ⟨k, L, hk, rfl, HR, HI, bz⟩ := hrel
    by_cases hlt : k < n
    · obtain ⟨z, hz⟩ : ∃ z, p + k = z := ⟨_, rfl⟩
      have pc := HC.out wr bz k hlt
      rw [hz] at pc
      have ez : (p : Int) + (k : Int) = (z : Int) := by omega
      have wz : IntKind.i64.wrap (z : Int) = (z : Int) := IntWalk.i64_in _ (by omega)
      clear hz
      have k0 : (0 : Int) ≤ k := by omega
      have k1 : (k : Int) < n := by omega
      go_wp2_with fail
      with_reducible refine pc.mono ?_
      rintro e w1 ⟨r1, rfl, h1, b1, hb⟩
      have H1 := Lib.hid h1
      clear h1 pc
      replace HR := HR.on hb
      replace bz := bz.trans (hb.mono bz.size)
      clear hb
      obtain ⟨c0, c1⟩ := HR.at_ (k := k) (by rw [HI.out.len]; exact hlt)
      have HR2 : RowF (w1.setCell ⟨w.heap.size, k, none⟩ (.float .f64 r1)) w.heap.size (L.set k r1) := HR.set_ k r1
      have bz2 := bz.setCell (p := ⟨w.heap.size, k, none⟩) (Nat.le_refl _) (.float .f64 r1)
      have HI2 : Hid (Is (L.set k (r1 : Int)) n (fun j => if j < k + 1 then f j else some 0)) := Lib.hid (by
        refine HI.out.set (by omega) (by omega) hlt ?_ (fun i _ hi => ?_)
        · rw [fa_nat, H1.out, if_pos (by omega)]
        · by_cases e1 : i < k
          · rw [if_pos (by omega), if_pos e1]
          · rw [if_neg (by omega), if_neg e1])
      clear HR HI bz ez wz
      go_wp2_with fail
      go_roundw
      case rel => exact ⟨k + 1, _, by omega, by go_num, HR2, HI2, bz2⟩
      case measure => simp [intOf]; omega
    · obtain rfl : k = n := by omega
      go_wp2_with fail
      go_ret
      exact ⟨_, L, rfl, HR, Nat.le_refl _, HI.out.congr (fun i hi => if_pos hi), bz⟩
/-- the column k from the row k on, as a list -/
theorem list_col {w : World} {B s g cap m n N k : Nat} {l : List Int} (hs : St w B s g cap n l) (hl : l.length = N) (hm : m ≤ 512) (hn : n ≤ 512) (hN : N = m * n) (hk : k < n) (hkm : k ≤ m) :
    Calls Try.prog 31 #[.int .i64 k, .int .i64 m, .func (.func 33) #[(colV s m n k).V] #[]] w (LsP w (m - k) (fun i => fa (D l ((k + i) * n + k)))) := by
  obtain ⟨j, rfl⟩ : ∃ j, m = k + j := ⟨m - k, by omega⟩
  rw [show k + j - k = j by omega]
  refine list_get (colV s (k + j) n k) k j _ (by omega) (by omega) (Lib.hid (fun W hb i hi => ?_))
  have hv : Vk (colV s (k + j) n k) s n l.length 2 := by rw [hl]; exact col_vk hm hn hN hk
  refine (Get_any (hs.on hb) hv ((k + i : Nat) : Int)).mono ?_
  rintro e w1 ⟨rfl, h1⟩
  rw [col_get hk (by omega)]
  obtain ⟨x0, x1⟩ := hs.wd.at_ ((k + i) * n + k)
  exact ⟨(D l ((k + i) * n + k)).toNat, rfl, rfl, by omega, h1⟩
/-- the row k from the column k + 1 on -/
theorem list_row {w : World} {B s g cap m n N k f : Nat} {l : List Int} (hs : St w B s g cap n l) (hl : l.length = N) (hm : m ≤ 512) (hn : n ≤ 512) (hN : N = m * n) (hk : k < m) (hf : k + 1 = f) (hfn : f ≤ n) :
    Calls Try.prog 31 #[.int .i64 f, .int .i64 n, .func (.func 33) #[(rowU s m n k).V] #[]] w (LsP w (n - f) (fun i => fa (D l (k * n + (f + i))))) := by
  obtain ⟨j, rfl⟩ : ∃ j, n = f + j := ⟨n - f, by omega⟩
  rw [show f + j - f = j by omega]
  refine list_get (rowU s m (f + j) k) f j _ (by omega) (by omega) (Lib.hid (fun W hb i hi => ?_))
  have hv : Vk (rowU s m (f + j) k) s (f + j) l.length 2 := by rw [hl]; exact row_vk hm hn hN hk
  refine (Get_any (hs.on hb) hv ((f + i : Nat) : Int)).mono ?_
  rintro e w1 ⟨rfl, h1⟩
  rw [row_get hk (by omega) (by omega)]
  obtain ⟨x0, x1⟩ := hs.wd.at_ (k * (f + j) + (f + i))
  exact ⟨(D l (k * (f + j) + (f + i))).toNat, rfl, rfl, by omega, h1⟩
end Go.Proofs.Ytbaeabmmokgomaa
namespace Go.Proofs.Ytbaeabmmokgomaa
open Go Go.RowKit Go.Bw
set_option linter.unusedVariables false
set_option linter.unusedSimpArgs false
/-- from W to W' only blocks of the tag t change, and none that was there before w -/
def Gr (w : World) (own : Nat → Nat) (t : Nat) (W W' : World) : Prop := ∃ row, W.grownBy W' row ∧ ∀ b, row = some b → own b = t ∧ w.heap.size ≤ b
section
variable {w W W' : World} {own : Nat → Nat} {t i : Nat}
theorem Gr.of {b : Nat} (h : W.grownBy W' (some b)) (hb : own b = t) (hl : w.heap.size ≤ b) : Gr w own t W W' := ⟨some b, h, fun x q => by injection q with q; subst q; exact ⟨hb, hl⟩⟩
theorem Gr.ofA {A : Option Addr} {n c : Nat} (h : W.grownBy W' (Value.slice A n c).ownBlock) (hb : Tg own A t) (hl : ∀ x, A = some x → w.heap.size ≤ x.block) : Gr w own t W W' := ⟨_, h, fun x q => by
  rcases A with _ | y
  · cases q
  · simp [Value.ownBlock] at q
    exact ⟨by rw [← q]; exact hb y rfl, by have := hl y rfl; omega⟩⟩
theorem Gr.size (h : Gr w own t W W') : W.heap.size ≤ W'.heap.size := by obtain ⟨_, h, _⟩ := h; exact h.size
theorem Gr.blk {b : Nat} {vs : List Value} (h : Gr w own t W W') (hB : Blk W b vs) (hi : own b = i) (hn : i ≠ t) : Blk W' b vs := by
  obtain ⟨row, h, hr⟩ := h
  exact Blk.grown hB h (fun q => hn (by rw [← hi, (hr b q.symm).1]))
theorem Gr.ne {A : Option Addr} {row : Option Nat} (hr : ∀ b, row = some b → own b = t ∧ w.heap.size ≤ b) (hA : Tg own A i) (hn : i ≠ t) : ∀ x, A = some x → some x.block ≠ row := fun x hx q => hn (by rw [← hA x hx, (hr _ q.symm).1])
theorem Gr.fl {A : Option Addr} {n c : Nat} {l : List Int} (h : Gr w own t W W') (hB : FL W A n c l) (hi : Tg own A i) (hn : i ≠ t) : FL W' A n c l := by
  obtain ⟨row, h, hr⟩ := h
  exact fl_far9 hB h (Gr.ne hr hi hn)
theorem Gr.ownF {A : Option Addr} {B c : Nat} {l : List Int} (h : Gr w own t W W') (hB : OwnF W B A c l) (hi : Tg own A i) (hn : i ≠ t) : OwnF W' B A c l := by
  obtain ⟨row, h, hr⟩ := h
  exact hB.grown_ h (Gr.ne hr hi hn)
theorem Gr.ownR {A : Option Addr} {B c : Nat} {l : List Re} (h : Gr w own t W W') (hB : OwnR W B A c l) (hi : Tg own A i) (hn : i ≠ t) : OwnR W' B A c l := by
  obtain ⟨row, h, hr⟩ := h
  exact hB.grown_ h (Gr.ne hr hi hn)
theorem Gr.below (h : Gr w own t W W') (hb : Below w.heap.size w W) : Below w.heap.size w W' := by
  obtain ⟨row, h, hr⟩ := h
  exact hb.grown h hb.size (fun b q => (hr b q).2)
theorem Gr.st {B s g cap c : Nat} {l : List Int} (h : Gr w own t W W') (hB : St W B s g cap c l) (h1 : own s = i) (h2 : own g = i) (hn : i ≠ t) : St W' B s g cap c l :=
  ⟨h.blk hB.box h1 hn, h.ownF hB.own (i := i) (fun x q => by injection q with q; subst q; exact h2) hn, hB.ne, hB.wd, hB.lo, hB.len, hB.col⟩
end
theorem St.on9 {w w' : World} {B s g cap c : Nat} {l : List Int} (h : St w B s g cap c l) (hb : Below w.heap.size w w') : St w' B s g cap c l := ⟨h.box.on hb, h.own.below hb, h.ne, h.wd, h.lo, h.len, h.col⟩
/-- the state; t: the tag of what is not held now (99: all is) -/
structure PS (t : Nat) (w W : World) (m n N : Nat) (ba bz bb bs s g cap : Nat) (own : Nat → Nat) (A : Option Addr) (c : Nat) (L : List Int) (vd ve : Value) (Ad Ae Al Ar : Option Addr) (cd ce cl cr : Nat) (d e : List Int) (hs gs : List Re) : Prop where
  oa : 0 ≠ t → FL W A N c L
  la : ∀ x, A = some x → x.block < W.heap.size
  ta : Tg own A 0
  xa : 9 ≠ t → Mbx W ba m n A N c
  xz : 10 ≠ t → Tbx W bz none 0 0 none 0 0
  xb : 11 ≠ t → Blk W bb [vd, ve]
  xs : 12 ≠ t → Vbx W bs (Vu.all s m n)
  ka : own ba = 9
  kz : own bz = 10
  kb : own bb = 11
  ks : own bs = 12
  st : 0 ≠ t → St W w.heap.size s g cap n L
  k0 : own s = 0 ∧ own g = 0
  od : 1 ≠ t → OwnF W w.heap.size Ad cd d
  oe : 2 ≠ t → OwnF W w.heap.size Ae ce e
  ol : 3 ≠ t → OwnR W w.heap.size Al cl hs
  og : 4 ≠ t → OwnR W w.heap.size Ar cr gs
  td : Tg own Ad 1
  te : Tg own Ae 2
  tl : Tg own Al 3
  tr : Tg own Ar 4
  eh : 0 ≠ t → (∀ r ∈ hs, FL W r.A r.l.length r.c r.l)
  fh : ∀ r ∈ hs, r.t ≤ 18446744073709551615 ∧ Tg own r.A 0 ∧ ∀ x, r.A = some x → x.block < W.heap.size
  eg : 0 ≠ t → (∀ r ∈ gs, FL W r.A r.l.length r.c r.l)
  fg : ∀ r ∈ gs, r.t ≤ 18446744073709551615 ∧ Tg own r.A 0 ∧ ∀ x, r.A = some x → x.block < W.heap.size
  lb : ba < W.heap.size ∧ bz < W.heap.size ∧ bb < W.heap.size ∧ bs < W.heap.size ∧ s < W.heap.size ∧ g < W.heap.size
  b0 : w.heap.size ≤ ba ∧ w.heap.size ≤ bz ∧ w.heap.size ≤ bb ∧ w.heap.size ≤ bs
  ld : ∀ x, Ad = some x → w.heap.size ≤ x.block ∧ x.block < W.heap.size
  le : ∀ x, Ae = some x → w.heap.size ≤ x.block ∧ x.block < W.heap.size
  ll : ∀ x, Al = some x → w.heap.size ≤ x.block ∧ x.block < W.heap.size
  lr : ∀ x, Ar = some x → w.heap.size ≤ x.block ∧ x.block < W.heap.size
  bw : Below w.heap.size w W
section
variable {t i : Nat} {w W W' : World} {m n N ba bz bb bs s g cap : Nat} {own : Nat → Nat} {A : Option Addr} {c : Nat} {L : List Int} {vd ve : Value} {Ad Ae Al Ar : Option Addr} {cd ce cl cr : Nat} {d e : List Int} {hs gs : List Re}
theorem PS.on (h : PS t w W m n N ba bz bb bs s g cap own A c L vd ve Ad Ae Al Ar cd ce cl cr d e hs gs) (hb : Below W.heap.size W W') : PS t w W' m n N ba bz bb bs s g cap own A c L vd ve Ad Ae Al Ar cd ce cl cr d e hs gs := ⟨fun q => (h.oa q).on hb, fun x q => Nat.lt_of_lt_of_le (h.la x q) hb.size, h.ta, fun q => Blk.on (h.xa q) hb, fun q => Blk.on (h.xz q) hb, fun q => Blk.on (h.xb q) hb, fun q => Blk.on (h.xs q) hb, h.ka, h.kz, h.kb, h.ks, fun q => (h.st q).on9 hb, h.k0, fun q => (h.od q).on_ hb, fun q => (h.oe q).on_ hb, fun q => (h.ol q).below hb, fun q => (h.og q).below hb, h.td, h.te, h.tl, h.tr, fun q r z => (h.eh q r z).on hb, fun r z => ⟨(h.fh r z).1, (h.fh r z).2.1, fun x y => Nat.lt_of_lt_of_le ((h.fh r z).2.2 x y) hb.size⟩, fun q r z => (h.eg q r z).on hb, fun r z => ⟨(h.fg r z).1, (h.fg r z).2.1, fun x y => Nat.lt_of_lt_of_le ((h.fg r z).2.2 x y) hb.size⟩, ⟨Nat.lt_of_lt_of_le h.lb.1 hb.size, Nat.lt_of_lt_of_le h.lb.2.1 hb.size, Nat.lt_of_lt_of_le h.lb.2.2.1 hb.size, Nat.lt_of_lt_of_le h.lb.2.2.2.1 hb.size, Nat.lt_of_lt_of_le h.lb.2.2.2.2.1 hb.size, Nat.lt_of_lt_of_le h.lb.2.2.2.2.2 hb.size⟩, h.b0, fun x q => ⟨(h.ld x q).1, Nat.lt_of_lt_of_le (h.ld x q).2 hb.size⟩, fun x q => ⟨(h.le x q).1, Nat.lt_of_lt_of_le (h.le x q).2 hb.size⟩, fun x q => ⟨(h.ll x q).1, Nat.lt_of_lt_of_le (h.ll x q).2 hb.size⟩, fun x q => ⟨(h.lr x q).1, Nat.lt_of_lt_of_le (h.lr x q).2 hb.size⟩, h.bw.trans (hb.mono h.bw.size)⟩
theorem PS.drew (h : PS t w W m n N ba bz bb bs s g cap own A c L vd ve Ad Ae Al Ar cd ce cl cr d e hs gs) : PS t w W.drew m n N ba bz bb bs s g cap own A c L vd ve Ad Ae Al Ar cd ce cl cr d e hs gs := h.on ((Below.refl _ _).drew)
theorem PS.alloc (h : PS t w W m n N ba bz bb bs s g cap own A c L vd ve Ad Ae Al Ar cd ce cl cr d e hs gs) (o : Obj) : PS t w (W.alloc o) m n N ba bz bb bs s g cap own A c L vd ve Ad Ae Al Ar cd ce cl cr d e hs gs := h.on ((Below.refl _ W).alloc (Nat.le_refl _) o)
/-- the tags of what is made from here on -/
theorem PS.tags (h : PS t w W m n N ba bz bb bs s g cap own A c L vd ve Ad Ae Al Ar cd ce cl cr d e hs gs) (i : Nat) : PS t w W m n N ba bz bb bs s g cap (tgU own W.heap.size i) A c L vd ve Ad Ae Al Ar cd ce cl cr d e hs gs := ⟨h.oa, h.la, h.ta.up i h.la, h.xa, h.xz, h.xb, h.xs, tgU_lt h.ka h.lb.1, tgU_lt h.kz h.lb.2.1, tgU_lt h.kb h.lb.2.2.1, tgU_lt h.ks h.lb.2.2.2.1, h.st, ⟨tgU_lt h.k0.1 h.lb.2.2.2.2.1, tgU_lt h.k0.2 h.lb.2.2.2.2.2⟩, h.od, h.oe, h.ol, h.og, h.td.up i (fun x q => (h.ld x q).2), h.te.up i (fun x q => (h.le x q).2), h.tl.up i (fun x q => (h.ll x q).2), h.tr.up i (fun x q => (h.lr x q).2), h.eh, fun r z => ⟨(h.fh r z).1, (h.fh r z).2.1.up i (h.fh r z).2.2, (h.fh r z).2.2⟩, h.eg, fun r z => ⟨(h.fg r z).1, (h.fg r z).2.1.up i (h.fg r z).2.2, (h.fg r z).2.2⟩, h.lb, h.b0, h.ld, h.le, h.ll, h.lr, h.bw⟩
/-- blocks of the tag t have changed: all else is held -/
theorem PS.mv (h : PS 99 w W m n N ba bz bb bs s g cap own A c L vd ve Ad Ae Al Ar cd ce cl cr d e hs gs) (hG : Gr w own t W W') : PS t w W' m n N ba bz bb bs s g cap own A c L vd ve Ad Ae Al Ar cd ce cl cr d e hs gs := ⟨fun q => hG.fl (h.oa (by decide)) h.ta q, fun x q => Nat.lt_of_lt_of_le (h.la x q) hG.size, h.ta, fun q => hG.blk (h.xa (by decide)) h.ka q, fun q => hG.blk (h.xz (by decide)) h.kz q, fun q => hG.blk (h.xb (by decide)) h.kb q, fun q => hG.blk (h.xs (by decide)) h.ks q, h.ka, h.kz, h.kb, h.ks, fun q => hG.st (h.st (by decide)) h.k0.1 h.k0.2 q, h.k0, fun q => hG.ownF (h.od (by decide)) h.td q, fun q => hG.ownF (h.oe (by decide)) h.te q, fun q => hG.ownR (h.ol (by decide)) h.tl q, fun q => hG.ownR (h.og (by decide)) h.tr q, h.td, h.te, h.tl, h.tr, fun q r z => hG.fl (h.eh (by decide) r z) (h.fh r z).2.1 q, fun r z => ⟨(h.fh r z).1, (h.fh r z).2.1, fun x y => Nat.lt_of_lt_of_le ((h.fh r z).2.2 x y) hG.size⟩, fun q r z => hG.fl (h.eg (by decide) r z) (h.fg r z).2.1 q, fun r z => ⟨(h.fg r z).1, (h.fg r z).2.1, fun x y => Nat.lt_of_lt_of_le ((h.fg r z).2.2 x y) hG.size⟩, ⟨Nat.lt_of_lt_of_le h.lb.1 hG.size, Nat.lt_of_lt_of_le h.lb.2.1 hG.size, Nat.lt_of_lt_of_le h.lb.2.2.1 hG.size, Nat.lt_of_lt_of_le h.lb.2.2.2.1 hG.size, Nat.lt_of_lt_of_le h.lb.2.2.2.2.1 hG.size, Nat.lt_of_lt_of_le h.lb.2.2.2.2.2 hG.size⟩, h.b0, fun x q => ⟨(h.ld x q).1, Nat.lt_of_lt_of_le (h.ld x q).2 hG.size⟩, fun x q => ⟨(h.le x q).1, Nat.lt_of_lt_of_le (h.le x q).2 hG.size⟩, fun x q => ⟨(h.ll x q).1, Nat.lt_of_lt_of_le (h.ll x q).2 hG.size⟩, fun x q => ⟨(h.lr x q).1, Nat.lt_of_lt_of_le (h.lr x q).2 hG.size⟩, hG.below h.bw⟩
theorem PS.fillD (h : PS 1 w W m n N ba bz bb bs s g cap own A c L vd ve Ad Ae Al Ar cd ce cl cr d e hs gs) {A2 : Option Addr} {c2 : Nat} {d2 : List Int} (hr : OwnF W w.heap.size A2 c2 d2) (hT : Tg own A2 1) : PS 99 w W m n N ba bz bb bs s g cap own A c L vd ve A2 Ae Al Ar c2 ce cl cr d2 e hs gs := ⟨fun _ => h.oa (by decide), h.la, h.ta, fun _ => h.xa (by decide), fun _ => h.xz (by decide), fun _ => h.xb (by decide), fun _ => h.xs (by decide), h.ka, h.kz, h.kb, h.ks, fun _ => h.st (by decide), h.k0, fun _ => hr, fun _ => h.oe (by decide), fun _ => h.ol (by decide), fun _ => h.og (by decide), hT, h.te, h.tl, h.tr, fun _ => h.eh (by decide), h.fh, fun _ => h.eg (by decide), h.fg, h.lb, h.b0, fun x q => hr.gt q, h.le, h.ll, h.lr, h.bw⟩
theorem PS.fillE (h : PS 2 w W m n N ba bz bb bs s g cap own A c L vd ve Ad Ae Al Ar cd ce cl cr d e hs gs) {A2 : Option Addr} {c2 : Nat} {d2 : List Int} (hr : OwnF W w.heap.size A2 c2 d2) (hT : Tg own A2 2) : PS 99 w W m n N ba bz bb bs s g cap own A c L vd ve Ad A2 Al Ar cd c2 cl cr d d2 hs gs := ⟨fun _ => h.oa (by decide), h.la, h.ta, fun _ => h.xa (by decide), fun _ => h.xz (by decide), fun _ => h.xb (by decide), fun _ => h.xs (by decide), h.ka, h.kz, h.kb, h.ks, fun _ => h.st (by decide), h.k0, fun _ => h.od (by decide), fun _ => hr, fun _ => h.ol (by decide), fun _ => h.og (by decide), h.td, hT, h.tl, h.tr, fun _ => h.eh (by decide), h.fh, fun _ => h.eg (by decide), h.fg, h.lb, h.b0, h.ld, fun x q => hr.gt q, h.ll, h.lr, h.bw⟩
theorem PS.fillL (h : PS 3 w W m n N ba bz bb bs s g cap own A c L vd ve Ad Ae Al Ar cd ce cl cr d e hs gs) {A2 : Option Addr} {c2 : Nat} {r : Re} (hr : OwnR W w.heap.size A2 c2 (hs ++ [r])) (hT : Tg own A2 3) (hf : FL W r.A r.l.length r.c r.l) (ht : r.t ≤ 18446744073709551615) (h0 : Tg own r.A 0) (hl : ∀ x, r.A = some x → x.block < W.heap.size) : PS 99 w W m n N ba bz bb bs s g cap own A c L vd ve Ad Ae A2 Ar cd ce c2 cr d e (hs ++ [r]) gs := ⟨fun _ => h.oa (by decide), h.la, h.ta, fun _ => h.xa (by decide), fun _ => h.xz (by decide), fun _ => h.xb (by decide), fun _ => h.xs (by decide), h.ka, h.kz, h.kb, h.ks, fun _ => h.st (by decide), h.k0, fun _ => h.od (by decide), fun _ => h.oe (by decide), fun _ => hr, fun _ => h.og (by decide), h.td, h.te, hT, h.tr, fun _ q0 hq => (List.mem_append.1 hq).elim (fun q1 => h.eh (by decide) q0 q1) (fun q1 => by rw [List.mem_singleton.1 q1]; exact hf), fun q0 hq => (List.mem_append.1 hq).elim (fun q1 => h.fh q0 q1) (fun q1 => by rw [List.mem_singleton.1 q1]; exact ⟨ht, h0, hl⟩), fun _ => h.eg (by decide), h.fg, h.lb, h.b0, h.ld, h.le, fun x q => hr.gt q, h.lr, h.bw⟩
theorem PS.fillR (h : PS 4 w W m n N ba bz bb bs s g cap own A c L vd ve Ad Ae Al Ar cd ce cl cr d e hs gs) {A2 : Option Addr} {c2 : Nat} {r : Re} (hr : OwnR W w.heap.size A2 c2 (gs ++ [r])) (hT : Tg own A2 4) (hf : FL W r.A r.l.length r.c r.l) (ht : r.t ≤ 18446744073709551615) (h0 : Tg own r.A 0) (hl : ∀ x, r.A = some x → x.block < W.heap.size) : PS 99 w W m n N ba bz bb bs s g cap own A c L vd ve Ad Ae Al A2 cd ce cl c2 d e hs (gs ++ [r]) := ⟨fun _ => h.oa (by decide), h.la, h.ta, fun _ => h.xa (by decide), fun _ => h.xz (by decide), fun _ => h.xb (by decide), fun _ => h.xs (by decide), h.ka, h.kz, h.kb, h.ks, fun _ => h.st (by decide), h.k0, fun _ => h.od (by decide), fun _ => h.oe (by decide), fun _ => h.ol (by decide), fun _ => hr, h.td, h.te, h.tl, hT, fun _ => h.eh (by decide), h.fh, fun _ q0 hq => (List.mem_append.1 hq).elim (fun q1 => h.eg (by decide) q0 q1) (fun q1 => by rw [List.mem_singleton.1 q1]; exact hf), fun q0 hq => (List.mem_append.1 hq).elim (fun q1 => h.fg q0 q1) (fun q1 => by rw [List.mem_singleton.1 q1]; exact ⟨ht, h0, hl⟩), h.lb, h.b0, h.ld, h.le, h.ll, fun x q => hr.gt q, h.bw⟩
theorem PS.fillB (h : PS 11 w W m n N ba bz bb bs s g cap own A c L vd ve Ad Ae Al Ar cd ce cl cr d e hs gs) {ud ue : Value} (hx : Blk W bb [ud, ue]) : PS 99 w W m n N ba bz bb bs s g cap own A c L ud ue Ad Ae Al Ar cd ce cl cr d e hs gs := ⟨fun _ => h.oa (by decide), h.la, h.ta, fun _ => h.xa (by decide), fun _ => h.xz (by decide), fun _ => hx, fun _ => h.xs (by decide), h.ka, h.kz, h.kb, h.ks, fun _ => h.st (by decide), h.k0, fun _ => h.od (by decide), fun _ => h.oe (by decide), fun _ => h.ol (by decide), fun _ => h.og (by decide), h.td, h.te, h.tl, h.tr, fun _ => h.eh (by decide), h.fh, fun _ => h.eg (by decide), h.fg, h.lb, h.b0, h.ld, h.le, h.ll, h.lr, h.bw⟩
theorem PS.fillA (h : PS 9 w W m n N ba bz bb bs s g cap own A c L vd ve Ad Ae Al Ar cd ce cl cr d e hs gs) {A2 : Option Addr} {c2 : Nat} (hx : Mbx W ba m n A2 N c2) (hf : FL W A2 N c2 L) (hT : Tg own A2 0) (hl : ∀ x, A2 = some x → x.block < W.heap.size) : PS 99 w W m n N ba bz bb bs s g cap own A2 c2 L vd ve Ad Ae Al Ar cd ce cl cr d e hs gs := ⟨fun _ => hf, hl, hT, fun _ => hx, fun _ => h.xz (by decide), fun _ => h.xb (by decide), fun _ => h.xs (by decide), h.ka, h.kz, h.kb, h.ks, fun _ => h.st (by decide), h.k0, fun _ => h.od (by decide), fun _ => h.oe (by decide), fun _ => h.ol (by decide), fun _ => h.og (by decide), h.td, h.te, h.tl, h.tr, fun _ => h.eh (by decide), h.fh, fun _ => h.eg (by decide), h.fg, h.lb, h.b0, h.ld, h.le, h.ll, h.lr, h.bw⟩
/-- another matrix and its view, in new memory, both boxes written -/
theorem PS.put (h : PS 99 w W m n N ba bz bb bs s g cap own A c L vd ve Ad Ae Al Ar cd ce cl cr d e hs gs) {Wm W8 : World} {A2 : Option Addr} {c2 hr : Nat} {L2 : List Int} {s2 g2 cap2 : Nat} (h1 : W.grownBy Wm (some ba)) (h2 : Wm.grownBy W8 (some bs)) (h3 : W8.grownBy W' (some hr)) (hhr : W.heap.size ≤ hr) (hx : Mbx W' ba m n A2 N c2) (hy : Vbx W' bs (Vu.all s2 m n)) (hf : FL W' A2 N c2 L2)
    (hl : ∀ x, A2 = some x → W.heap.size ≤ x.block ∧ x.block < W'.heap.size) (hs2 : St W' W.heap.size s2 g2 cap2 n L2) :
    PS 99 w W' m n N ba bz bb bs s2 g2 cap2 (tgU own W.heap.size 0) A2 c2 L2 vd ve Ad Ae Al Ar cd ce cl cr d e hs gs := by
  have hg2 : W.heap.size ≤ g2 ∧ g2 < W'.heap.size := hs2.own.gt rfl
  have k2 : W.heap.size ≤ s2 ∧ s2 < W'.heap.size := ⟨hs2.lo, Blk.lt hs2.box⟩
  have tn : ∀ i b, W.heap.size ≤ b → tgU own W.heap.size i b = i := fun i b q => by unfold tgU; rw [if_neg (by omega)]
  have p := h.tags 0
  have p13 := h.tags 13
  have g1 : Gr w (tgU own W.heap.size 13) 9 W Wm := Gr.of h1 p13.ka h.b0.1
  have p1 := p13.mv g1
  have g3 : Gr w (tgU own W.heap.size 13) 12 Wm W8 := Gr.of h2 p13.ks h.b0.2.2.2
  have g4 : Gr w (tgU own W.heap.size 13) 13 W8 W' := Gr.of h3 (tn 13 hr hhr) (Nat.le_trans h.bw.size hhr)
  have z1 := h1.size
  have z2 := h2.size
  have z3 := h3.size
  exact ⟨fun _ => hf, fun x q => (hl x q).2, tgU_new (fun x q => (hl x q).1), fun _ => hx, fun _ => g4.blk (g3.blk (p1.xz (by decide)) p1.kz (by decide)) p1.kz (by decide), fun _ => g4.blk (g3.blk (p1.xb (by decide)) p1.kb (by decide)) p1.kb (by decide), fun _ => hy, p.ka, p.kz, p.kb, p.ks, fun _ => ⟨hs2.box, hs2.own.less h.bw.size, hs2.ne, hs2.wd, Nat.le_trans h.bw.size hs2.lo, hs2.len, hs2.col⟩, ⟨tn 0 _ k2.1, tn 0 _ hg2.1⟩, fun _ => g4.ownF (g3.ownF (p1.od (by decide)) p1.td (by decide)) p1.td (by decide), fun _ => g4.ownF (g3.ownF (p1.oe (by decide)) p1.te (by decide)) p1.te (by decide), fun _ => g4.ownR (g3.ownR (p1.ol (by decide)) p1.tl (by decide)) p1.tl (by decide), fun _ => g4.ownR (g3.ownR (p1.og (by decide)) p1.tr (by decide)) p1.tr (by decide), p.td, p.te, p.tl, p.tr, fun _ r z => g4.fl (g3.fl (p1.eh (by decide) r z) (p1.fh r z).2.1 (by decide)) (p1.fh r z).2.1 (by decide), fun r z => ⟨(p.fh r z).1, (p.fh r z).2.1, fun x y => Nat.lt_of_lt_of_le (Nat.lt_of_lt_of_le ((p1.fh r z).2.2 x y) z2) z3⟩, fun _ r z => g4.fl (g3.fl (p1.eg (by decide) r z) (p1.fg r z).2.1 (by decide)) (p1.fg r z).2.1 (by decide), fun r z => ⟨(p.fg r z).1, (p.fg r z).2.1, fun x y => Nat.lt_of_lt_of_le (Nat.lt_of_lt_of_le ((p1.fg r z).2.2 x y) z2) z3⟩, ⟨by have := p1.lb.1; omega, by have := p1.lb.2.1; omega, by have := p1.lb.2.2.1; omega, by have := p1.lb.2.2.2.1; omega, k2.2, hg2.2⟩, h.b0, fun x q => ⟨(h.ld x q).1, Nat.lt_of_lt_of_le (Nat.lt_of_lt_of_le (p1.ld x q).2 z2) z3⟩, fun x q => ⟨(h.le x q).1, Nat.lt_of_lt_of_le (Nat.lt_of_lt_of_le (p1.le x q).2 z2) z3⟩, fun x q => ⟨(h.ll x q).1, Nat.lt_of_lt_of_le (Nat.lt_of_lt_of_le (p1.ll x q).2 z2) z3⟩, fun x q => ⟨(h.lr x q).1, Nat.lt_of_lt_of_le (Nat.lt_of_lt_of_le (p1.lr x q).2 z2) z3⟩, g4.below (g3.below p1.bw)⟩
end
end Go.Proofs.Ytbaeabmmokgomaa
