/-
  Layer 9, plain mathematics: the law of nearness, of words.
-/
import Derived.Test.YtcdbjlmegkcaiaaGreatDoorYRpE
import Derived.Test.YtcdbjlmegkcaiaaGreatDoorYRfH
namespace Go.Proofs.YtcdbjlmegkcaiaaGreatDoor
open Go Go.Bw Go.Rt
set_option linter.unusedVariables false
set_option linter.unusedSimpArgs false
/-- a finite float of some value -/
def Sv (o : Option Nat) (v : Rat) : Prop := ∃ y, o = some y ∧ finN y ∧ y ≤ 18446744073709551615 ∧ rv y = v
def val9 (o : Option Nat) : Rat := match o with | some y => rv y | none => 0
section
variable {o p : Option Nat} {s t : Bool} {x y : Rat} {e : Nat}
theorem Sv.val (h : Sv o x) : val9 o = x := by
  obtain ⟨y, rfl, _, _, h⟩ := h
  exact h
theorem Wv.sv (h : Wv o s x) : Sv o (sg s x) := by
  obtain ⟨y, rfl, h1, h2, h3, rfl⟩ := h
  exact ⟨y, rfl, h1, h2, rv_is h3⟩
theorem sg_inj0 {a b : Bool} {x y : Rat} (x0 : 0 ≤ x) (y0 : 0 ≤ y) (h : sg a x = sg b y) : x = y ∧ (x = 0 ∨ a = b) := by
  unfold sg at h
  cases a <;> cases b <;> simp at h <;> (constructor <;> grind)
theorem Sv.form (h : Sv o (sg s x)) (x0 : 0 ≤ x) : ∃ a, o = some a ∧ finN a ∧ a ≤ 18446744073709551615 ∧ fvm a = x ∧ rv a = sg s x ∧ (x = 0 ∨ sb a = s) := by
  obtain ⟨a, rfl, h1, h2, h3⟩ := h
  have q := sg_inj0 (fvm_nonneg a) x0 (show sg (sb a) (fvm a) = sg s x from h3)
  exact ⟨a, rfl, h1, h2, q.1, h3, by rw [← q.1]; exact q.2⟩
theorem Sv.mag (h : Sv o (sg s x)) (x0 : 0 ≤ x) : mag9 o = x := by
  obtain ⟨a, rfl, _, _, h, _⟩ := h.form x0
  exact h
theorem Sv.mul (h : Sv o (sg s x)) (k : Sv p (sg t y)) (x0 : 0 ≤ x) (y0 : 0 ≤ y) (hr : Rz e (x * y)) (he : e ≤ 960) : ∃ z, Sv (aop .mul o p) (sg (s ^^ t) z) ∧ 0 ≤ z ∧ Rel 1 z (x * y) ∧ Rz (e + 1) z := by
  obtain ⟨a, rfl, a1, a2, a3, a4, a5⟩ := h.form x0
  obtain ⟨b, rfl, b1, b2, b3, b4, b5⟩ := k.form y0
  obtain ⟨z, z1, z2, z3⟩ := Wv.mul (show Wv (some a) (sb a) x from ⟨a, rfl, a1, a2, rfl, a3⟩) (show Wv (some b) (sb b) y from ⟨b, rfl, b1, b2, rfl, b3⟩) hr he
  have z0 := z1.nonneg
  refine ⟨z, ?_, z0, z2, z3⟩
  have q := z1.sv
  rcases a5 with a5 | a5
  · have : z = 0 := z2.zero (by rw [a5]; grind) z0
    subst this
    rw [sg_zero] at q ⊢
    exact q
  · rcases b5 with b5 | b5
    · have : z = 0 := z2.zero (by rw [b5]; grind) z0
      subst this
      rw [sg_zero] at q ⊢
      exact q
    · rw [a5, b5] at q
      exact q
theorem sg_add (s : Bool) (x y : Rat) : sg s x + sg s y = sg s (x + y) := by unfold sg; cases s <;> simp; grind
theorem sg_sub (s : Bool) (x y : Rat) : sg s x - sg s y = sg s (x - y) := by unfold sg; cases s <;> simp <;> grind
theorem Sv.add (h : Sv o (sg s x)) (k : Sv p (sg s y)) (x0 : 0 ≤ x) (y0 : 0 ≤ y) (hr : Rz e (x + y)) (he : e ≤ 960) : ∃ z, Sv (aop .add o p) (sg s z) ∧ 0 ≤ z ∧ Rel 1 z (x + y) ∧ Rz (e + 1) z := by
  obtain ⟨a, rfl, a1, a2, a4⟩ := h
  obtain ⟨b, rfl, b1, b2, b4⟩ := k
  obtain ⟨l1, l2⟩ := hr.lw he
  have ev : rv a + rv b = sg s (x + y) := by rw [a4, b4, sg_add]
  have tp := two_pos 1023
  obtain ⟨r, h1, h2, h3, h4, h5⟩ := add_nr a1 b1 (by rw [ev]; unfold sg; split <;> grind) (by rw [ev]; unfold sg; split <;> grind)
  rw [ev] at h5
  have h7 := Nr_sg h5 s
  rw [sg_sg] at h7
  obtain ⟨n1, n2⟩ := Nr_rel h7 l1
  exact ⟨sg s (rv r), ⟨r, h1, h2, h3, by rw [sg_sg]⟩, n1, n2, hr.rel n2 (by omega) n1⟩
theorem Sv.sub (h : Sv o (sg s x)) (k : Sv p (sg s y)) (x0 : 0 ≤ x) (y0 : 0 ≤ y) (hx : x ≤ 2 ^ 960) (hy : y ≤ 2 ^ 960) : ∃ d, Sv (aop .sub o p) (sg s d) ∧ Nr d (x - y) := by
  obtain ⟨a, rfl, a1, a2, a4⟩ := h
  obtain ⟨b, rfl, b1, b2, b4⟩ := k
  have ev : rv a - rv b = sg s (x - y) := by rw [a4, b4, sg_sub]
  have tp := top_lt
  obtain ⟨r, h1, h2, h3, h4, h5⟩ := sub_nr a1 b1 (by rw [ev]; unfold sg; split <;> grind) (by rw [ev]; unfold sg; split <;> grind)
  rw [ev] at h5
  have h7 := Nr_sg h5 s
  rw [sg_sg] at h7
  exact ⟨sg s (rv r), ⟨r, h1, h2, h3, by rw [sg_sg]⟩, h7⟩
theorem Sv.zero (s : Bool) : Sv (some 0) (sg s 0) := by
  rw [sg_zero]
  have := Wv.zero.sv
  rw [sg_zero] at this
  exact this
/-- a sum of some of one sign -/
theorem sumA_val {f : Nat → Option Nat} {q y : Nat → Rat} (s : Bool) (E : Nat) : ∀ n, n ≤ 16 → E ≤ 900 → (∀ i, i < n → Sv (f i) (sg s (q i)) ∧ 0 ≤ q i ∧ 0 ≤ y i ∧ Rel 1 (q i) (y i) ∧ Rz E (q i)) →
    ∃ z, Sv (sumA f n) (sg s z) ∧ 0 ≤ z ∧ Rel (n + 1) z (sumR y n) ∧ Rz (E + 2 * n) z := by
  intro n
  induction n with
  | zero => exact fun _ _ _ => ⟨0, Sv.zero s, Rat.le_refl, (Rel.refl 0).mono (by omega) Rat.le_refl Rat.le_refl, .inl rfl⟩
  | succ n ih =>
    intro hn hE h
    obtain ⟨z, z1, z2, z3, z4⟩ := ih (by omega) hE (fun i hi => h i (by omega))
    obtain ⟨a1, a2, a3, a4, a5⟩ := h n (by omega)
    obtain ⟨w, w1, w2, w3, w4⟩ := z1.add a1 z2 a2 (Rz.add z4 (a5.mono (show E ≤ E + 2 * n by omega))) (by omega)
    have y0 := sumR_nonneg (f := y) (n := n) (fun i hi => (h i (by omega)).2.2.1)
    refine ⟨w, w1, w2, ?_, w4.mono (by omega)⟩
    have b := z3.add (a4.mono (show 1 ≤ n + 1 by omega) a2 a3)
    exact (w3.trans b).mono (by omega) w2 (by show 0 ≤ sumR y n + y n; grind)
end
section
variable {l v : List Int} {n : Nat}
/-- what a reflection of some floats does to them -/
theorem MkF.turned (h : Tame l n) (n2 : 2 ≤ n) (n16 : n ≤ 16) (p : MkF l n) (hv : ∀ i, i < n → fa (GD v i) = mkV l i) :
    ∃ A0 : Rat, ∃ A : Nat → Rat, Sv (lnF v (fun i => fa (GD l i)) (mkT l) n 0) (sg (xs l 0) (-A0)) ∧ (∀ i, i < n - 1 → Sv (lnF v (fun i => fa (GD l i)) (mkT l) n (i + 1)) (sg (xs l (i + 1)) (A i))) ∧
      (zH l - A0) * (zH l - A0) + sumR (fun i => A i * A i) (n - 1) ≤ (64 * (n : Rat) * (1/9007199254740992)) * (64 * (n : Rat) * (1/9007199254740992)) * (xm l 0 * xm l 0 + sumR (fun i => xm l (i + 1) * xm l (i + 1)) (n - 1)) := by
  have P := p.parts h
  have v0 : fa (GD v 0) = some 4607182418800017408 := hv 0 (by omega)
  have x := fun i hi => (h.wv (i := i) hi).sv
  have x0 := fun i => fvm_nonneg (GD l i).toNat
  -- the terms
  have terms : ∀ i, i < n → ∃ q, Sv (aop .mul (fa (GD v i)) (fa (GD l i))) (sg (xs l 0) q) ∧ 0 ≤ q ∧ 0 ≤ (if i = 0 then xm l 0 else zV l i * xm l i) ∧ Rel 1 q (if i = 0 then xm l 0 else zV l i * xm l i) ∧ Rz 352 q := fun i hi => by
    rcases i with _ | i
    · obtain ⟨q, q1, q2, q3, q4⟩ := Wv.one.sv.mul (x 0 hi) (by decide) (x0 0) (e := 100) (by rw [Rat.one_mul]; exact h.rg 0 hi) (by omega)
      rw [v0, if_pos rfl]
      rw [Rat.one_mul] at q3
      rw [Bool.false_xor] at q1
      exact ⟨q, q1, q2, x0 0, q3, q4.mono (by omega)⟩
    · have hV := p.V i (by omega)
      obtain ⟨q, q1, q2, q3, q4⟩ := hV.sv.mul (x (i + 1) hi) hV.nonneg (x0 (i + 1)) ((p.VR i (by omega)).mul (h.rg (i + 1) hi)) (by omega)
      rw [hv _ hi, if_neg (by omega)]
      rw [Bool.xor_comm (xs l (i + 1)) (xs l 0), Bool.xor_assoc, Bool.xor_self, Bool.xor_false] at q1
      exact ⟨q, q1, q2, Rat.mul_nonneg hV.nonneg (x0 (i + 1)), q3, q4.mono (by omega)⟩
  obtain ⟨C, C1, C0, C2, C3⟩ := sumA_val (f := fun i => aop .mul (fa (GD v i)) (fa (GD l i))) (q := fun i => mag9 (aop .mul (fa (GD v i)) (fa (GD l i)))) (y := fun i => if i = 0 then xm l 0 else zV l i * xm l i) (xs l 0) 352 n n16 (by omega) (fun i hi => by
    obtain ⟨q, q1, q2, q3, q4, q5⟩ := terms i hi
    simp only [q1.mag q2]
    exact ⟨q1, q2, q3, q4, q5⟩)
  have C4 : Rel (n + 2) C (xm l 0 + sumR (fun i => zV l (i + 1) * xm l (i + 1)) (n - 1)) := by
    have e : sumR (fun i => if i = 0 then xm l 0 else zV l i * xm l i) n = xm l 0 + sumR (fun i => zV l (i + 1) * xm l (i + 1)) (n - 1) := by
      rw [show n = n - 1 + 1 by omega, sumR_front]
      rw [if_pos rfl, show n - 1 + 1 - 1 = n - 1 by omega]
      congr 1
    rw [e] at C2
    exact C2.mono (by omega) C0 (by have := sumR_nonneg (f := fun i => zV l (i + 1) * xm l (i + 1)) (n := n - 1) (fun i hi => Rat.mul_nonneg (p.V i hi).nonneg (x0 _)); have := x0 0; grind)
  -- w
  obtain ⟨W, W1, W0, W2, W3⟩ := p.T.sv.mul C1 p.T.nonneg C0 (Rz.mul (.inr p.TR) (C3.mono (show 352 + 2 * n ≤ 384 by omega))) (by omega)
  rw [Bool.false_xor] at W1
  have hW : Sv (lnW v (fun i => fa (GD l i)) (mkT l) n) (sg (xs l 0) W) := W1
  have W3 := W3.mono (show _ ≤ 685 by omega)
  -- the first
  obtain ⟨Y, Y1, Y0, Y2, Y3⟩ := Wv.one.sv.mul hW (by decide) W0 (e := 685) (by rw [Rat.one_mul]; exact W3) (by omega)
  rw [Bool.false_xor] at Y1
  rw [Rat.one_mul] at Y2
  have le960 : ∀ {e a}, Rz e a → e ≤ 960 → a ≤ 2 ^ 960 := fun h he => (h.mono he).le
  obtain ⟨d, d1, d2⟩ := (x 0 (by omega)).sub Y1 (x0 0) Y0 (le960 (h.rg 0 (by omega)) (by omega)) (le960 Y3 (by omega))
  have F0 : Sv (lnF v (fun i => fa (GD l i)) (mkT l) n 0) (sg (xs l 0) d) := by
    unfold lnF
    rw [v0]
    exact d1
  -- the others
  have others : ∀ i, i < n - 1 → ∃ m d, Sv (aop .mul (fa (GD v (i + 1))) (lnW v (fun i => fa (GD l i)) (mkT l) n)) (sg (xs l (i + 1)) m) ∧ 0 ≤ m ∧ Rel 1 m (zV l (i + 1) * W) ∧ Sv (lnF v (fun i => fa (GD l i)) (mkT l) n (i + 1)) (sg (xs l (i + 1)) d) ∧ Nr d (xm l (i + 1) - m) := fun i hi => by
    have hV := p.V i hi
    obtain ⟨m, m1, m0, m2, m3⟩ := hV.sv.mul hW hV.nonneg W0 ((p.VR i hi).mul W3) (by omega)
    rw [Bool.xor_assoc, Bool.xor_self, Bool.xor_false] at m1
    obtain ⟨d, e1, e2⟩ := (x (i + 1) (by omega)).sub m1 (x0 _) m0 (le960 (h.rg _ (by omega)) (by omega)) (le960 m3 (by omega))
    rw [← hv (i + 1) (by omega)] at m1 e1
    exact ⟨m, d, m1, m0, m2, e1, e2⟩
  have tinyX : ∀ {e a}, Rg e a → e ≤ 860 → ty ≤ a * (1/1267650600228229401496703205376) := fun {e a} h he => by
    have h := h.mono he
    have t : ty * 2 ^ 860 ≤ 1/1267650600228229401496703205376 := by unfold ty; decide +kernel
    refine Rat.le_of_mul_le_mul_right (c := 2 ^ 860) ?_ (p2_pos 860)
    have := h.1
    grind
  have T : Turned n (zH l) (xm l 0) (sumR (fun i => xm l (i + 1) * xm l (i + 1)) (n - 1)) (zT l) (zQ l) (fun i => zV l (i + 1)) (fun i => xm l (i + 1)) C W Y (-d)
      (fun i => mag9 (aop .mul (fa (GD v (i + 1))) (lnW v (fun i => fa (GD l i)) (mkT l) n))) (fun i => sg (xs l (i + 1)) (val9 (lnF v (fun i => fa (GD l i)) (mkT l) n (i + 1)))) :=
    { P with
      C0 := C0
      W0 := W0
      W10 := Y0
      Cr := C4
      Wr := W2
      W1r := Y2
      A0n := by
        have := Nr_neg d2
        rw [show -(xm l 0 - Y) = Y - xm l 0 by grind] at this
        exact this
      M0 := fun i hi => by
        obtain ⟨m, d, a1, a2, a3, a4, a5⟩ := others i hi
        simp only [a1.mag a2]
        exact a2
      Mr := fun i hi => by
        obtain ⟨m, d, a1, a2, a3, a4, a5⟩ := others i hi
        simp only [a1.mag a2]
        exact a3
      An := fun i hi => by
        obtain ⟨m, d, a1, a2, a3, a4, a5⟩ := others i hi
        simp only [a1.mag a2, a4.val, sg_sg]
        exact a5
      hty := tinyX p.H (by omega)
      Xty := fun i hi => (h.rg (i + 1) (by omega)).imp id (fun q => tinyX q (by omega)) }
  refine ⟨-d, _, by rw [show - -d = d by grind]; exact F0, fun i hi => ?_, T.far n2 n16⟩
  obtain ⟨m, d, a1, a2, a3, a4, a5⟩ := others i hi
  simp only [a4.val, sg_sg]
  exact a4
end
end Go.Proofs.YtcdbjlmegkcaiaaGreatDoor
namespace Go.Proofs.YtcdbjlmegkcaiaaGreatDoor
open Go Go.Bw Go.Rt
set_option linter.unusedVariables false
set_option linter.unusedSimpArgs false
theorem fa_fin {x : Int} {o : Option Nat} {v : Rat} (h : fa x = o) (hs : Sv o v) : finN x.toNat ∧ rv x.toNat = v := by
  obtain ⟨y, rfl, h1, h2, h3⟩ := hs
  have e : x.toNat = y := by
    unfold fa af at h
    split at h
    · cases h
    · injection h
  rw [e]
  exact ⟨h1, h3⟩
theorem af_fin {x : Nat} {o : Option Nat} {v : Rat} (h : af x = o) (hs : Sv o v) : finN x ∧ rv x = v := by
  have := fa_fin (x := (x : Int)) (by rw [fa_nat]; exact h) hs
  rwa [Int.toNat_natCast] at this
theorem sg_sq (s : Bool) (x : Rat) : sg s x * sg s x = x * x := by unfold sg; cases s <;> simp <;> grind
theorem rv_sq (y : Nat) : rv y * rv y = fvm y * fvm y := sg_sq _ _
/-- the bound -/
def bnd (n : Nat) : Rat := (64 * (n : Rat) * (1/9007199254740992)) * (64 * (n : Rat) * (1/9007199254740992))
theorem bnd_nonneg (n : Nat) : 0 ≤ bnd n := by
  have : (0 : Rat) ≤ (n : Rat) := by exact_mod_cast Nat.zero_le n
  have h : 0 ≤ 64 * (n : Rat) * (1/9007199254740992) := by grind
  exact Rat.mul_nonneg h h
/-- what the law asks -/
structure NearL (l v L : List Int) (n t b : Nat) : Prop where
  ft : finN t
  fb : finN b
  fv : ∀ i, i < n → finN (GD v i).toNat
  fL : ∀ i, i < n → finN (GD L i).toNat
  far : (rv (GD L 0).toNat - rv b) * (rv (GD L 0).toNat - rv b) + sumR (fun i => rv (GD L (i + 1)).toNat * rv (GD L (i + 1)).toNat) (n - 1) ≤ bnd n * sumR (fun i => rv (GD l i).toNat * rv (GD l i).toNat) n
  unit : ∀ s, s = sumR (fun i => rv (GD v i).toNat * rv (GD v i).toNat) n → (((rv t * s - 2) * rv t) * s) * (((rv t * s - 2) * rv t) * s) ≤ bnd n
theorem near_law {l v L : List Int} {n t b : Nat} (h : Tame l n) (n1 : 1 ≤ n) (n16 : n ≤ 16) (hv : Is v n (mkV l)) (ht : af t = mkT l) (hb : af b = mkB l)
    (hL : Is L n (tg (lP (eqA (af t) (some 0)) 0 n 0 1) (lF l v 1 0 n (af t)) l 1)) : NearL l v L n t b := by
  have hL2 : ∀ i, i < n → fa (GD L i) = if eqA (mkT l) (some 0) = true then fa (GD l i) else lnF v (fun i => fa (GD l i)) (mkT l) n i := fun i hi => by
    have q := hL.at_ i hi
    rw [ht] at q
    unfold tg lP lF at q
    rw [Nat.div_one, Nat.mod_one] at q
    rw [q]
    cases eqA (mkT l) (some 0)
    · rw [if_pos (by simp; omega), if_neg (by decide)]
      unfold ma
      simp only [Nat.zero_add, Nat.mul_one, Nat.add_zero, Nat.sub_zero]
    · rw [if_neg (by simp), if_pos rfl]
  have hv2 : ∀ i, i < n → fa (GD v i) = mkV l i := hv.at_
  have S0 : sumR (fun i => rv (GD l i).toNat * rv (GD l i).toNat) n = xm l 0 * xm l 0 + sumR (fun i => xm l (i + 1) * xm l (i + 1)) (n - 1) := by
    rw [show n = n - 1 + 1 by omega, sumR_front, show n - 1 + 1 - 1 = n - 1 by omega, rv_sq]
    congr 1
    exact sumR_congr (fun i hi => rv_sq _)
  by_cases h0 : zN l = 0
  · have hz : mkZ l = true := by rw [h.mkZ n1 n16, decide_eq_true h0]
    have hx : ∀ i, i < n - 1 → xm l (i + 1) = 0 := by
      rcases (h.nrm n1 n16).2 with q | q
      · exact q.2
      · exfalso
        have := q.2.1.pos
        grind
    have eT : mkT l = some 0 := by unfold mkT; rw [hz, if_pos rfl]
    have eB : mkB l = fa (GD l 0) := by unfold mkB; rw [hz, if_pos rfl]
    have eE : eqA (mkT l) (some 0) = true := by rw [eT]; decide
    obtain ⟨t1, t2⟩ := af_fin (ht.trans eT) (Sv.zero false)
    rw [sg_zero] at t2
    obtain ⟨b1, b2⟩ := af_fin (hb.trans eB) (h.wv (i := 0) (by omega)).sv
    have l1 : ∀ i, i < n → finN (GD L i).toNat ∧ rv (GD L i).toNat = sg (xs l i) (xm l i) := fun i hi => by
      have q := hL2 i hi
      rw [if_pos eE] at q
      exact fa_fin q (h.wv hi).sv
    refine ⟨t1, b1, fun i hi => ?_, fun i hi => (l1 i hi).1, ?_, fun s _ => ?_⟩
    · have q := hv2 i hi
      unfold mkV at q
      by_cases c : i = 0
      · rw [if_pos c] at q
        exact (fa_fin q Wv.one.sv).1
      · rw [if_neg c, hz, if_pos rfl] at q
        exact (fa_fin q (Sv.zero false)).1
    · rw [(l1 0 (by omega)).2, b2]
      have z : sumR (fun i => rv (GD L (i + 1)).toNat * rv (GD L (i + 1)).toNat) (n - 1) = 0 := by
        rw [sumR_congr (g := fun i => xm l (i + 1) * xm l (i + 1)) (fun i hi => by rw [(l1 (i + 1) (by omega)).2, sg_sq])]
        exact sumR_zero hx
      rw [z, show sg (xs l 0) (xm l 0) - sg (xs l 0) (xm l 0) = 0 by grind]
      have q := Rat.mul_nonneg (bnd_nonneg n) (sumR_nonneg (f := fun i => rv (GD l i).toNat * rv (GD l i).toNat) (n := n) (fun i hi => by rw [rv_sq]; exact Rat.mul_nonneg (fvm_nonneg _) (fvm_nonneg _)))
      grind
    · rw [t2]
      have := bnd_nonneg n
      grind
  · have n2 : 2 ≤ n := by
      rcases (h.nrm n1 n16).2 with q | q
      · exact absurd q.1 h0
      · exact q.1
    have p := h.make n2 n16 h0
    obtain ⟨A0, A, a1, a2, a3⟩ := p.turned h n2 n16 hv2
    have T0 := p.TR.pos
    have eE : eqA (mkT l) (some 0) = false := by rw [p.T.eqz, decide_eq_false (by grind)]
    obtain ⟨t1, t2⟩ := af_fin ht p.T.sv
    obtain ⟨b1, b2⟩ := af_fin hb p.B.sv
    have l0 := hL2 0 (by omega)
    rw [if_neg (by rw [eE]; decide)] at l0
    obtain ⟨l1, l2⟩ := fa_fin l0 a1
    have ls : ∀ i, i < n - 1 → finN (GD L (i + 1)).toNat ∧ rv (GD L (i + 1)).toNat = sg (xs l (i + 1)) (A i) := fun i hi => by
      have q := hL2 (i + 1) (by omega)
      rw [if_neg (by rw [eE]; decide)] at q
      exact fa_fin q (a2 i hi)
    obtain ⟨v1, v2⟩ := fa_fin (hv2 0 (by omega)) Wv.one.sv
    have vs : ∀ i, i < n - 1 → finN (GD v (i + 1)).toNat ∧ rv (GD v (i + 1)).toNat = sg (xs l (i + 1) ^^ xs l 0) (zV l (i + 1)) := fun i hi => fa_fin (hv2 (i + 1) (by omega)) (p.V i hi).sv
    refine ⟨t1, b1, fun i hi => ?_, fun i hi => ?_, ?_, fun s hs => ?_⟩
    · rcases i with _ | i
      · exact v1
      · exact (vs i (by omega)).1
    · rcases i with _ | i
      · exact l1
      · exact (ls i (by omega)).1
    · rw [l2, b2, S0, sumR_congr (g := fun i => A i * A i) (fun i hi => by rw [(ls i hi).2, sg_sq]), sg_not]
      have e : (sg (xs l 0) (-A0) - -sg (xs l 0) (zH l)) * (sg (xs l 0) (-A0) - -sg (xs l 0) (zH l)) = (zH l - A0) * (zH l - A0) := by
        rw [show sg (xs l 0) (-A0) - -sg (xs l 0) (zH l) = sg (xs l 0) (-A0) + sg (xs l 0) (zH l) by grind, sg_add, sg_sq]
        grind
      rw [e]
      exact a3
    · rw [t2]
      refine (p.parts h).unit n2 n16 ?_
      rw [hs, show n = n - 1 + 1 by omega, sumR_front, show n - 1 + 1 - 1 = n - 1 by omega, v2, sumR_congr (g := fun i => zV l (i + 1) * zV l (i + 1)) (fun i hi => by rw [(vs i hi).2, sg_sq]), sg_sq, Rat.one_mul]
end Go.Proofs.YtcdbjlmegkcaiaaGreatDoor
