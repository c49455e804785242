/-
  Layer 9, walks: rows, and columns, reflected, by the program. (Written by wip/tools/gen_rfj.py.)
-/
import Derived.Test.YtbaeabmmokgomaaMJRfI
namespace Go.Proofs.Ytbaeabmmokgomaa
open Go.RowKit Go.Bw
set_option linter.unusedVariables false
set_option linter.unusedSimpArgs false
attribute [local go_sem] run_store_float

theorem lnW_congr {v : List Int} {x y : Nat → Option Nat} {t : Option Nat} {n : Nat} (h : ∀ i, i < n → x i = y i) : lnW v x t n = lnW v y t n := by
  unfold lnW
  rw [sumA_congr (fun k hk => by rw [h k hk])]
theorem lnF_congr {v : List Int} {x y : Nat → Option Nat} {t : Option Nat} {n i : Nat} (h : ∀ i, i < n → x i = y i) (hi : i < n) : lnF v x t n i = lnF v y t n i := by
  unfold lnF
  rw [lnW_congr h, h i hi]
/-- rows reflected, from the row p on, in k columns from f on -/
def lP (z : Bool) (p m f k : Nat) (a b : Nat) : Bool := !z && decide (p ≤ a ∧ a < p + m ∧ f ≤ b ∧ b < f + k)
def lF (l v : List Int) (q p m : Nat) (t : Option Nat) (a b : Nat) : Option Nat := lnF v (fun i => ma l q (p + i) b) t m (a - p)
/-- columns reflected, from the column p on, in k rows from f on -/
def rP (z : Bool) (p m f k : Nat) (a b : Nat) : Bool := !z && decide (p ≤ b ∧ b < p + m ∧ f ≤ a ∧ a < f + k)
def rF (l v : List Int) (q p m : Nat) (t : Option Nat) (a b : Nat) : Option Nat := lnF v (fun i => ma l q a (p + i)) t m (b - p)
theorem tail_lt {p m M q f k : Nat} (h1 : p + m ≤ M) (h2 : f + k < q) (hm : 0 < m) : p * q + f + k < M * q := by
  have := ix_lt (i := p) (j := f + k) (m := M) (q := q) (by omega) h2
  omega
/-- one more column -/
theorem Mr.left {L L' l v : List Int} {M q p m f k o : Nat} {z : Bool} {t : Option Nat} (h : Mr L l M q (lP z p m f k) (lF l v q p m t)) (ho : o = p * q + f + k) (hf : f + k < q) (hp : p + m ≤ M)
    (T : Tn L L' (fun i => o + i * q) (if z = true then 0 else m) (lnF v (fun i => fa (D L (o + i * q))) t m)) : Mr L' l M q (lP z p m f (k + 1)) (lF l v q p m t) := by
  have hpos : ∀ i, o + i * q = (p + i) * q + (f + k) := fun i => by rw [ho, Nat.add_mul]; omega
  have hold : ∀ i, i < m → fa (D L (o + i * q)) = ma l q (p + i) (f + k) := fun i hi => by
    rw [hpos i]
    exact h.old (p + i) (f + k) (by omega) hf (by unfold lP; simp <;> omega)
  have hmm : ∀ i, i < (if z = true then 0 else m) → i < m := fun i hi => by split at hi <;> omega
  refine h.line T (fun i => p + i) (fun _ => f + k) (fun i hi => ⟨by have := hmm i hi; omega, hf⟩) (fun i _ => hpos i) (fun i hi => ?_) (fun a b ha hb => ?_)
  · unfold lF
    rw [show p + i - p = i by omega]
    exact lnF_congr hold (hmm i hi)
  · unfold lP
    cases z
    · simp
      constructor
      · intro h9
        by_cases e : b < f + k
        · exact .inl ⟨h9.1, h9.2.1, h9.2.2.1, e⟩
        · exact .inr ⟨a - p, by omega, by omega, by omega⟩
      · rintro (h9 | ⟨i, h1, h2, h3⟩)
        · omega
        · omega
    · simp
theorem Mr.right {L L' l v : List Int} {M q p m f k o : Nat} {z : Bool} {t : Option Nat} (h : Mr L l M q (rP z p m f k) (rF l v q p m t)) (ho : o = (f + k) * q + p) (hf : f + k < M) (hp : p + m ≤ q)
    (T : Tn L L' (fun i => o + i * 1) (if z = true then 0 else m) (lnF v (fun i => fa (D L (o + i * 1))) t m)) : Mr L' l M q (rP z p m f (k + 1)) (rF l v q p m t) := by
  have hpos : ∀ i, o + i * 1 = (f + k) * q + (p + i) := fun i => by rw [ho]; omega
  have hold : ∀ i, i < m → fa (D L (o + i * 1)) = ma l q (f + k) (p + i) := fun i hi => by
    rw [hpos i]
    exact h.old (f + k) (p + i) hf (by omega) (by unfold rP; simp <;> omega)
  have hmm : ∀ i, i < (if z = true then 0 else m) → i < m := fun i hi => by split at hi <;> omega
  refine h.line T (fun _ => f + k) (fun i => p + i) (fun i hi => ⟨hf, by have := hmm i hi; omega⟩) (fun i _ => hpos i) (fun i hi => ?_) (fun a b ha hb => ?_)
  · unfold rF
    rw [show p + i - p = i by omega]
    exact lnF_congr hold (hmm i hi)
  · unfold rP
    cases z
    · simp
      constructor
      · intro h9
        by_cases e : a < f + k
        · exact .inl ⟨h9.1, h9.2.1, h9.2.2.1, e⟩
        · exact .inr ⟨b - p, by omega, by omega, by omega⟩
      · rintro (h9 | ⟨i, h1, h2, h3⟩)
        · omega
        · omega
    · simp
/-- a matrix in new memory, and OK -/
def MatP (w : World) (R C : Int) (n : Nat) (F : Nat → Option Nat) (e : Ending) (w' : World) : Prop := ∃ g cap L, e = .returned (.tuple #[mV R C (some ⟨g, 0, none⟩) n cap, .int .i64 0]) ∧ OwnF w' w.heap.size (some ⟨g, 0, none⟩) cap L ∧ Is L n F ∧ Below w.heap.size w w'
/-- no matrix, and a code -/
def NoP (w : World) (E : Int) (e : Ending) (w' : World) : Prop := e = .returned (.tuple #[mV 0 0 none 0 0, .int .i64 E]) ∧ Below w.heap.size w w'

set_option maxRecDepth 100000 in
set_option maxHeartbeats 8000000 in
theorem gLeft_yes {w : World} {A VA : Option Addr} {M q n c m vc t p f : Nat} {l v : List Int} (h : FL w A n c l) (hv : FL w VA m vc v) (ht : t ≤ 18446744073709551615) (hM : M ≤ 512) (hq : q ≤ 512) (hn : n = M * q) (hm : 0 < m) (hp : p + m ≤ M) (hf : f ≤ q) (hvb : ∀ a, VA = some a → a.block < w.heap.size) :
    Calls Try.prog 30 #[mV M q A n c, .int .i64 p, .int .i64 f, rV VA m vc t] w (MatP w M q n (tg (lP (eqA (af t) (some 0)) p m f (q - f)) (lF l v q p m (af t)) l q)) := by
  have hmx := hv.max
  have hn1 := h.max
  have n4 : n ≤ 262144 := by rw [hn]; exact Nat.le_trans (Nat.mul_le_mul hM hq) (by decide)
  have hmay : mayB (M : Int) (q : Int) n = true := decide_eq_true ⟨by omega, by omega, by omega, by omega, by rw [hn]; exact Int.natCast_mul M q⟩
  have pm := fun W => gMay_any (R := (M : Int)) (C := (q : Int)) (A := A) (n := n) (c := c) hn1 W
  simp only [hmay] at pm
  have hll := h.1
  have HN := Lib.hid hn
  clear hn hmay
  have bz := (((Below.refl _ w).alloc (Nat.le_refl _) (.cells #[.int .i64 (M : Int), .int .i64 (q : Int), .slice A n c] 24)).alloc (by simp) (.cells #[.slice VA m vc, .float .f64 t] 51)).alloc (by simp; omega) (.cells #[.int .i64 0, .int .i64 0, .slice none 0 0] 24)
  have DM := ((Blk.new w [.int .i64 (M : Int), .int .i64 (q : Int), .slice A n c] 24).alloc (.cells #[.slice VA m vc, .float .f64 t] 51)).alloc (.cells #[.int .i64 0, .int .i64 0, .slice none 0 0] 24)
  have DH := (Blk.new (w.alloc (.cells #[.int .i64 (M : Int), .int .i64 (q : Int), .slice A n c] 24)) [.slice VA m vc, .float .f64 t] 51).alloc (.cells #[.int .i64 0, .int .i64 0, .slice none 0 0] 24)
  have DZ := Blk.new ((w.alloc (.cells #[.int .i64 (M : Int), .int .i64 (q : Int), .slice A n c] 24)).alloc (.cells #[.slice VA m vc, .float .f64 t] 51)) [.int .i64 0, .int .i64 0, .slice none 0 0] 24
  have hsz : (((w.alloc (.cells #[.int .i64 (M : Int), .int .i64 (q : Int), .slice A n c] 24)).alloc (.cells #[.slice VA m vc, .float .f64 t] 51)).alloc (.cells #[.int .i64 0, .int .i64 0, .slice none 0 0] 24)).heap.size = w.heap.size + 1 + 1 + 1 := by simp
  simp only [World.size_alloc] at DH DZ
  replace h := h.on bz
  replace hv := hv.on bz
  have p0 : (0 : Int) ≤ p := by omega
  have f0 : (0 : Int) ≤ f := by omega
  have m0 : (0 : Int) < m := by omega
  have x1 : (m : Int) ≤ (M : Int) - (p : Int) := by omega
  have x2 : (f : Int) ≤ (q : Int) := by omega
  have x3 : (M : Int) ≤ 512 := by omega
  have x4 : (q : Int) ≤ 512 := by omega
  go_enter Try.func30, Try.ntmps30
  go_upto_region 1 with fail
  generalize (((w.alloc (.cells #[.int .i64 (M : Int), .int .i64 (q : Int), .slice A n c] 24)).alloc (.cells #[.slice VA m vc, .float .f64 t] 51)).alloc (.cells #[.int .i64 0, .int .i64 0, .slice none 0 0] 24)) = W0 at h hv DM DH DZ bz hsz ⊢
  obtain ⟨y0, y1, y2, y3, y4, y5⟩ := Mbx.cells DM
  obtain ⟨u0, u1, u2, u3⟩ := Rbx.cells DH
  go_wp2_with fail
  with_reducible refine (pm _).mono ?_
  rintro e w1 ⟨rfl, hb⟩
  clear y0 y1 y2 y3 y4 y5 u0 u1 u2 u3
  replace h := h.on hb
  replace hv := hv.on hb
  replace DM := DM.on hb
  replace DH := DH.on hb
  replace DZ := DZ.on hb
  replace bz := bz.trans (hb.mono bz.size)
  have hs1 := hb.size
  clear hb
  have DO := Blk.new w1 [.slice VA m vc, .float .f64 t] 51
  obtain ⟨y0, y1, y2, y3, y4, y5⟩ := Mbx.cells DM
  obtain ⟨u0, u1, u2, u3⟩ := Rbx.cells DH
  have hbA := (Below.refl _ w1).alloc (Nat.le_refl _) (.cells #[.slice VA m vc, .float .f64 t] 51)
  replace h := h.on hbA
  replace hv := hv.on hbA
  replace DM := DM.on hbA
  replace DH := DH.on hbA
  replace DZ := DZ.on hbA
  clear hbA
  replace bz := bz.alloc bz.size (.cells #[.slice VA m vc, .float .f64 t] 51)
  have hR1 := Rl.one hv ht DO
  have pt := gtog_any (b := true) hR1 (by unfold togB longB; simp; rw [hv.1]; exact hm)
  go_wp2_with fail
  with_reducible refine (pt).mono ?_
  rintro e w2 ⟨rfl, hb⟩
  clear y0 y1 y2 y3 y4 y5 u0 u1 u2 u3 DO hR1
  replace h := h.on hb
  replace hv := hv.on hb
  replace DM := DM.on hb
  replace DH := DH.on hb
  replace DZ := DZ.on hb
  replace bz := bz.trans (hb.mono bz.size)
  clear hb
  obtain ⟨y0, y1, y2, y3, y4, y5⟩ := Mbx.cells DM
  obtain ⟨u0, u1, u2, u3⟩ := Rbx.cells DH
  have hE1 : Bl (w2.alloc (.cells #[.bool true, .bool true] 4)) (some ⟨w2.heap.size, 0, none⟩) 2 [true, true] := ⟨rfl, by omega, fun _ => ⟨_, rfl, fun i b hi => by
    have h9 := Blk.new w2 [.bool true, .bool true] 4
    rw [add_at]
    rcases i with _ | _ | i
    · simp at hi; subst hi; exact Blk.cell h9 0 rfl
    · simp at hi; subst hi; exact Blk.cell h9 1 rfl
    · simp at hi⟩⟩
  have hbA := (Below.refl _ w2).alloc (Nat.le_refl _) (.cells #[.bool true, .bool true] 4)
  replace h := h.on hbA
  replace hv := hv.on hbA
  replace DM := DM.on hbA
  replace DH := DH.on hbA
  replace DZ := DZ.on hbA
  clear hbA
  replace bz := bz.alloc bz.size (.cells #[.bool true, .bool true] 4)
  have pr := gRef_any (c := 2) (E := 0) hE1 rfl
  go_wp2_with fail
  with_reducible refine pr.mono ?_
  rintro e w3 ⟨rfl, rfl⟩
  clear pr hE1 y0 y1 y2 y3 y4 y5 u0 u1 u2 u3
  have hW3 : w.heap.size + 1 + 1 + 1 ≤ (w2.alloc (.cells #[.bool true, .bool true] 4)).heap.size := by have := DZ.lt; omega
  generalize (w2.alloc (.cells #[.bool true, .bool true] 4)) = wr3 at h hv DM DH DZ bz hW3 ⊢
  have pcp := gcopied_any (R := (M : Int)) (C := (q : Int)) h (by omega)
  obtain ⟨y0, y1, y2, y3, y4, y5⟩ := Mbx.cells DM
  obtain ⟨u0, u1, u2, u3⟩ := Rbx.cells DH
  go_wp2_with fail
  with_reducible refine (pcp).mono ?_
  rintro e w3 ⟨g2, rfl, hR, hg2, hb⟩
  clear y0 y1 y2 y3 y4 y5 u0 u1 u2 u3 pcp
  replace h := h.on hb
  replace hv := hv.on hb
  replace DM := DM.on hb
  replace DH := DH.on hb
  replace DZ := DZ.on hb
  replace bz := bz.trans (hb.mono bz.size)
  have hs3 := hb.size
  clear hb
  have hO := hR.owned (B := w.heap.size) (by omega) (by omega)
  clear hR
  have DK := Blk.new w3 [.int .i64 M, .int .i64 q, .slice (some ⟨g2, 0, none⟩) n n] 24
  have hgX := (hO.gt rfl).2
  rw [hll] at hO
  have hbA := (Below.refl _ w3).alloc (Nat.le_refl _) (.cells #[.int .i64 M, .int .i64 q, .slice (some ⟨g2, 0, none⟩) n n] 24)
  replace h := h.on hbA
  replace hv := hv.on hbA
  replace DM := DM.on hbA
  replace DH := DH.on hbA
  replace DZ := DZ.on hbA
  replace hO := hO.alloc_ (.cells #[.int .i64 M, .int .i64 q, .slice (some ⟨g2, 0, none⟩) n n] 24)
  clear hbA
  replace bz := bz.alloc bz.size (.cells #[.int .i64 M, .int .i64 q, .slice (some ⟨g2, 0, none⟩) n n] 24)
  have hszX : w.heap.size + 1 + 1 + 1 ≤ w3.heap.size := by have := DZ.lt; simp at this; omega
  have hVA : ∀ a, VA = some a → a.block ≠ g2 := fun a e => by have := hvb a e; omega
  obtain ⟨y0, y1, y2, y3, y4, y5⟩ := Mbx.cells DM
  obtain ⟨u0, u1, u2, u3⟩ := Rbx.cells DH
  go_upto_region 7 with fail
  clear y0 y1 y2 y3 y4 y5 u0 u1 u2 u3
  generalize (w3.alloc (.cells #[.int .i64 M, .int .i64 q, .slice (some ⟨g2, 0, none⟩) n n] 24)) = w5 at h hv DM DH DZ DK hO bz ⊢
  skip
  have hMr : Mr l l M q (lP (eqA (af t) (some 0)) p m f 0) (lF l v q p m (af t)) := Mr.start (by rw [hll, HN.out]) h.2.2 (fun a b _ _ => by unfold lP; simp <;> omega)
  have hm5 : m ≤ 512 := by omega
  go_loopw [54, 13] (fun i i2 wr => ∃ (k : Nat) (L : List Int), k ≤ q - f ∧ i = .int .i64 k ∧ Mr L l M q (lP (eqA (af t) (some 0)) p m f k) (lF l v q p m (af t)) ∧ OwnF wr w.heap.size (some ⟨g2, 0, none⟩) n L ∧ FL wr VA m vc v ∧ Mbx wr w.heap.size M q A n c ∧ Rbx wr (w.heap.size + 1) VA m vc t ∧ Mbx wr (w.heap.size + 1 + 1) 0 0 none 0 0 ∧ Mbx wr w3.heap.size M q (some ⟨g2, 0, none⟩) n n ∧ Below w.heap.size w wr) (fun i _ _ => q - (intOf i).toNat)
  case atStart => exact ⟨0, l, Nat.zero_le _, rfl, hMr, hO, hv, DM, DH, DZ, DK, bz⟩
  case round =>
    clear hMr hO hv DM DH DZ DK bz h
    obtain ⟨k, L, hk, rfl, hMr, hO, hv, DM, DH, DZ, DK, bz⟩ := hrel
    by_cases hlt : k < q - f
    · have k0 : (0 : Int) ≤ k := by omega
      have k1 : (k : Int) < (q : Int) - (f : Int) := by omega
      obtain ⟨y, hy⟩ : ∃ y, p * q = y := ⟨_, rfl⟩
      obtain ⟨o, ho⟩ : ∃ o, y + f + k = o := ⟨_, rfl⟩
      obtain ⟨o1, ho1⟩ : ∃ o1, y + f = o1 := ⟨_, rfl⟩
      have hon : o < n := by rw [← ho, ← hy, HN.out]; exact tail_lt hp (by omega) hm
      have ey : (p : Int) * (q : Int) = (y : Int) := by exact_mod_cast hy
      have eo1 : (y : Int) + (f : Int) = (o1 : Int) := by omega
      have eo : (o1 : Int) + (k : Int) = (o : Int) := by omega
      have wy : IntKind.i64.wrap (y : Int) = (y : Int) := IntWalk.i64_in _ (by omega)
      have wo : IntKind.i64.wrap (o : Int) = (o : Int) := IntWalk.i64_in _ (by omega)
      have wo1 : IntKind.i64.wrap (o1 : Int) = (o1 : Int) := IntWalk.i64_in _ (by omega)
      have o0 : (0 : Int) ≤ o := by omega
      have o2 : (o : Int) ≤ n := by omega
      have o3 : ¬ n = o := by omega
      have hML := hMr.len
      have hLn : L.length = n := by rw [hML, HN.out]
      have hq0 : 0 < q := by omega
      have hfit : ∀ i, i < m → o + i * q < L.length := fun i hi => by
        rw [hML]
        have := ix_lt (i := p + i) (j := f + k) (m := M) (q := q) (by omega) (by omega)
        rw [Nat.add_mul] at this
        omega
      go_wp2_with fail
      replace hO := hO.drew
      replace hv := hv.drew
      replace DM := DM.drew
      replace DH := DH.drew
      replace DZ := DZ.drew
      replace DK := DK.drew
      replace bz := bz.drew
      refine wp_region_held_drew (S := fun w9 : World => Mbx w9 w.heap.size M q A n c ∧ Rbx w9 (w.heap.size + 1) VA m vc t ∧ Mbx w9 w3.heap.size M q (some ⟨g2, 0, none⟩) n n) (by kernel_rfl) ⟨DM, DH, DK⟩ (fun hS => ?_)
      generalize wr.drew = wd at hS hO hv DM DH DZ DK  bz ⊢
      refine wpAnyH_take (i := 0) (v := ?v0_1) rfl (by kernel_rfl) (by kernel_rfl) (by kernel_rfl) (fun _ _ _ h => h) (Or.inl ⟨by rfl, ?hy0_1⟩) (by assumption) ?rest0_1
      case hy0_1 => (intro w9 hSw; obtain ⟨ma1, ma2, ma3⟩ := hSw; obtain ⟨y0, y1, y2, _, _, _⟩ := Mbx.cells ma1; obtain ⟨u0, u1, _, _⟩ := Rbx.cells ma2; obtain ⟨v0, v1, v2, _, _, _⟩ := Mbx.cells ma3; go_simp; try with_reducible rfl)
      try simp only [Act.put, List.setIfInBounds_toArray, List.set_cons_zero, List.set_cons_succ, List.getElem_toArray, List.getElem_cons_zero, List.getElem_cons_succ]
      refine wpAnyH_take (i := 1) (v := ?v1_2) rfl (by kernel_rfl) (by kernel_rfl) (by kernel_rfl) (fun _ _ _ h => h) (Or.inl ⟨by rfl, ?hy1_2⟩) (by assumption) ?rest1_2
      case hy1_2 => (intro w9 hSw; clear hSw; go_simp; try with_reducible rfl)
      try simp only [Act.put, List.setIfInBounds_toArray, List.set_cons_zero, List.set_cons_succ, List.getElem_toArray, List.getElem_cons_zero, List.getElem_cons_succ]
      refine wpAnyH_take (i := 2) (v := ?v2_3) rfl (by kernel_rfl) (by kernel_rfl) (by kernel_rfl) (fun _ _ _ h => h) (Or.inl ⟨by rfl, ?hy2_3⟩) (by assumption) ?rest2_3
      case hy2_3 => (intro w9 hSw; obtain ⟨ma1, ma2, ma3⟩ := hSw; obtain ⟨y0, y1, y2, _, _, _⟩ := Mbx.cells ma1; obtain ⟨u0, u1, _, _⟩ := Rbx.cells ma2; obtain ⟨v0, v1, v2, _, _, _⟩ := Mbx.cells ma3; go_simp; try with_reducible rfl)
      try simp only [Act.put, List.setIfInBounds_toArray, List.set_cons_zero, List.set_cons_succ, List.getElem_toArray, List.getElem_cons_zero, List.getElem_cons_succ]
      refine wpAnyH_take (i := 3) (v := ?v3_4) rfl (by kernel_rfl) (by kernel_rfl) (by kernel_rfl) (fun _ _ _ h => h) (Or.inl ⟨by rfl, ?hy3_4⟩) (by assumption) ?rest3_4
      case hy3_4 => (intro w9 hSw; clear hSw; go_simp; try with_reducible rfl)
      try simp only [Act.put, List.setIfInBounds_toArray, List.set_cons_zero, List.set_cons_succ, List.getElem_toArray, List.getElem_cons_zero, List.getElem_cons_succ]
      refine wpAnyH_take (i := 4) (v := ?v4_5) rfl (by kernel_rfl) (by kernel_rfl) (by kernel_rfl) (fun _ _ _ h => h) (Or.inl ⟨by rfl, ?hy4_5⟩) (by assumption) ?rest4_5
      case hy4_5 => (intro w9 hSw; clear hSw; go_simp; try with_reducible rfl)
      try simp only [Act.put, List.setIfInBounds_toArray, List.set_cons_zero, List.set_cons_succ, List.getElem_toArray, List.getElem_cons_zero, List.getElem_cons_succ]
      refine wpAnyH_take (i := 5) (v := ?v5_6) rfl (by kernel_rfl) (by kernel_rfl) (by kernel_rfl) (fun _ _ _ h => h) (Or.inl ⟨by rfl, ?hy5_6⟩) (by assumption) ?rest5_6
      case hy5_6 => (intro w9 hSw; obtain ⟨ma1, ma2, ma3⟩ := hSw; obtain ⟨y0, y1, y2, _, _, _⟩ := Mbx.cells ma1; obtain ⟨u0, u1, _, _⟩ := Rbx.cells ma2; obtain ⟨v0, v1, v2, _, _, _⟩ := Mbx.cells ma3; go_simp; try with_reducible rfl)
      try simp only [Act.put, List.setIfInBounds_toArray, List.set_cons_zero, List.set_cons_succ, List.getElem_toArray, List.getElem_cons_zero, List.getElem_cons_succ]
      refine wpAnyH_take (i := 6) (v := ?v6_7) rfl (by kernel_rfl) (by kernel_rfl) (by kernel_rfl) (fun _ _ _ h => h) (Or.inl ⟨by rfl, ?hy6_7⟩) (by assumption) ?rest6_7
      case hy6_7 => (intro w9 hSw; clear hSw; go_simp; try with_reducible rfl)
      try simp only [Act.put, List.setIfInBounds_toArray, List.set_cons_zero, List.set_cons_succ, List.getElem_toArray, List.getElem_cons_zero, List.getElem_cons_succ]
      refine wpAnyH_take (i := 7) (v := ?v7_8) rfl (by kernel_rfl) (by kernel_rfl) (by kernel_rfl) (fun _ _ _ h => h) (Or.inl ⟨by rfl, ?hy7_8⟩) (by assumption) ?rest7_8
      case hy7_8 => (intro w9 hSw; clear hSw; go_simp; try with_reducible rfl)
      try simp only [Act.put, List.setIfInBounds_toArray, List.set_cons_zero, List.set_cons_succ, List.getElem_toArray, List.getElem_cons_zero, List.getElem_cons_succ]
      refine wpAnyH_take (i := 8) (v := ?v8_9) rfl (by kernel_rfl) (by kernel_rfl) (by kernel_rfl) (fun _ _ _ h => h) (Or.inl ⟨by rfl, ?hy8_9⟩) (by assumption) ?rest8_9
      case hy8_9 => (intro w9 hSw; clear hSw; go_simp; try with_reducible rfl)
      try simp only [Act.put, List.setIfInBounds_toArray, List.set_cons_zero, List.set_cons_succ, List.getElem_toArray, List.getElem_cons_zero, List.getElem_cons_succ]
      refine wpAnyH_take (i := 9) (v := ?v9_10) rfl (by kernel_rfl) (by kernel_rfl) (by kernel_rfl) (fun _ _ _ h => h) (Or.inl ⟨by rfl, ?hy9_10⟩) (by assumption) ?rest9_10
      case hy9_10 => (intro w9 hSw; clear hSw; go_simp; try with_reducible rfl)
      try simp only [Act.put, List.setIfInBounds_toArray, List.set_cons_zero, List.set_cons_succ, List.getElem_toArray, List.getElem_cons_zero, List.getElem_cons_succ]
      refine wpAnyH_take (i := 10) (v := ?v10_11) rfl (by kernel_rfl) (by kernel_rfl) (by kernel_rfl) (fun _ _ _ h => h) (Or.inl ⟨by rfl, ?hy10_11⟩) (by assumption) ?rest10_11
      case hy10_11 => (intro w9 hSw; clear hSw; go_simp; try with_reducible rfl)
      try simp only [Act.put, List.setIfInBounds_toArray, List.set_cons_zero, List.set_cons_succ, List.getElem_toArray, List.getElem_cons_zero, List.getElem_cons_succ]
      refine wpAnyH_take (i := 11) (v := ?v11_12) rfl (by kernel_rfl) (by kernel_rfl) (by kernel_rfl) (fun _ _ _ h => h) (Or.inl ⟨by rfl, ?hy11_12⟩) (by assumption) ?rest11_12
      case hy11_12 => (intro w9 hSw; clear hSw; go_simp; try with_reducible rfl)
      try simp only [Act.put, List.setIfInBounds_toArray, List.set_cons_zero, List.set_cons_succ, List.getElem_toArray, List.getElem_cons_zero, List.getElem_cons_succ]
      refine wpAnyH_take (i := 12) (v := ?v12_13) rfl (by kernel_rfl) (by kernel_rfl) (by kernel_rfl) (fun _ _ _ h => h) (Or.inl ⟨by rfl, ?hy12_13⟩) (by assumption) ?rest12_13
      case hy12_13 => (intro w9 hSw; clear hSw; go_simp; try with_reducible rfl)
      try simp only [Act.put, List.setIfInBounds_toArray, List.set_cons_zero, List.set_cons_succ, List.getElem_toArray, List.getElem_cons_zero, List.getElem_cons_succ]
      refine wpAnyH_take (i := 13) (v := ?v13_14) rfl (by kernel_rfl) (by kernel_rfl) (by kernel_rfl) (fun _ _ _ h => h) (Or.inl ⟨by rfl, ?hy13_14⟩) (by assumption) ?rest13_14
      case hy13_14 => (intro w9 hSw; obtain ⟨ma1, ma2, ma3⟩ := hSw; obtain ⟨y0, y1, y2, _, _, _⟩ := Mbx.cells ma1; obtain ⟨u0, u1, _, _⟩ := Rbx.cells ma2; obtain ⟨v0, v1, v2, _, _, _⟩ := Mbx.cells ma3; go_simp; try with_reducible rfl)
      try simp only [Act.put, List.setIfInBounds_toArray, List.set_cons_zero, List.set_cons_succ, List.getElem_toArray, List.getElem_cons_zero, List.getElem_cons_succ]
      refine wpAnyH_ready (rs := [14]) (by kernel_rfl) (by simp) ?_
      refine AllReadyH.cons rfl (fun K hK => ?_) AllReadyH.nil
      go_simp
      have ptn := turn_any (w := wd) (q := q) (o := o) (n := n - o) (ec := n - o) hv ht hO hMr.wd hVA hfit (by rw [hLn]; omega) (Nat.le_refl _) (by omega) hq0
      with_reducible refine ptn.mono ?_
      rintro e w9 ⟨L2, rfl, hO9, hT9, hg9⟩
      clear ptn
      replace DM := DM.grown hg9 (by simp; omega)
      replace DH := DH.grown hg9 (by simp; omega)
      replace DZ := DZ.grown hg9 (by simp; omega)
      replace DK := DK.grown hg9 (by simp; omega)
      replace hv := hv.farB hg9 hVA
      replace bz := below_grown bz hg9 (by omega) bz.size
      replace hO := hO9
      clear hO9 hg9
      clear hS; refine hK.out _ _ ⟨DM, DH, DK⟩ (fun hS => ?_); clear hK K
      try simp only [Act.put, List.setIfInBounds_toArray, List.set_cons_zero, List.set_cons_succ, List.getElem_toArray, List.getElem_cons_zero, List.getElem_cons_succ]
      refine wpAnyH_done (by kernel_rfl) ?_ _
      have hM9 := hMr.left (o := o) (by omega) (by omega) hp hT9
      clear hT9 hMr
      go_wp2_with fail
      go_roundw
      case rel => exact ⟨k + 1, L2, by omega, by go_num, hM9, hO, hv, DM, DH, DZ, DK, bz⟩
      case measure => simp [intOf]; omega
    · obtain rfl : k = q - f := by omega
      obtain ⟨v0, v1, v2, v3, v4, v5⟩ := Mbx.cells DK
      obtain ⟨z0, z1, z2, z3, z4, z5⟩ := Mbx.cells DZ
      have DZ9 := Mbx.put DZ M q (some ⟨g2, 0, none⟩) n n
      obtain ⟨c0, c1, c2, _, _, _⟩ := Mbx.cells DZ9
      have hO9 := hO.grown_ (row := some (w.heap.size + 1 + 1)) (w' := ((wr.setCell ⟨w.heap.size + 1 + 1, 0, none⟩ (.int .i64 M)).setCell ⟨w.heap.size + 1 + 1, 1, none⟩ (.int .i64 q)).setCell ⟨w.heap.size + 1 + 1, 2, none⟩ (.slice (some ⟨g2, 0, none⟩) n n)) (grown_setCell (grown_setCell (grown_setCell (World.grownBy.refl wr _) 0 _) 1 _) 2 _) (fun a e => by injection e with e; subst e; simp; omega)
      have bz9 := ((bz.setCell (p := ⟨w.heap.size + 1 + 1, 0, none⟩) (by simp; omega) (.int .i64 M)).setCell (p := ⟨w.heap.size + 1 + 1, 1, none⟩) (by simp; omega) (.int .i64 q)).setCell (p := ⟨w.heap.size + 1 + 1, 2, none⟩) (by simp; omega) (.slice (some ⟨g2, 0, none⟩) n n)
      have hI := hMr.is
      rw [← HN.out] at hI
      go_wp2_with fail
      refine bodyPost_ret (v := .tuple #[mV M q (some ⟨g2, 0, none⟩) n n, .int .i64 0]) (by simp [results, Try.results30, go_sem, c0, c1, c2]) rfl ?_
      exact ⟨g2, n, L, rfl, hO9, hI, bz9⟩

set_option maxRecDepth 100000 in
set_option maxHeartbeats 8000000 in
theorem gRight_yes {w : World} {A VA : Option Addr} {M q n c m vc t p f : Nat} {l v : List Int} (h : FL w A n c l) (hv : FL w VA m vc v) (ht : t ≤ 18446744073709551615) (hM : M ≤ 512) (hq : q ≤ 512) (hn : n = M * q) (hm : 0 < m) (hp : p + m ≤ q) (hf : f ≤ M) (hvb : ∀ a, VA = some a → a.block < w.heap.size) :
    Calls Try.prog 35 #[mV M q A n c, .int .i64 p, .int .i64 f, rV VA m vc t] w (MatP w M q n (tg (rP (eqA (af t) (some 0)) p m f (M - f)) (rF l v q p m (af t)) l q)) := by
  have hmx := hv.max
  have hn1 := h.max
  have n4 : n ≤ 262144 := by rw [hn]; exact Nat.le_trans (Nat.mul_le_mul hM hq) (by decide)
  have hmay : mayB (M : Int) (q : Int) n = true := decide_eq_true ⟨by omega, by omega, by omega, by omega, by rw [hn]; exact Int.natCast_mul M q⟩
  have pm := fun W => gMay_any (R := (M : Int)) (C := (q : Int)) (A := A) (n := n) (c := c) hn1 W
  simp only [hmay] at pm
  have hll := h.1
  have HN := Lib.hid hn
  clear hn hmay
  have bz := (((Below.refl _ w).alloc (Nat.le_refl _) (.cells #[.int .i64 (M : Int), .int .i64 (q : Int), .slice A n c] 24)).alloc (by simp) (.cells #[.slice VA m vc, .float .f64 t] 51)).alloc (by simp; omega) (.cells #[.int .i64 0, .int .i64 0, .slice none 0 0] 24)
  have DM := ((Blk.new w [.int .i64 (M : Int), .int .i64 (q : Int), .slice A n c] 24).alloc (.cells #[.slice VA m vc, .float .f64 t] 51)).alloc (.cells #[.int .i64 0, .int .i64 0, .slice none 0 0] 24)
  have DH := (Blk.new (w.alloc (.cells #[.int .i64 (M : Int), .int .i64 (q : Int), .slice A n c] 24)) [.slice VA m vc, .float .f64 t] 51).alloc (.cells #[.int .i64 0, .int .i64 0, .slice none 0 0] 24)
  have DZ := Blk.new ((w.alloc (.cells #[.int .i64 (M : Int), .int .i64 (q : Int), .slice A n c] 24)).alloc (.cells #[.slice VA m vc, .float .f64 t] 51)) [.int .i64 0, .int .i64 0, .slice none 0 0] 24
  have hsz : (((w.alloc (.cells #[.int .i64 (M : Int), .int .i64 (q : Int), .slice A n c] 24)).alloc (.cells #[.slice VA m vc, .float .f64 t] 51)).alloc (.cells #[.int .i64 0, .int .i64 0, .slice none 0 0] 24)).heap.size = w.heap.size + 1 + 1 + 1 := by simp
  simp only [World.size_alloc] at DH DZ
  replace h := h.on bz
  replace hv := hv.on bz
  have p0 : (0 : Int) ≤ p := by omega
  have f0 : (0 : Int) ≤ f := by omega
  have m0 : (0 : Int) < m := by omega
  have x1 : (m : Int) ≤ (q : Int) - (p : Int) := by omega
  have x2 : (f : Int) ≤ (M : Int) := by omega
  have x3 : (q : Int) ≤ 512 := by omega
  have x4 : (M : Int) ≤ 512 := by omega
  go_enter Try.func35, Try.ntmps35
  go_upto_region 1 with fail
  generalize (((w.alloc (.cells #[.int .i64 (M : Int), .int .i64 (q : Int), .slice A n c] 24)).alloc (.cells #[.slice VA m vc, .float .f64 t] 51)).alloc (.cells #[.int .i64 0, .int .i64 0, .slice none 0 0] 24)) = W0 at h hv DM DH DZ bz hsz ⊢
  obtain ⟨y0, y1, y2, y3, y4, y5⟩ := Mbx.cells DM
  obtain ⟨u0, u1, u2, u3⟩ := Rbx.cells DH
  go_wp2_with fail
  with_reducible refine (pm _).mono ?_
  rintro e w1 ⟨rfl, hb⟩
  clear y0 y1 y2 y3 y4 y5 u0 u1 u2 u3
  replace h := h.on hb
  replace hv := hv.on hb
  replace DM := DM.on hb
  replace DH := DH.on hb
  replace DZ := DZ.on hb
  replace bz := bz.trans (hb.mono bz.size)
  have hs1 := hb.size
  clear hb
  have DO := Blk.new w1 [.slice VA m vc, .float .f64 t] 51
  obtain ⟨y0, y1, y2, y3, y4, y5⟩ := Mbx.cells DM
  obtain ⟨u0, u1, u2, u3⟩ := Rbx.cells DH
  have hbA := (Below.refl _ w1).alloc (Nat.le_refl _) (.cells #[.slice VA m vc, .float .f64 t] 51)
  replace h := h.on hbA
  replace hv := hv.on hbA
  replace DM := DM.on hbA
  replace DH := DH.on hbA
  replace DZ := DZ.on hbA
  clear hbA
  replace bz := bz.alloc bz.size (.cells #[.slice VA m vc, .float .f64 t] 51)
  have hR1 := Rl.one hv ht DO
  have pt := gtog_any (b := true) hR1 (by unfold togB longB; simp; rw [hv.1]; exact hm)
  go_wp2_with fail
  with_reducible refine (pt).mono ?_
  rintro e w2 ⟨rfl, hb⟩
  clear y0 y1 y2 y3 y4 y5 u0 u1 u2 u3 DO hR1
  replace h := h.on hb
  replace hv := hv.on hb
  replace DM := DM.on hb
  replace DH := DH.on hb
  replace DZ := DZ.on hb
  replace bz := bz.trans (hb.mono bz.size)
  clear hb
  obtain ⟨y0, y1, y2, y3, y4, y5⟩ := Mbx.cells DM
  obtain ⟨u0, u1, u2, u3⟩ := Rbx.cells DH
  have hE1 : Bl (w2.alloc (.cells #[.bool true, .bool true] 4)) (some ⟨w2.heap.size, 0, none⟩) 2 [true, true] := ⟨rfl, by omega, fun _ => ⟨_, rfl, fun i b hi => by
    have h9 := Blk.new w2 [.bool true, .bool true] 4
    rw [add_at]
    rcases i with _ | _ | i
    · simp at hi; subst hi; exact Blk.cell h9 0 rfl
    · simp at hi; subst hi; exact Blk.cell h9 1 rfl
    · simp at hi⟩⟩
  have hbA := (Below.refl _ w2).alloc (Nat.le_refl _) (.cells #[.bool true, .bool true] 4)
  replace h := h.on hbA
  replace hv := hv.on hbA
  replace DM := DM.on hbA
  replace DH := DH.on hbA
  replace DZ := DZ.on hbA
  clear hbA
  replace bz := bz.alloc bz.size (.cells #[.bool true, .bool true] 4)
  have pr := gRef_any (c := 2) (E := 0) hE1 rfl
  go_wp2_with fail
  with_reducible refine pr.mono ?_
  rintro e w3 ⟨rfl, rfl⟩
  clear pr hE1 y0 y1 y2 y3 y4 y5 u0 u1 u2 u3
  have hW3 : w.heap.size + 1 + 1 + 1 ≤ (w2.alloc (.cells #[.bool true, .bool true] 4)).heap.size := by have := DZ.lt; omega
  generalize (w2.alloc (.cells #[.bool true, .bool true] 4)) = wr3 at h hv DM DH DZ bz hW3 ⊢
  have pcp := gcopied_any (R := (M : Int)) (C := (q : Int)) h (by omega)
  obtain ⟨y0, y1, y2, y3, y4, y5⟩ := Mbx.cells DM
  obtain ⟨u0, u1, u2, u3⟩ := Rbx.cells DH
  go_wp2_with fail
  with_reducible refine (pcp).mono ?_
  rintro e w3 ⟨g2, rfl, hR, hg2, hb⟩
  clear y0 y1 y2 y3 y4 y5 u0 u1 u2 u3 pcp
  replace h := h.on hb
  replace hv := hv.on hb
  replace DM := DM.on hb
  replace DH := DH.on hb
  replace DZ := DZ.on hb
  replace bz := bz.trans (hb.mono bz.size)
  have hs3 := hb.size
  clear hb
  have hO := hR.owned (B := w.heap.size) (by omega) (by omega)
  clear hR
  have DK := Blk.new w3 [.int .i64 M, .int .i64 q, .slice (some ⟨g2, 0, none⟩) n n] 24
  have hgX := (hO.gt rfl).2
  rw [hll] at hO
  have hbA := (Below.refl _ w3).alloc (Nat.le_refl _) (.cells #[.int .i64 M, .int .i64 q, .slice (some ⟨g2, 0, none⟩) n n] 24)
  replace h := h.on hbA
  replace hv := hv.on hbA
  replace DM := DM.on hbA
  replace DH := DH.on hbA
  replace DZ := DZ.on hbA
  replace hO := hO.alloc_ (.cells #[.int .i64 M, .int .i64 q, .slice (some ⟨g2, 0, none⟩) n n] 24)
  clear hbA
  replace bz := bz.alloc bz.size (.cells #[.int .i64 M, .int .i64 q, .slice (some ⟨g2, 0, none⟩) n n] 24)
  have hszX : w.heap.size + 1 + 1 + 1 ≤ w3.heap.size := by have := DZ.lt; simp at this; omega
  have hVA : ∀ a, VA = some a → a.block ≠ g2 := fun a e => by have := hvb a e; omega
  obtain ⟨y0, y1, y2, y3, y4, y5⟩ := Mbx.cells DM
  obtain ⟨u0, u1, u2, u3⟩ := Rbx.cells DH
  go_upto_region 7 with fail
  clear y0 y1 y2 y3 y4 y5 u0 u1 u2 u3
  generalize (w3.alloc (.cells #[.int .i64 M, .int .i64 q, .slice (some ⟨g2, 0, none⟩) n n] 24)) = w5 at h hv DM DH DZ DK hO bz ⊢
  skip
  have hMr : Mr l l M q (rP (eqA (af t) (some 0)) p m f 0) (rF l v q p m (af t)) := Mr.start (by rw [hll, HN.out]) h.2.2 (fun a b _ _ => by unfold rP; simp <;> omega)
  have hm5 : m ≤ 512 := by omega
  go_loopw [54, 13] (fun i i2 wr => ∃ (k : Nat) (L : List Int), k ≤ M - f ∧ i = .int .i64 k ∧ Mr L l M q (rP (eqA (af t) (some 0)) p m f k) (rF l v q p m (af t)) ∧ OwnF wr w.heap.size (some ⟨g2, 0, none⟩) n L ∧ FL wr VA m vc v ∧ Mbx wr w.heap.size M q A n c ∧ Rbx wr (w.heap.size + 1) VA m vc t ∧ Mbx wr (w.heap.size + 1 + 1) 0 0 none 0 0 ∧ Mbx wr w3.heap.size M q (some ⟨g2, 0, none⟩) n n ∧ Below w.heap.size w wr) (fun i _ _ => M - (intOf i).toNat)
  case atStart => exact ⟨0, l, Nat.zero_le _, rfl, hMr, hO, hv, DM, DH, DZ, DK, bz⟩
  case round =>
    clear hMr hO hv DM DH DZ DK bz h
    obtain ⟨k, L, hk, rfl, hMr, hO, hv, DM, DH, DZ, DK, bz⟩ := hrel
    by_cases hlt : k < M - f
    · have k0 : (0 : Int) ≤ k := by omega
      have k1 : (k : Int) < (M : Int) - (f : Int) := by omega
      obtain ⟨fk, hfk⟩ : ∃ fk, f + k = fk := ⟨_, rfl⟩
      obtain ⟨y, hy⟩ : ∃ y, fk * q = y := ⟨_, rfl⟩
      obtain ⟨o, ho⟩ : ∃ o, y + p = o := ⟨_, rfl⟩
      have hon : o < n := by rw [← ho, ← hy, HN.out]; exact ix_lt (by omega) (by omega)
      have efk : (f : Int) + (k : Int) = (fk : Int) := by omega
      have ey : (fk : Int) * (q : Int) = (y : Int) := by exact_mod_cast hy
      have eo : (y : Int) + (p : Int) = (o : Int) := by omega
      have wy : IntKind.i64.wrap (y : Int) = (y : Int) := IntWalk.i64_in _ (by omega)
      have wo : IntKind.i64.wrap (o : Int) = (o : Int) := IntWalk.i64_in _ (by omega)
      have wfk : IntKind.i64.wrap (fk : Int) = (fk : Int) := IntWalk.i64_in _ (by omega)
      have o0 : (0 : Int) ≤ o := by omega
      have o2 : (o : Int) ≤ n := by omega
      have o3 : ¬ n = o := by omega
      have hML := hMr.len
      have hLn : L.length = n := by rw [hML, HN.out]
      have hq0 : 0 < q := by omega
      have hfit : ∀ i, i < m → o + i * 1 < L.length := fun i hi => by
        rw [hML]
        have := ix_lt (i := f + k) (j := p + i) (m := M) (q := q) (by omega) (by omega)
        rw [hfk, hy] at this
        omega
      go_wp2_with fail
      replace hO := hO.drew
      replace hv := hv.drew
      replace DM := DM.drew
      replace DH := DH.drew
      replace DZ := DZ.drew
      replace DK := DK.drew
      replace bz := bz.drew
      refine wp_region_held_drew (S := fun w9 : World => Mbx w9 w.heap.size M q A n c ∧ Rbx w9 (w.heap.size + 1) VA m vc t ∧ Mbx w9 w3.heap.size M q (some ⟨g2, 0, none⟩) n n) (by kernel_rfl) ⟨DM, DH, DK⟩ (fun hS => ?_)
      generalize wr.drew = wd at hS hO hv DM DH DZ DK  bz ⊢
      refine wpAnyH_take (i := 0) (v := ?v0_15) rfl (by kernel_rfl) (by kernel_rfl) (by kernel_rfl) (fun _ _ _ h => h) (Or.inl ⟨by rfl, ?hy0_15⟩) (by assumption) ?rest0_15
      case hy0_15 => (intro w9 hSw; obtain ⟨ma1, ma2, ma3⟩ := hSw; obtain ⟨y0, y1, y2, _, _, _⟩ := Mbx.cells ma1; obtain ⟨u0, u1, _, _⟩ := Rbx.cells ma2; obtain ⟨v0, v1, v2, _, _, _⟩ := Mbx.cells ma3; go_simp; try with_reducible rfl)
      try simp only [Act.put, List.setIfInBounds_toArray, List.set_cons_zero, List.set_cons_succ, List.getElem_toArray, List.getElem_cons_zero, List.getElem_cons_succ]
      refine wpAnyH_take (i := 1) (v := ?v1_16) rfl (by kernel_rfl) (by kernel_rfl) (by kernel_rfl) (fun _ _ _ h => h) (Or.inl ⟨by rfl, ?hy1_16⟩) (by assumption) ?rest1_16
      case hy1_16 => (intro w9 hSw; clear hSw; go_simp; try with_reducible rfl)
      try simp only [Act.put, List.setIfInBounds_toArray, List.set_cons_zero, List.set_cons_succ, List.getElem_toArray, List.getElem_cons_zero, List.getElem_cons_succ]
      refine wpAnyH_take (i := 2) (v := ?v2_17) rfl (by kernel_rfl) (by kernel_rfl) (by kernel_rfl) (fun _ _ _ h => h) (Or.inl ⟨by rfl, ?hy2_17⟩) (by assumption) ?rest2_17
      case hy2_17 => (intro w9 hSw; obtain ⟨ma1, ma2, ma3⟩ := hSw; obtain ⟨y0, y1, y2, _, _, _⟩ := Mbx.cells ma1; obtain ⟨u0, u1, _, _⟩ := Rbx.cells ma2; obtain ⟨v0, v1, v2, _, _, _⟩ := Mbx.cells ma3; go_simp; try with_reducible rfl)
      try simp only [Act.put, List.setIfInBounds_toArray, List.set_cons_zero, List.set_cons_succ, List.getElem_toArray, List.getElem_cons_zero, List.getElem_cons_succ]
      refine wpAnyH_take (i := 3) (v := ?v3_18) rfl (by kernel_rfl) (by kernel_rfl) (by kernel_rfl) (fun _ _ _ h => h) (Or.inl ⟨by rfl, ?hy3_18⟩) (by assumption) ?rest3_18
      case hy3_18 => (intro w9 hSw; clear hSw; go_simp; try with_reducible rfl)
      try simp only [Act.put, List.setIfInBounds_toArray, List.set_cons_zero, List.set_cons_succ, List.getElem_toArray, List.getElem_cons_zero, List.getElem_cons_succ]
      refine wpAnyH_take (i := 4) (v := ?v4_19) rfl (by kernel_rfl) (by kernel_rfl) (by kernel_rfl) (fun _ _ _ h => h) (Or.inl ⟨by rfl, ?hy4_19⟩) (by assumption) ?rest4_19
      case hy4_19 => (intro w9 hSw; clear hSw; go_simp; try with_reducible rfl)
      try simp only [Act.put, List.setIfInBounds_toArray, List.set_cons_zero, List.set_cons_succ, List.getElem_toArray, List.getElem_cons_zero, List.getElem_cons_succ]
      refine wpAnyH_take (i := 5) (v := ?v5_20) rfl (by kernel_rfl) (by kernel_rfl) (by kernel_rfl) (fun _ _ _ h => h) (Or.inl ⟨by rfl, ?hy5_20⟩) (by assumption) ?rest5_20
      case hy5_20 => (intro w9 hSw; clear hSw; go_simp; try with_reducible rfl)
      try simp only [Act.put, List.setIfInBounds_toArray, List.set_cons_zero, List.set_cons_succ, List.getElem_toArray, List.getElem_cons_zero, List.getElem_cons_succ]
      refine wpAnyH_take (i := 6) (v := ?v6_21) rfl (by kernel_rfl) (by kernel_rfl) (by kernel_rfl) (fun _ _ _ h => h) (Or.inl ⟨by rfl, ?hy6_21⟩) (by assumption) ?rest6_21
      case hy6_21 => (intro w9 hSw; clear hSw; go_simp; try with_reducible rfl)
      try simp only [Act.put, List.setIfInBounds_toArray, List.set_cons_zero, List.set_cons_succ, List.getElem_toArray, List.getElem_cons_zero, List.getElem_cons_succ]
      refine wpAnyH_take (i := 7) (v := ?v7_22) rfl (by kernel_rfl) (by kernel_rfl) (by kernel_rfl) (fun _ _ _ h => h) (Or.inl ⟨by rfl, ?hy7_22⟩) (by assumption) ?rest7_22
      case hy7_22 => (intro w9 hSw; obtain ⟨ma1, ma2, ma3⟩ := hSw; obtain ⟨y0, y1, y2, _, _, _⟩ := Mbx.cells ma1; obtain ⟨u0, u1, _, _⟩ := Rbx.cells ma2; obtain ⟨v0, v1, v2, _, _, _⟩ := Mbx.cells ma3; go_simp; try with_reducible rfl)
      try simp only [Act.put, List.setIfInBounds_toArray, List.set_cons_zero, List.set_cons_succ, List.getElem_toArray, List.getElem_cons_zero, List.getElem_cons_succ]
      refine wpAnyH_take (i := 8) (v := ?v8_23) rfl (by kernel_rfl) (by kernel_rfl) (by kernel_rfl) (fun _ _ _ h => h) (Or.inl ⟨by rfl, ?hy8_23⟩) (by assumption) ?rest8_23
      case hy8_23 => (intro w9 hSw; clear hSw; go_simp; try with_reducible rfl)
      try simp only [Act.put, List.setIfInBounds_toArray, List.set_cons_zero, List.set_cons_succ, List.getElem_toArray, List.getElem_cons_zero, List.getElem_cons_succ]
      refine wpAnyH_take (i := 9) (v := ?v9_24) rfl (by kernel_rfl) (by kernel_rfl) (by kernel_rfl) (fun _ _ _ h => h) (Or.inl ⟨by rfl, ?hy9_24⟩) (by assumption) ?rest9_24
      case hy9_24 => (intro w9 hSw; clear hSw; go_simp; try with_reducible rfl)
      try simp only [Act.put, List.setIfInBounds_toArray, List.set_cons_zero, List.set_cons_succ, List.getElem_toArray, List.getElem_cons_zero, List.getElem_cons_succ]
      refine wpAnyH_take (i := 10) (v := ?v10_25) rfl (by kernel_rfl) (by kernel_rfl) (by kernel_rfl) (fun _ _ _ h => h) (Or.inl ⟨by rfl, ?hy10_25⟩) (by assumption) ?rest10_25
      case hy10_25 => (intro w9 hSw; clear hSw; go_simp; try with_reducible rfl)
      try simp only [Act.put, List.setIfInBounds_toArray, List.set_cons_zero, List.set_cons_succ, List.getElem_toArray, List.getElem_cons_zero, List.getElem_cons_succ]
      refine wpAnyH_take (i := 11) (v := ?v11_26) rfl (by kernel_rfl) (by kernel_rfl) (by kernel_rfl) (fun _ _ _ h => h) (Or.inl ⟨by rfl, ?hy11_26⟩) (by assumption) ?rest11_26
      case hy11_26 => (intro w9 hSw; clear hSw; go_simp; try with_reducible rfl)
      try simp only [Act.put, List.setIfInBounds_toArray, List.set_cons_zero, List.set_cons_succ, List.getElem_toArray, List.getElem_cons_zero, List.getElem_cons_succ]
      refine wpAnyH_ready (rs := [12]) (by kernel_rfl) (by simp) ?_
      refine AllReadyH.cons rfl (fun K hK => ?_) AllReadyH.nil
      go_simp
      have ptn := turn_any (w := wd) (q := 1) (o := o) (n := n - o) (ec := n - o) hv ht hO hMr.wd hVA hfit (by rw [hLn]; omega) (Nat.le_refl _) (by omega) (by decide)
      replace ptn : Calls Try.prog 61 #[rV VA m vc t, .slice (some ⟨g2, o, none⟩) (n - o) (n - o), .int .i64 1] wd (TurnP wd w.heap.size g2 n o 1 m t v L) := ptn
      with_reducible refine ptn.mono ?_
      rintro e w9 ⟨L2, rfl, hO9, hT9, hg9⟩
      clear ptn
      replace DM := DM.grown hg9 (by simp; omega)
      replace DH := DH.grown hg9 (by simp; omega)
      replace DZ := DZ.grown hg9 (by simp; omega)
      replace DK := DK.grown hg9 (by simp; omega)
      replace hv := hv.farB hg9 hVA
      replace bz := below_grown bz hg9 (by omega) bz.size
      replace hO := hO9
      clear hO9 hg9
      clear hS; refine hK.out _ _ ⟨DM, DH, DK⟩ (fun hS => ?_); clear hK K
      try simp only [Act.put, List.setIfInBounds_toArray, List.set_cons_zero, List.set_cons_succ, List.getElem_toArray, List.getElem_cons_zero, List.getElem_cons_succ]
      refine wpAnyH_done (by kernel_rfl) ?_ _
      have hM9 := hMr.right (o := o) (by rw [hfk, hy, ho]) (by omega) hp hT9
      clear hT9 hMr
      go_wp2_with fail
      go_roundw
      case rel => exact ⟨k + 1, L2, by omega, by go_num, hM9, hO, hv, DM, DH, DZ, DK, bz⟩
      case measure => simp [intOf]; omega
    · obtain rfl : k = M - f := by omega
      obtain ⟨v0, v1, v2, v3, v4, v5⟩ := Mbx.cells DK
      obtain ⟨z0, z1, z2, z3, z4, z5⟩ := Mbx.cells DZ
      have DZ9 := Mbx.put DZ M q (some ⟨g2, 0, none⟩) n n
      obtain ⟨c0, c1, c2, _, _, _⟩ := Mbx.cells DZ9
      have hO9 := hO.grown_ (row := some (w.heap.size + 1 + 1)) (w' := ((wr.setCell ⟨w.heap.size + 1 + 1, 0, none⟩ (.int .i64 M)).setCell ⟨w.heap.size + 1 + 1, 1, none⟩ (.int .i64 q)).setCell ⟨w.heap.size + 1 + 1, 2, none⟩ (.slice (some ⟨g2, 0, none⟩) n n)) (grown_setCell (grown_setCell (grown_setCell (World.grownBy.refl wr _) 0 _) 1 _) 2 _) (fun a e => by injection e with e; subst e; simp; omega)
      have bz9 := ((bz.setCell (p := ⟨w.heap.size + 1 + 1, 0, none⟩) (by simp; omega) (.int .i64 M)).setCell (p := ⟨w.heap.size + 1 + 1, 1, none⟩) (by simp; omega) (.int .i64 q)).setCell (p := ⟨w.heap.size + 1 + 1, 2, none⟩) (by simp; omega) (.slice (some ⟨g2, 0, none⟩) n n)
      have hI := hMr.is
      rw [← HN.out] at hI
      go_wp2_with fail
      refine bodyPost_ret (v := .tuple #[mV M q (some ⟨g2, 0, none⟩) n n, .int .i64 0]) (by simp [results, Try.results35, go_sem, c0, c1, c2]) rfl ?_
      exact ⟨g2, n, L, rfl, hO9, hI, bz9⟩
end Go.Proofs.Ytbaeabmmokgomaa
