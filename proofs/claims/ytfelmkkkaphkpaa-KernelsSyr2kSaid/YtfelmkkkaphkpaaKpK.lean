/-
  Layer 8: Syr2k: regions whose operations don't wait, refused, by the program, the law.
-/
import Derived.Test.YtfelmkkkaphkpaaKlA
import Derived.Test.YtfelmkkkaphkpaaKnV
import Derived.Test.YtfelmkkkaphkpaaKnY
import Derived.OrdersHeld
import Derived.Deep.RegionHeld
import Derived.Below
namespace Go.Proofs.Ytfelmkkkaphkpaa
set_option linter.unusedVariables false
set_option linter.unusedSimpArgs false

/-- all rows of n flags -/
def allB : Nat → List (List Bool)
  | 0 => [[]]
  | n + 1 => (allB n).flatMap fun bs => [false :: bs, true :: bs]
theorem mem_allB : ∀ bs : List Bool, bs ∈ allB bs.length
  | [] => List.mem_singleton.2 rfl
  | b :: bs => by
    show b :: bs ∈ (allB bs.length).flatMap fun bs => [false :: bs, true :: bs]
    refine List.mem_flatMap.2 ⟨bs, mem_allB bs, ?_⟩
    cases b <;> simp
section
variable {P : Program} {ops : Array Oper} {Q : Exit → Act → World → Prop} {md : Region.Mode} {S : World → Prop}
/-- what has come up (L) fits the flags: what is ready is among the operations is, and has not come up; where one comes up, its flag is set; ok: the flags that can be -/
def flagsOk (md : Region.Mode) (ops : Array Oper) (is : List Nat) (L : List Bool → Array Bool) (ok : List Bool → Bool) (bs : List Bool) : Bool :=
  !ok bs || bs.all id || (!(Region.ready md ops (L bs)).isEmpty && (Region.ready md ops (L bs)).all fun i => (List.range is.length).any fun k => is[k]? == some i && bs[k]? == some false && (L bs).setIfInBounds i true == L (bs.set k true) && ok (bs.set k true))
theorem count_set : ∀ (bs : List Bool) (k : Nat), bs[k]? = some false → (bs.set k true).count false + 1 = bs.count false
  | [], k, h => by simp at h
  | b :: bs, 0, h => by
    have : b = false := by simpa using h
    subst this
    simp
  | b :: bs, k + 1, h => by
    have ih := count_set bs k (by simpa using h)
    rw [List.set_cons_succ, List.count_cons, List.count_cons]
    omega
theorem count_all : ∀ bs : List Bool, bs.count false = 0 → bs = List.replicate bs.length true
  | [], _ => rfl
  | b :: bs, h => by
    rw [List.count_cons] at h
    cases b
    · simp at h
    · have := count_all bs (by simpa using h)
      rw [List.length_cons, List.replicate_succ, ← this]
/-- a step of the operation k -/
def FreeStep (P : Program) (ops : Array Oper) (Q : Exit → Act → World → Prop) (S : World → Prop) (ok : List Bool → Bool) (is : List Nat) (I : List Bool → Act → World → Prop) (k : Nat) : Prop :=
  ∀ (bs : List Bool) (a : Act) (w : World), bs.length = is.length → bs[k]? = some false → ok (bs.set k true) = true → I bs a w → S w → ∃ i o, is[k]? = some i ∧ ops[i]? = some o ∧
    ∀ K' : Act → World → Prop, Shut (∀ a w, S w → I (bs.set k true) a w → K' a w) → if Region.wanted o (yielded ops a.tmps) = true then Oper.wp P o a w K' Q else K' (a.put o.dst undef) w
theorem wpAnyH_free {is : List Nat} {L : List Bool → Array Bool} (ok : List Bool → Bool) (I : List Bool → Act → World → Prop) {F : Nat}
    (hck : (allB is.length).all (flagsOk md ops is L ok) = true)
    (hstep : ∀ k, k < is.length → FreeStep P ops Q S ok is I k)
    (hend : ∀ a w, I (List.replicate is.length true) a w → S w → wpAnyH P md ops Q S F (L (List.replicate is.length true)) a w) :
    ∀ (n : Nat) (bs : List Bool) (a : Act) (w : World), bs.length = is.length → bs.count false = n → ok bs = true → I bs a w → S w → wpAnyH P md ops Q S (F + n) (L bs) a w
  | 0, bs, a, w, hl, hc, _, hI, hS => by
    have e := count_all bs hc
    rw [hl] at e
    subst e
    exact hend a w hI hS
  | n + 1, bs, a, w, hl, hc, hok, hI, hS => by
    have h1 := List.all_eq_true.1 hck bs (by rw [← hl]; exact mem_allB bs)
    unfold flagsOk at h1
    have hna : bs.all id = false := by
      cases h : bs.all id
      · rfl
      · exfalso
        have h2 := List.all_eq_true.1 h
        have : bs.count false = 0 := List.count_eq_zero.2 (fun hm => by have := h2 _ hm; simp at this)
        omega
    rw [hok, hna, Bool.not_true, Bool.false_or, Bool.false_or] at h1
    obtain ⟨h2, h3⟩ := Bool.and_eq_true_iff.1 h1
    refine wpAnyH_all (rs := Region.ready md ops (L bs)) rfl (by intro e; rw [e] at h2; simp at h2) (fun i hi => ?_)
    obtain ⟨k, hk, h4⟩ := List.any_eq_true.1 (List.all_eq_true.1 h3 i hi)
    obtain ⟨h45, hok2⟩ := Bool.and_eq_true_iff.1 h4
    obtain ⟨h5, h6⟩ := Bool.and_eq_true_iff.1 h45
    obtain ⟨h7, h8⟩ := Bool.and_eq_true_iff.1 h5
    have hki := eq_of_beq h7
    have hkb := eq_of_beq h8
    have hLs := eq_of_beq h6
    obtain ⟨i2, o, e2, ho, hgo⟩ := hstep k (List.mem_range.1 hk) bs a w hl hkb hok2 hI hS
    rw [hki] at e2
    cases e2
    refine wpOp_step ho (fun K' hK => hgo K' (fun a' w' hS' hI' => hK a' w' ⟨hS', ?_⟩))
    have := wpAnyH_free ok I hck hstep hend n (bs.set k true) a' w' (by rw [List.length_set]; exact hl) (by have := count_set bs k hkb; omega) hok2 hI' hS'
    rw [hLs]
    exact this
/-- over a frame that stays, but for what comes up -/
theorem wpAnyH_freeT {is : List Nat} {L : List Bool → Array Bool} (ok : List Bool → Bool) (I : Array Value → List Bool → Act → World → Prop) {F : Nat} {T : Array Value} {w : World}
    (hck : (allB is.length).all (flagsOk md ops is L ok) = true)
    (hstep : ∀ k, k < is.length → FreeStep P ops Q S ok is (I T) k)
    (hend : ∀ a w, I T (List.replicate is.length true) a w → S w → wpAnyH P md ops Q S F (L (List.replicate is.length true)) a w)
    (n : Nat) (bs : List Bool) (hl : bs.length = is.length) (hc : bs.count false = n) (hok : ok bs = true) (hI : I T bs { tmps := T, defers := [] } w) (hS : S w) : wpAnyH P md ops Q S (F + n) (L bs) { tmps := T, defers := [] } w :=
  wpAnyH_free ok (I T) hck hstep hend n bs _ w hl hc hok hI hS
end
end Go.Proofs.Ytfelmkkkaphkpaa
namespace Go.Proofs.Ytfelmkkkaphkpaa
set_option linter.unusedVariables false
set_option linter.unusedSimpArgs false

/-- f, but x at k -/
def upN (f : Nat → Nat) (k x i : Nat) : Nat := if i = k then x else f i
/-- what has come up (flags bs) lies in blocks from z on, the k-th in those from lo k to hi k, no two in one -/
structure Pol (z : Nat) (W : World) (bs : List Bool) (lo hi : Nat → Nat) : Prop where
  rng : ∀ k : Nat, bs[k]? = some true → z ≤ lo k ∧ lo k ≤ hi k ∧ hi k ≤ W.heap.size
  ap : ∀ j k : Nat, j ≠ k → bs[j]? = some true → bs[k]? = some true → hi j ≤ lo k ∨ hi k ≤ lo j
section
variable {z : Nat} {W W' : World} {bs : List Bool} {lo hi : Nat → Nat}
theorem Pol.start (hf : ∀ k : Nat, bs[k]? ≠ some true) : Pol z W bs lo hi := ⟨fun k h => absurd h (hf k), fun j k _ h => absurd h (hf j)⟩
theorem Pol.step (h : Pol z W bs lo hi) (k : Nat) (hs : W.heap.size ≤ W'.heap.size) (hz : z ≤ W.heap.size) : Pol z W' (bs.set k true) (upN lo k W.heap.size) (upN hi k W'.heap.size) := by
  have hb : ∀ j : Nat, j ≠ k → (bs.set k true)[j]? = some true → bs[j]? = some true := fun j e hj => by rwa [List.getElem?_set_ne (fun e2 => e e2.symm)] at hj
  refine ⟨fun j hj => ?_, fun i j hij hi2 hj2 => ?_⟩
  · unfold upN
    by_cases e : j = k
    · rw [if_pos e, if_pos e]; omega
    · rw [if_neg e, if_neg e]
      have := h.rng j (hb j e hj)
      omega
  · unfold upN
    by_cases e1 : i = k
    · rw [if_pos e1, if_pos e1, if_neg (fun e => hij (e1.trans e.symm)), if_neg (fun e => hij (e1.trans e.symm))]
      have := h.rng j (hb j (fun e => hij (e1.trans e.symm)) hj2)
      omega
    · rw [if_neg e1, if_neg e1]
      by_cases e2 : j = k
      · rw [if_pos e2, if_pos e2]
        have := h.rng i (hb i e1 hi2)
        omega
      · rw [if_neg e2, if_neg e2]
        exact h.ap i j hij (hb i e1 hi2) (hb j e2 hj2)
end
theorem bools4 : ∀ bs : List Bool, bs.length = 4 → ∃ b0 b1 b2 b3, bs = [b0, b1, b2, b3]
  | [b0, b1, b2, b3], _ => ⟨b0, b1, b2, b3, rfl⟩
theorem bools5 : ∀ bs : List Bool, bs.length = 5 → ∃ b0 b1 b2 b3 b4, bs = [b0, b1, b2, b3, b4]
  | [b0, b1, b2, b3, b4], _ => ⟨b0, b1, b2, b3, b4, rfl⟩
theorem bools6 : ∀ bs : List Bool, bs.length = 6 → ∃ b0 b1 b2 b3 b4 b5, bs = [b0, b1, b2, b3, b4, b5]
  | [b0, b1, b2, b3, b4, b5], _ => ⟨b0, b1, b2, b3, b4, b5, rfl⟩
theorem bools8 : ∀ bs : List Bool, bs.length = 8 → ∃ b0 b1 b2 b3 b4 b5 b6 b7, bs = [b0, b1, b2, b3, b4, b5, b6, b7]
  | [b0, b1, b2, b3, b4, b5, b6, b7], _ => ⟨b0, b1, b2, b3, b4, b5, b6, b7, rfl⟩
end Go.Proofs.Ytfelmkkkaphkpaa
namespace Go.Proofs.Ytfelmkkkaphkpaa
open Go.RowKit Go.Bw Go.Sort Go.Shelf
set_option linter.unusedVariables false
set_option linter.unusedSimpArgs false

section
variable {w : World} {u x y : Vu} {U X Y : List Int} {a b : Nat} {up unit : Bool}
set_option maxRecDepth 100000 in
set_option maxHeartbeats 8000000 in
theorem Syr2k_no0 (hu : Sv w u U) (hx : Sv w x X) (hy : Sv w y Y) {E : Int} (h0 : (szd u x.R x.C) = false) (he : refE ((szd u x.R x.C) && (szd y u.R u.R)) [u, x, y] = E) (hn : E ≠ 0) : Calls Try.prog 45 #[.float .f64 a, u.V, x.V, .float .f64 b, y.V] w (Ans w (.int .i64 E)) := by
  have hft : ((szd u x.R x.C) && (szd y u.R u.R)) = false := by simp [h0]
  rw [hft] at he
  clear hft
  have HSu := Lib.hid hu
  have HSx := Lib.hid hx
  have HSy := Lib.hid hy
  have hne : (E != 0) = true := by simpa using hn
  have HE := Lib.hid he
  have p2 := fun (W : World) (bz : Below w.heap.size w W) => sized_is u x.R x.C W
  simp only [h0] at p2
  clear he hn hu hx hy h0
  have Db0 := Blk.new w [.float .f64 a] 32
  have Du := Blk.new (w.alloc (.cells #[.float .f64 a] 32)) u.L 30
  replace Db0 := Db0.alloc (.cells u.L.toArray 30)
  simp only [World.size_alloc] at Du
  have Dx := Blk.new ((w.alloc (.cells #[.float .f64 a] 32)).alloc (.cells u.L.toArray 30)) x.L 30
  replace Db0 := Db0.alloc (.cells x.L.toArray 30)
  replace Du := Du.alloc (.cells x.L.toArray 30)
  simp only [World.size_alloc] at Dx
  have Db3 := Blk.new (((w.alloc (.cells #[.float .f64 a] 32)).alloc (.cells u.L.toArray 30)).alloc (.cells x.L.toArray 30)) [.float .f64 b] 32
  replace Db0 := Db0.alloc (.cells #[.float .f64 b] 32)
  replace Du := Du.alloc (.cells #[.float .f64 b] 32)
  replace Dx := Dx.alloc (.cells #[.float .f64 b] 32)
  simp only [World.size_alloc] at Db3
  have Dy := Blk.new ((((w.alloc (.cells #[.float .f64 a] 32)).alloc (.cells u.L.toArray 30)).alloc (.cells x.L.toArray 30)).alloc (.cells #[.float .f64 b] 32)) y.L 30
  replace Db0 := Db0.alloc (.cells y.L.toArray 30)
  replace Du := Du.alloc (.cells y.L.toArray 30)
  replace Dx := Dx.alloc (.cells y.L.toArray 30)
  replace Db3 := Db3.alloc (.cells y.L.toArray 30)
  simp only [World.size_alloc] at Dy
  have bz := (((((Below.refl _ w).alloc (Nat.le_refl _) (.cells #[.float .f64 a] 32)).alloc (by simp <;> omega) (.cells u.L.toArray 30)).alloc (by simp <;> omega) (.cells x.L.toArray 30)).alloc (by simp <;> omega) (.cells #[.float .f64 b] 32)).alloc (by simp <;> omega) (.cells y.L.toArray 30)
  have hsz0 : (((((w.alloc (.cells #[.float .f64 a] 32)).alloc (.cells u.L.toArray 30)).alloc (.cells x.L.toArray 30)).alloc (.cells #[.float .f64 b] 32)).alloc (.cells y.L.toArray 30)).heap.size = w.heap.size + 5 := by simp
  go_enter Try.func45, Try.ntmps45
  go_wp2_with fail
  replace Db0 := Db0.drew
  replace Du := Du.drew
  replace Dx := Dx.drew
  replace Db3 := Db3.drew
  replace Dy := Dy.drew
  replace bz := bz.drew
  refine wp_region_held_drew (S := fun w9 : World => Vbx w9 (w.heap.size + 1) u ∧ Vbx w9 (w.heap.size + 2) x ∧ Vbx w9 (w.heap.size + 4) y) (by kernel_rfl) ⟨Du, Dx, Dy⟩ (fun hS => ?_)
  generalize (((((w.alloc (.cells #[.float .f64 a] 32)).alloc (.cells u.L.toArray 30)).alloc (.cells x.L.toArray 30)).alloc (.cells #[.float .f64 b] 32)).alloc (.cells y.L.toArray 30)).drew = wd at hS Db0 Du Dx Db3 Dy  bz ⊢
  refine wpAnyH_take (i := 0) (v := ?v0_88) rfl (by kernel_rfl) (by kernel_rfl) (by kernel_rfl) (fun _ _ _ h => h) (Or.inl ⟨by rfl, ?hy0_88⟩) (by assumption) ?rest0_88
  case hy0_88 => (intro w9 hSw; obtain ⟨m0, m1, m2⟩ := hSw; refine (ld_v (by rfl) (by kernel_rfl) m0).trans ?_; with_reducible rfl)
  try simp only [Act.put, List.setIfInBounds_toArray, List.set_cons_zero, List.set_cons_succ, List.getElem_toArray, List.getElem_cons_zero, List.getElem_cons_succ]
  refine wpAnyH_take (i := 1) (v := ?v1_89) rfl (by kernel_rfl) (by kernel_rfl) (by kernel_rfl) (fun _ _ _ h => h) (Or.inl ⟨by rfl, ?hy1_89⟩) (by assumption) ?rest1_89
  case hy1_89 => (intro w9 hSw; obtain ⟨m0, m1, m2⟩ := hSw; refine (ld_v (by rfl) (by kernel_rfl) m1).trans ?_; with_reducible rfl)
  try simp only [Act.put, List.setIfInBounds_toArray, List.set_cons_zero, List.set_cons_succ, List.getElem_toArray, List.getElem_cons_zero, List.getElem_cons_succ]
  refine wpAnyH_take (i := 3) (v := ?v3_90) rfl (by kernel_rfl) (by kernel_rfl) (by kernel_rfl) (fun _ _ _ h => h) (Or.inl ⟨by rfl, ?hy3_90⟩) (by assumption) ?rest3_90
  case hy3_90 => (intro w9 hSw; obtain ⟨m0, m1, m2⟩ := hSw; refine (ld_v (by rfl) (by kernel_rfl) m1).trans ?_; with_reducible rfl)
  try simp only [Act.put, List.setIfInBounds_toArray, List.set_cons_zero, List.set_cons_succ, List.getElem_toArray, List.getElem_cons_zero, List.getElem_cons_succ]
  refine wpAnyH_ready (rs := [2]) (by kernel_rfl) (by simp) ?_
  refine AllReadyH.cons rfl (fun K hK => ?_) AllReadyH.nil
  go_simp
  with_reducible refine (Rows_any x _).mono ?_
  rintro e w1 ⟨rfl, hb⟩
  replace Db0 := Db0.on hb
  replace Du := Du.on hb
  replace Dx := Dx.on hb
  replace Db3 := Db3.on hb
  replace Dy := Dy.on hb
  replace bz := bz.trans (hb.mono bz.size)
  clear hb
  refine hK.out _ _ ⟨Du, Dx, Dy⟩ (fun hH => ?_)
  clear hK K hS
  have hS := hH
  clear hH
  try simp only [Act.put, List.setIfInBounds_toArray, List.set_cons_zero, List.set_cons_succ, List.getElem_toArray, List.getElem_cons_zero, List.getElem_cons_succ]
  refine wpAnyH_ready (rs := [4]) (by kernel_rfl) (by simp) ?_
  refine AllReadyH.cons rfl (fun K hK => ?_) AllReadyH.nil
  go_simp
  with_reducible refine (Cols_any x _).mono ?_
  rintro e w2 ⟨rfl, hb⟩
  replace Db0 := Db0.on hb
  replace Du := Du.on hb
  replace Dx := Dx.on hb
  replace Db3 := Db3.on hb
  replace Dy := Dy.on hb
  replace bz := bz.trans (hb.mono bz.size)
  clear hb
  refine hK.out _ _ ⟨Du, Dx, Dy⟩ (fun hH => ?_)
  clear hK K hS
  have hS := hH
  clear hH
  try simp only [Act.put, List.setIfInBounds_toArray, List.set_cons_zero, List.set_cons_succ, List.getElem_toArray, List.getElem_cons_zero, List.getElem_cons_succ]
  refine wpAnyH_ready (rs := [5]) (by kernel_rfl) (by simp) ?_
  refine AllReadyH.cons rfl (fun K hK => ?_) AllReadyH.nil
  go_simp
  with_reducible refine (p2 _ bz).mono ?_
  rintro e w3 ⟨rfl, hb⟩
  replace Db0 := Db0.on hb
  replace Du := Du.on hb
  replace Dx := Dx.on hb
  replace Db3 := Db3.on hb
  replace Dy := Dy.on hb
  replace bz := bz.trans (hb.mono bz.size)
  clear hb
  refine hK.out _ _ ⟨Du, Dx, Dy⟩ (fun hH => ?_)
  clear hK K hS
  have hS := hH
  clear hH
  try simp only [Act.put, List.setIfInBounds_toArray, List.set_cons_zero, List.set_cons_succ, List.getElem_toArray, List.getElem_cons_zero, List.getElem_cons_succ]
  refine wpAnyH_take (i := 6) (v := ?v6_91) rfl (by kernel_rfl) (by kernel_rfl) (by kernel_rfl) (fun _ _ _ h => h) (Or.inl ⟨by rfl, ?hy6_91⟩) (by assumption) ?rest6_91
  case hy6_91 => (intro w9 hSw; clear hSw; go_simp; try with_reducible rfl)
  try simp only [Act.put, List.setIfInBounds_toArray, List.set_cons_zero, List.set_cons_succ, List.getElem_toArray, List.getElem_cons_zero, List.getElem_cons_succ]
  refine wpAnyH_take (i := 7) (v := undef) rfl (by kernel_rfl) (by kernel_rfl) (by kernel_rfl) (fun _ _ _ h => h) (Or.inr ⟨by rfl, rfl⟩) (by assumption) ?_
  try simp only [Act.put, List.setIfInBounds_toArray, List.set_cons_zero, List.set_cons_succ, List.getElem_toArray, List.getElem_cons_zero, List.getElem_cons_succ]
  refine wpAnyH_take (i := 8) (v := undef) rfl (by kernel_rfl) (by kernel_rfl) (by kernel_rfl) (fun _ _ _ h => h) (Or.inr ⟨by rfl, rfl⟩) (by assumption) ?_
  try simp only [Act.put, List.setIfInBounds_toArray, List.set_cons_zero, List.set_cons_succ, List.getElem_toArray, List.getElem_cons_zero, List.getElem_cons_succ]
  refine wpAnyH_take (i := 9) (v := undef) rfl (by kernel_rfl) (by kernel_rfl) (by kernel_rfl) (fun _ _ _ h => h) (Or.inr ⟨by rfl, rfl⟩) (by assumption) ?_
  try simp only [Act.put, List.setIfInBounds_toArray, List.set_cons_zero, List.set_cons_succ, List.getElem_toArray, List.getElem_cons_zero, List.getElem_cons_succ]
  refine wpAnyH_take (i := 10) (v := undef) rfl (by kernel_rfl) (by kernel_rfl) (by kernel_rfl) (fun _ _ _ h => h) (Or.inr ⟨by rfl, rfl⟩) (by assumption) ?_
  try simp only [Act.put, List.setIfInBounds_toArray, List.set_cons_zero, List.set_cons_succ, List.getElem_toArray, List.getElem_cons_zero, List.getElem_cons_succ]
  refine wpAnyH_take (i := 11) (v := undef) rfl (by kernel_rfl) (by kernel_rfl) (by kernel_rfl) (fun _ _ _ h => h) (Or.inr ⟨by rfl, rfl⟩) (by assumption) ?_
  try simp only [Act.put, List.setIfInBounds_toArray, List.set_cons_zero, List.set_cons_succ, List.getElem_toArray, List.getElem_cons_zero, List.getElem_cons_succ]
  refine wpAnyH_take (i := 12) (v := undef) rfl (by kernel_rfl) (by kernel_rfl) (by kernel_rfl) (fun _ _ _ h => h) (Or.inr ⟨by rfl, rfl⟩) (by assumption) ?_
  try simp only [Act.put, List.setIfInBounds_toArray, List.set_cons_zero, List.set_cons_succ, List.getElem_toArray, List.getElem_cons_zero, List.getElem_cons_succ]
  refine wpAnyH_take (i := 13) (v := ?v13_92) rfl (by kernel_rfl) (by kernel_rfl) (by kernel_rfl) (fun _ _ _ h => h) (Or.inl ⟨by rfl, ?hy13_92⟩) (by assumption) ?rest13_92
  case hy13_92 => (intro w9 hSw; clear hSw; go_simp; try with_reducible rfl)
  try simp only [Act.put, List.setIfInBounds_toArray, List.set_cons_zero, List.set_cons_succ, List.getElem_toArray, List.getElem_cons_zero, List.getElem_cons_succ]
  refine wpAnyH_take (i := 14) (v := ?v14_93) rfl (by kernel_rfl) (by kernel_rfl) (by kernel_rfl) (fun _ _ _ h => h) (Or.inl ⟨by rfl, ?hy14_93⟩) (by assumption) ?rest14_93
  case hy14_93 => (intro w9 hSw; clear hSw; go_simp; try with_reducible rfl)
  try simp only [Act.put, List.setIfInBounds_toArray, List.set_cons_zero, List.set_cons_succ, List.getElem_toArray, List.getElem_cons_zero, List.getElem_cons_succ]
  refine wpAnyH_done (by kernel_rfl) ?_ _
  obtain ⟨v0_0, v0_1, v0_2, v0_3, v0_4, v0_5, v0_6, v0_7, v0_8⟩ := Vbx.cells Du
  obtain ⟨v1_0, v1_1, v1_2, v1_3, v1_4, v1_5, v1_6, v1_7, v1_8⟩ := Vbx.cells Dx
  obtain ⟨v2_0, v2_1, v2_2, v2_3, v2_4, v2_5, v2_6, v2_7, v2_8⟩ := Vbx.cells Dy
  have hL : VLs (w3.alloc (.cells #[.pointer u.p, .int .i64 u.f0, .int .i64 u.f1, .int .i64 u.d0, .int .i64 u.d1, .int .i64 u.r0, .int .i64 u.r1, .int .i64 u.R, .int .i64 u.C, .pointer x.p, .int .i64 x.f0, .int .i64 x.f1, .int .i64 x.d0, .int .i64 x.d1, .int .i64 x.r0, .int .i64 x.r1, .int .i64 x.R, .int .i64 x.C, .pointer y.p, .int .i64 y.f0, .int .i64 y.f1, .int .i64 y.d0, .int .i64 y.d1, .int .i64 y.r0, .int .i64 y.r1, .int .i64 y.R, .int .i64 y.C] 30)) ⟨w3.heap.size, 0, none⟩ [u, x, y] := VLs.of (Blk.new w3 ([u, x, y].flatMap Vu.L) 30)
  replace Db0 := Db0.on ((Below.refl _ _).alloc (Nat.le_refl _) ((.cells #[.pointer u.p, .int .i64 u.f0, .int .i64 u.f1, .int .i64 u.d0, .int .i64 u.d1, .int .i64 u.r0, .int .i64 u.r1, .int .i64 u.R, .int .i64 u.C, .pointer x.p, .int .i64 x.f0, .int .i64 x.f1, .int .i64 x.d0, .int .i64 x.d1, .int .i64 x.r0, .int .i64 x.r1, .int .i64 x.R, .int .i64 x.C, .pointer y.p, .int .i64 y.f0, .int .i64 y.f1, .int .i64 y.d0, .int .i64 y.d1, .int .i64 y.r0, .int .i64 y.r1, .int .i64 y.R, .int .i64 y.C] 30)))
  replace Du := Du.on ((Below.refl _ _).alloc (Nat.le_refl _) ((.cells #[.pointer u.p, .int .i64 u.f0, .int .i64 u.f1, .int .i64 u.d0, .int .i64 u.d1, .int .i64 u.r0, .int .i64 u.r1, .int .i64 u.R, .int .i64 u.C, .pointer x.p, .int .i64 x.f0, .int .i64 x.f1, .int .i64 x.d0, .int .i64 x.d1, .int .i64 x.r0, .int .i64 x.r1, .int .i64 x.R, .int .i64 x.C, .pointer y.p, .int .i64 y.f0, .int .i64 y.f1, .int .i64 y.d0, .int .i64 y.d1, .int .i64 y.r0, .int .i64 y.r1, .int .i64 y.R, .int .i64 y.C] 30)))
  replace Dx := Dx.on ((Below.refl _ _).alloc (Nat.le_refl _) ((.cells #[.pointer u.p, .int .i64 u.f0, .int .i64 u.f1, .int .i64 u.d0, .int .i64 u.d1, .int .i64 u.r0, .int .i64 u.r1, .int .i64 u.R, .int .i64 u.C, .pointer x.p, .int .i64 x.f0, .int .i64 x.f1, .int .i64 x.d0, .int .i64 x.d1, .int .i64 x.r0, .int .i64 x.r1, .int .i64 x.R, .int .i64 x.C, .pointer y.p, .int .i64 y.f0, .int .i64 y.f1, .int .i64 y.d0, .int .i64 y.d1, .int .i64 y.r0, .int .i64 y.r1, .int .i64 y.R, .int .i64 y.C] 30)))
  replace Db3 := Db3.on ((Below.refl _ _).alloc (Nat.le_refl _) ((.cells #[.pointer u.p, .int .i64 u.f0, .int .i64 u.f1, .int .i64 u.d0, .int .i64 u.d1, .int .i64 u.r0, .int .i64 u.r1, .int .i64 u.R, .int .i64 u.C, .pointer x.p, .int .i64 x.f0, .int .i64 x.f1, .int .i64 x.d0, .int .i64 x.d1, .int .i64 x.r0, .int .i64 x.r1, .int .i64 x.R, .int .i64 x.C, .pointer y.p, .int .i64 y.f0, .int .i64 y.f1, .int .i64 y.d0, .int .i64 y.d1, .int .i64 y.r0, .int .i64 y.r1, .int .i64 y.R, .int .i64 y.C] 30)))
  replace Dy := Dy.on ((Below.refl _ _).alloc (Nat.le_refl _) ((.cells #[.pointer u.p, .int .i64 u.f0, .int .i64 u.f1, .int .i64 u.d0, .int .i64 u.d1, .int .i64 u.r0, .int .i64 u.r1, .int .i64 u.R, .int .i64 u.C, .pointer x.p, .int .i64 x.f0, .int .i64 x.f1, .int .i64 x.d0, .int .i64 x.d1, .int .i64 x.r0, .int .i64 x.r1, .int .i64 x.R, .int .i64 x.C, .pointer y.p, .int .i64 y.f0, .int .i64 y.f1, .int .i64 y.d0, .int .i64 y.d1, .int .i64 y.r0, .int .i64 y.r1, .int .i64 y.R, .int .i64 y.C] 30)))
  replace bz := bz.alloc bz.size ((.cells #[.pointer u.p, .int .i64 u.f0, .int .i64 u.f1, .int .i64 u.d0, .int .i64 u.d1, .int .i64 u.r0, .int .i64 u.r1, .int .i64 u.R, .int .i64 u.C, .pointer x.p, .int .i64 x.f0, .int .i64 x.f1, .int .i64 x.d0, .int .i64 x.d1, .int .i64 x.r0, .int .i64 x.r1, .int .i64 x.R, .int .i64 x.C, .pointer y.p, .int .i64 y.f0, .int .i64 y.f1, .int .i64 y.d0, .int .i64 y.d1, .int .i64 y.r0, .int .i64 y.r1, .int .i64 y.R, .int .i64 y.C] 30))
  go_wp2_with fail
  with_reducible refine (refused_is false (vs := [u, x, y]) (n := 3) rfl (by omega) hL (by intro z hz; simp only [List.mem_cons, List.mem_nil_iff, or_false] at hz; rcases hz with rfl | rfl | rfl; exact ⟨_, HSu.out.on bz⟩; exact ⟨_, HSx.out.on bz⟩; exact ⟨_, HSy.out.on bz⟩)).mono ?_
  rintro e w4 ⟨rfl, hb⟩
  clear v0_0 v0_1 v0_2 v0_3 v0_4 v0_5 v0_6 v0_7 v0_8 v1_0 v1_1 v1_2 v1_3 v1_4 v1_5 v1_6 v1_7 v1_8 v2_0 v2_1 v2_2 v2_3 v2_4 v2_5 v2_6 v2_7 v2_8
  replace Db0 := Db0.on hb
  replace Du := Du.on hb
  replace Dx := Dx.on hb
  replace Db3 := Db3.on hb
  replace Dy := Dy.on hb
  replace hL := hL.on hb
  replace bz := bz.trans (hb.mono bz.size)
  clear hb hL
  rw [HE.out]
  go_wp2_with fail
  go_ret
  exact ⟨rfl, bz⟩
set_option maxRecDepth 100000 in
set_option maxHeartbeats 8000000 in
theorem Syr2k_no1 (hu : Sv w u U) (hx : Sv w x X) (hy : Sv w y Y) {E : Int} (h0 : (szd u x.R x.C) = true) (he : refE ((szd u x.R x.C) && (szd y u.R u.R)) [u, x, y] = E) (hn : E ≠ 0) : Calls Try.prog 45 #[.float .f64 a, u.V, x.V, .float .f64 b, y.V] w (Ans w (.int .i64 E)) := by
  have hft : ((szd u x.R x.C) && (szd y u.R u.R)) = (szd y u.R u.R) := by simp [h0]
  rw [hft] at he
  clear hft
  obtain ⟨FV, hFV⟩ : ∃ z, (szd y u.R u.R) = z := ⟨_, rfl⟩
  rw [hFV] at he
  have HSu := Lib.hid hu
  have HSx := Lib.hid hx
  have HSy := Lib.hid hy
  have hne : (E != 0) = true := by simpa using hn
  have HE := Lib.hid he
  have p2 := fun (W : World) (bz : Below w.heap.size w W) => sized_is u x.R x.C W
  simp only [h0] at p2
  have p5 := fun (W : World) (bz : Below w.heap.size w W) => sized_is y u.R u.R W
  simp only [hFV] at p5
  clear he hn hu hx hy h0 hFV
  have Db0 := Blk.new w [.float .f64 a] 32
  have Du := Blk.new (w.alloc (.cells #[.float .f64 a] 32)) u.L 30
  replace Db0 := Db0.alloc (.cells u.L.toArray 30)
  simp only [World.size_alloc] at Du
  have Dx := Blk.new ((w.alloc (.cells #[.float .f64 a] 32)).alloc (.cells u.L.toArray 30)) x.L 30
  replace Db0 := Db0.alloc (.cells x.L.toArray 30)
  replace Du := Du.alloc (.cells x.L.toArray 30)
  simp only [World.size_alloc] at Dx
  have Db3 := Blk.new (((w.alloc (.cells #[.float .f64 a] 32)).alloc (.cells u.L.toArray 30)).alloc (.cells x.L.toArray 30)) [.float .f64 b] 32
  replace Db0 := Db0.alloc (.cells #[.float .f64 b] 32)
  replace Du := Du.alloc (.cells #[.float .f64 b] 32)
  replace Dx := Dx.alloc (.cells #[.float .f64 b] 32)
  simp only [World.size_alloc] at Db3
  have Dy := Blk.new ((((w.alloc (.cells #[.float .f64 a] 32)).alloc (.cells u.L.toArray 30)).alloc (.cells x.L.toArray 30)).alloc (.cells #[.float .f64 b] 32)) y.L 30
  replace Db0 := Db0.alloc (.cells y.L.toArray 30)
  replace Du := Du.alloc (.cells y.L.toArray 30)
  replace Dx := Dx.alloc (.cells y.L.toArray 30)
  replace Db3 := Db3.alloc (.cells y.L.toArray 30)
  simp only [World.size_alloc] at Dy
  have bz := (((((Below.refl _ w).alloc (Nat.le_refl _) (.cells #[.float .f64 a] 32)).alloc (by simp <;> omega) (.cells u.L.toArray 30)).alloc (by simp <;> omega) (.cells x.L.toArray 30)).alloc (by simp <;> omega) (.cells #[.float .f64 b] 32)).alloc (by simp <;> omega) (.cells y.L.toArray 30)
  have hsz0 : (((((w.alloc (.cells #[.float .f64 a] 32)).alloc (.cells u.L.toArray 30)).alloc (.cells x.L.toArray 30)).alloc (.cells #[.float .f64 b] 32)).alloc (.cells y.L.toArray 30)).heap.size = w.heap.size + 5 := by simp
  go_enter Try.func45, Try.ntmps45
  go_wp2_with fail
  replace Db0 := Db0.drew
  replace Du := Du.drew
  replace Dx := Dx.drew
  replace Db3 := Db3.drew
  replace Dy := Dy.drew
  replace bz := bz.drew
  refine wp_region_held_drew (S := fun w9 : World => Vbx w9 (w.heap.size + 1) u ∧ Vbx w9 (w.heap.size + 2) x ∧ Vbx w9 (w.heap.size + 4) y) (by kernel_rfl) ⟨Du, Dx, Dy⟩ (fun hS => ?_)
  generalize (((((w.alloc (.cells #[.float .f64 a] 32)).alloc (.cells u.L.toArray 30)).alloc (.cells x.L.toArray 30)).alloc (.cells #[.float .f64 b] 32)).alloc (.cells y.L.toArray 30)).drew = wd at hS Db0 Du Dx Db3 Dy  bz ⊢
  refine wpAnyH_take (i := 0) (v := ?v0_94) rfl (by kernel_rfl) (by kernel_rfl) (by kernel_rfl) (fun _ _ _ h => h) (Or.inl ⟨by rfl, ?hy0_94⟩) (by assumption) ?rest0_94
  case hy0_94 => (intro w9 hSw; obtain ⟨m0, m1, m2⟩ := hSw; refine (ld_v (by rfl) (by kernel_rfl) m0).trans ?_; with_reducible rfl)
  try simp only [Act.put, List.setIfInBounds_toArray, List.set_cons_zero, List.set_cons_succ, List.getElem_toArray, List.getElem_cons_zero, List.getElem_cons_succ]
  refine wpAnyH_take (i := 1) (v := ?v1_95) rfl (by kernel_rfl) (by kernel_rfl) (by kernel_rfl) (fun _ _ _ h => h) (Or.inl ⟨by rfl, ?hy1_95⟩) (by assumption) ?rest1_95
  case hy1_95 => (intro w9 hSw; obtain ⟨m0, m1, m2⟩ := hSw; refine (ld_v (by rfl) (by kernel_rfl) m1).trans ?_; with_reducible rfl)
  try simp only [Act.put, List.setIfInBounds_toArray, List.set_cons_zero, List.set_cons_succ, List.getElem_toArray, List.getElem_cons_zero, List.getElem_cons_succ]
  refine wpAnyH_take (i := 3) (v := ?v3_96) rfl (by kernel_rfl) (by kernel_rfl) (by kernel_rfl) (fun _ _ _ h => h) (Or.inl ⟨by rfl, ?hy3_96⟩) (by assumption) ?rest3_96
  case hy3_96 => (intro w9 hSw; obtain ⟨m0, m1, m2⟩ := hSw; refine (ld_v (by rfl) (by kernel_rfl) m1).trans ?_; with_reducible rfl)
  try simp only [Act.put, List.setIfInBounds_toArray, List.set_cons_zero, List.set_cons_succ, List.getElem_toArray, List.getElem_cons_zero, List.getElem_cons_succ]
  refine wpAnyH_ready (rs := [2]) (by kernel_rfl) (by simp) ?_
  refine AllReadyH.cons rfl (fun K hK => ?_) AllReadyH.nil
  go_simp
  with_reducible refine (Rows_any x _).mono ?_
  rintro e w1 ⟨rfl, hb⟩
  replace Db0 := Db0.on hb
  replace Du := Du.on hb
  replace Dx := Dx.on hb
  replace Db3 := Db3.on hb
  replace Dy := Dy.on hb
  replace bz := bz.trans (hb.mono bz.size)
  clear hb
  refine hK.out _ _ ⟨Du, Dx, Dy⟩ (fun hH => ?_)
  clear hK K hS
  have hS := hH
  clear hH
  try simp only [Act.put, List.setIfInBounds_toArray, List.set_cons_zero, List.set_cons_succ, List.getElem_toArray, List.getElem_cons_zero, List.getElem_cons_succ]
  refine wpAnyH_ready (rs := [4]) (by kernel_rfl) (by simp) ?_
  refine AllReadyH.cons rfl (fun K hK => ?_) AllReadyH.nil
  go_simp
  with_reducible refine (Cols_any x _).mono ?_
  rintro e w2 ⟨rfl, hb⟩
  replace Db0 := Db0.on hb
  replace Du := Du.on hb
  replace Dx := Dx.on hb
  replace Db3 := Db3.on hb
  replace Dy := Dy.on hb
  replace bz := bz.trans (hb.mono bz.size)
  clear hb
  refine hK.out _ _ ⟨Du, Dx, Dy⟩ (fun hH => ?_)
  clear hK K hS
  have hS := hH
  clear hH
  try simp only [Act.put, List.setIfInBounds_toArray, List.set_cons_zero, List.set_cons_succ, List.getElem_toArray, List.getElem_cons_zero, List.getElem_cons_succ]
  refine wpAnyH_ready (rs := [5]) (by kernel_rfl) (by simp) ?_
  refine AllReadyH.cons rfl (fun K hK => ?_) AllReadyH.nil
  go_simp
  with_reducible refine (p2 _ bz).mono ?_
  rintro e w3 ⟨rfl, hb⟩
  replace Db0 := Db0.on hb
  replace Du := Du.on hb
  replace Dx := Dx.on hb
  replace Db3 := Db3.on hb
  replace Dy := Dy.on hb
  replace bz := bz.trans (hb.mono bz.size)
  clear hb
  refine hK.out _ _ ⟨Du, Dx, Dy⟩ (fun hH => ?_)
  clear hK K hS
  have hS := hH
  clear hH
  try simp only [Act.put, List.setIfInBounds_toArray, List.set_cons_zero, List.set_cons_succ, List.getElem_toArray, List.getElem_cons_zero, List.getElem_cons_succ]
  refine wpAnyH_take (i := 6) (v := ?v6_97) rfl (by kernel_rfl) (by kernel_rfl) (by kernel_rfl) (fun _ _ _ h => h) (Or.inl ⟨by rfl, ?hy6_97⟩) (by assumption) ?rest6_97
  case hy6_97 => (intro w9 hSw; clear hSw; go_simp; try with_reducible rfl)
  try simp only [Act.put, List.setIfInBounds_toArray, List.set_cons_zero, List.set_cons_succ, List.getElem_toArray, List.getElem_cons_zero, List.getElem_cons_succ]
  refine wpAnyH_take (i := 7) (v := ?v7_98) rfl (by kernel_rfl) (by kernel_rfl) (by kernel_rfl) (fun _ _ _ h => h) (Or.inl ⟨by rfl, ?hy7_98⟩) (by assumption) ?rest7_98
  case hy7_98 => (intro w9 hSw; obtain ⟨m0, m1, m2⟩ := hSw; refine (ld_v (by rfl) (by kernel_rfl) m2).trans ?_; with_reducible rfl)
  try simp only [Act.put, List.setIfInBounds_toArray, List.set_cons_zero, List.set_cons_succ, List.getElem_toArray, List.getElem_cons_zero, List.getElem_cons_succ]
  refine wpAnyH_take (i := 8) (v := ?v8_99) rfl (by kernel_rfl) (by kernel_rfl) (by kernel_rfl) (fun _ _ _ h => h) (Or.inl ⟨by rfl, ?hy8_99⟩) (by assumption) ?rest8_99
  case hy8_99 => (intro w9 hSw; obtain ⟨m0, m1, m2⟩ := hSw; refine (ld_v (by rfl) (by kernel_rfl) m0).trans ?_; with_reducible rfl)
  try simp only [Act.put, List.setIfInBounds_toArray, List.set_cons_zero, List.set_cons_succ, List.getElem_toArray, List.getElem_cons_zero, List.getElem_cons_succ]
  refine wpAnyH_take (i := 10) (v := ?v10_100) rfl (by kernel_rfl) (by kernel_rfl) (by kernel_rfl) (fun _ _ _ h => h) (Or.inl ⟨by rfl, ?hy10_100⟩) (by assumption) ?rest10_100
  case hy10_100 => (intro w9 hSw; obtain ⟨m0, m1, m2⟩ := hSw; refine (ld_v (by rfl) (by kernel_rfl) m0).trans ?_; with_reducible rfl)
  try simp only [Act.put, List.setIfInBounds_toArray, List.set_cons_zero, List.set_cons_succ, List.getElem_toArray, List.getElem_cons_zero, List.getElem_cons_succ]
  refine wpAnyH_ready (rs := [9]) (by kernel_rfl) (by simp) ?_
  refine AllReadyH.cons rfl (fun K hK => ?_) AllReadyH.nil
  go_simp
  with_reducible refine (Rows_any u _).mono ?_
  rintro e w4 ⟨rfl, hb⟩
  replace Db0 := Db0.on hb
  replace Du := Du.on hb
  replace Dx := Dx.on hb
  replace Db3 := Db3.on hb
  replace Dy := Dy.on hb
  replace bz := bz.trans (hb.mono bz.size)
  clear hb
  refine hK.out _ _ ⟨Du, Dx, Dy⟩ (fun hH => ?_)
  clear hK K hS
  have hS := hH
  clear hH
  try simp only [Act.put, List.setIfInBounds_toArray, List.set_cons_zero, List.set_cons_succ, List.getElem_toArray, List.getElem_cons_zero, List.getElem_cons_succ]
  refine wpAnyH_ready (rs := [11]) (by kernel_rfl) (by simp) ?_
  refine AllReadyH.cons rfl (fun K hK => ?_) AllReadyH.nil
  go_simp
  with_reducible refine (Rows_any u _).mono ?_
  rintro e w5 ⟨rfl, hb⟩
  replace Db0 := Db0.on hb
  replace Du := Du.on hb
  replace Dx := Dx.on hb
  replace Db3 := Db3.on hb
  replace Dy := Dy.on hb
  replace bz := bz.trans (hb.mono bz.size)
  clear hb
  refine hK.out _ _ ⟨Du, Dx, Dy⟩ (fun hH => ?_)
  clear hK K hS
  have hS := hH
  clear hH
  try simp only [Act.put, List.setIfInBounds_toArray, List.set_cons_zero, List.set_cons_succ, List.getElem_toArray, List.getElem_cons_zero, List.getElem_cons_succ]
  refine wpAnyH_ready (rs := [12]) (by kernel_rfl) (by simp) ?_
  refine AllReadyH.cons rfl (fun K hK => ?_) AllReadyH.nil
  go_simp
  with_reducible refine (p5 _ bz).mono ?_
  rintro e w6 ⟨rfl, hb⟩
  replace Db0 := Db0.on hb
  replace Du := Du.on hb
  replace Dx := Dx.on hb
  replace Db3 := Db3.on hb
  replace Dy := Dy.on hb
  replace bz := bz.trans (hb.mono bz.size)
  clear hb
  refine hK.out _ _ ⟨Du, Dx, Dy⟩ (fun hH => ?_)
  clear hK K hS
  have hS := hH
  clear hH
  try simp only [Act.put, List.setIfInBounds_toArray, List.set_cons_zero, List.set_cons_succ, List.getElem_toArray, List.getElem_cons_zero, List.getElem_cons_succ]
  refine wpAnyH_take (i := 13) (v := ?v13_101) rfl (by kernel_rfl) (by kernel_rfl) (by kernel_rfl) (fun _ _ _ h => h) (Or.inl ⟨by rfl, ?hy13_101⟩) (by assumption) ?rest13_101
  case hy13_101 => (intro w9 hSw; clear hSw; go_simp; try with_reducible rfl)
  try simp only [Act.put, List.setIfInBounds_toArray, List.set_cons_zero, List.set_cons_succ, List.getElem_toArray, List.getElem_cons_zero, List.getElem_cons_succ]
  refine wpAnyH_take (i := 14) (v := ?v14_102) rfl (by kernel_rfl) (by kernel_rfl) (by kernel_rfl) (fun _ _ _ h => h) (Or.inl ⟨by rfl, ?hy14_102⟩) (by assumption) ?rest14_102
  case hy14_102 => (intro w9 hSw; clear hSw; go_simp; try with_reducible rfl)
  try simp only [Act.put, List.setIfInBounds_toArray, List.set_cons_zero, List.set_cons_succ, List.getElem_toArray, List.getElem_cons_zero, List.getElem_cons_succ]
  refine wpAnyH_done (by kernel_rfl) ?_ _
  obtain ⟨v0_0, v0_1, v0_2, v0_3, v0_4, v0_5, v0_6, v0_7, v0_8⟩ := Vbx.cells Du
  obtain ⟨v1_0, v1_1, v1_2, v1_3, v1_4, v1_5, v1_6, v1_7, v1_8⟩ := Vbx.cells Dx
  obtain ⟨v2_0, v2_1, v2_2, v2_3, v2_4, v2_5, v2_6, v2_7, v2_8⟩ := Vbx.cells Dy
  have hL : VLs (w6.alloc (.cells #[.pointer u.p, .int .i64 u.f0, .int .i64 u.f1, .int .i64 u.d0, .int .i64 u.d1, .int .i64 u.r0, .int .i64 u.r1, .int .i64 u.R, .int .i64 u.C, .pointer x.p, .int .i64 x.f0, .int .i64 x.f1, .int .i64 x.d0, .int .i64 x.d1, .int .i64 x.r0, .int .i64 x.r1, .int .i64 x.R, .int .i64 x.C, .pointer y.p, .int .i64 y.f0, .int .i64 y.f1, .int .i64 y.d0, .int .i64 y.d1, .int .i64 y.r0, .int .i64 y.r1, .int .i64 y.R, .int .i64 y.C] 30)) ⟨w6.heap.size, 0, none⟩ [u, x, y] := VLs.of (Blk.new w6 ([u, x, y].flatMap Vu.L) 30)
  replace Db0 := Db0.on ((Below.refl _ _).alloc (Nat.le_refl _) ((.cells #[.pointer u.p, .int .i64 u.f0, .int .i64 u.f1, .int .i64 u.d0, .int .i64 u.d1, .int .i64 u.r0, .int .i64 u.r1, .int .i64 u.R, .int .i64 u.C, .pointer x.p, .int .i64 x.f0, .int .i64 x.f1, .int .i64 x.d0, .int .i64 x.d1, .int .i64 x.r0, .int .i64 x.r1, .int .i64 x.R, .int .i64 x.C, .pointer y.p, .int .i64 y.f0, .int .i64 y.f1, .int .i64 y.d0, .int .i64 y.d1, .int .i64 y.r0, .int .i64 y.r1, .int .i64 y.R, .int .i64 y.C] 30)))
  replace Du := Du.on ((Below.refl _ _).alloc (Nat.le_refl _) ((.cells #[.pointer u.p, .int .i64 u.f0, .int .i64 u.f1, .int .i64 u.d0, .int .i64 u.d1, .int .i64 u.r0, .int .i64 u.r1, .int .i64 u.R, .int .i64 u.C, .pointer x.p, .int .i64 x.f0, .int .i64 x.f1, .int .i64 x.d0, .int .i64 x.d1, .int .i64 x.r0, .int .i64 x.r1, .int .i64 x.R, .int .i64 x.C, .pointer y.p, .int .i64 y.f0, .int .i64 y.f1, .int .i64 y.d0, .int .i64 y.d1, .int .i64 y.r0, .int .i64 y.r1, .int .i64 y.R, .int .i64 y.C] 30)))
  replace Dx := Dx.on ((Below.refl _ _).alloc (Nat.le_refl _) ((.cells #[.pointer u.p, .int .i64 u.f0, .int .i64 u.f1, .int .i64 u.d0, .int .i64 u.d1, .int .i64 u.r0, .int .i64 u.r1, .int .i64 u.R, .int .i64 u.C, .pointer x.p, .int .i64 x.f0, .int .i64 x.f1, .int .i64 x.d0, .int .i64 x.d1, .int .i64 x.r0, .int .i64 x.r1, .int .i64 x.R, .int .i64 x.C, .pointer y.p, .int .i64 y.f0, .int .i64 y.f1, .int .i64 y.d0, .int .i64 y.d1, .int .i64 y.r0, .int .i64 y.r1, .int .i64 y.R, .int .i64 y.C] 30)))
  replace Db3 := Db3.on ((Below.refl _ _).alloc (Nat.le_refl _) ((.cells #[.pointer u.p, .int .i64 u.f0, .int .i64 u.f1, .int .i64 u.d0, .int .i64 u.d1, .int .i64 u.r0, .int .i64 u.r1, .int .i64 u.R, .int .i64 u.C, .pointer x.p, .int .i64 x.f0, .int .i64 x.f1, .int .i64 x.d0, .int .i64 x.d1, .int .i64 x.r0, .int .i64 x.r1, .int .i64 x.R, .int .i64 x.C, .pointer y.p, .int .i64 y.f0, .int .i64 y.f1, .int .i64 y.d0, .int .i64 y.d1, .int .i64 y.r0, .int .i64 y.r1, .int .i64 y.R, .int .i64 y.C] 30)))
  replace Dy := Dy.on ((Below.refl _ _).alloc (Nat.le_refl _) ((.cells #[.pointer u.p, .int .i64 u.f0, .int .i64 u.f1, .int .i64 u.d0, .int .i64 u.d1, .int .i64 u.r0, .int .i64 u.r1, .int .i64 u.R, .int .i64 u.C, .pointer x.p, .int .i64 x.f0, .int .i64 x.f1, .int .i64 x.d0, .int .i64 x.d1, .int .i64 x.r0, .int .i64 x.r1, .int .i64 x.R, .int .i64 x.C, .pointer y.p, .int .i64 y.f0, .int .i64 y.f1, .int .i64 y.d0, .int .i64 y.d1, .int .i64 y.r0, .int .i64 y.r1, .int .i64 y.R, .int .i64 y.C] 30)))
  replace bz := bz.alloc bz.size ((.cells #[.pointer u.p, .int .i64 u.f0, .int .i64 u.f1, .int .i64 u.d0, .int .i64 u.d1, .int .i64 u.r0, .int .i64 u.r1, .int .i64 u.R, .int .i64 u.C, .pointer x.p, .int .i64 x.f0, .int .i64 x.f1, .int .i64 x.d0, .int .i64 x.d1, .int .i64 x.r0, .int .i64 x.r1, .int .i64 x.R, .int .i64 x.C, .pointer y.p, .int .i64 y.f0, .int .i64 y.f1, .int .i64 y.d0, .int .i64 y.d1, .int .i64 y.r0, .int .i64 y.r1, .int .i64 y.R, .int .i64 y.C] 30))
  go_wp2_with fail
  with_reducible refine (refused_is FV (vs := [u, x, y]) (n := 3) rfl (by omega) hL (by intro z hz; simp only [List.mem_cons, List.mem_nil_iff, or_false] at hz; rcases hz with rfl | rfl | rfl; exact ⟨_, HSu.out.on bz⟩; exact ⟨_, HSx.out.on bz⟩; exact ⟨_, HSy.out.on bz⟩)).mono ?_
  rintro e w7 ⟨rfl, hb⟩
  clear v0_0 v0_1 v0_2 v0_3 v0_4 v0_5 v0_6 v0_7 v0_8 v1_0 v1_1 v1_2 v1_3 v1_4 v1_5 v1_6 v1_7 v1_8 v2_0 v2_1 v2_2 v2_3 v2_4 v2_5 v2_6 v2_7 v2_8
  replace Db0 := Db0.on hb
  replace Du := Du.on hb
  replace Dx := Dx.on hb
  replace Db3 := Db3.on hb
  replace Dy := Dy.on hb
  replace hL := hL.on hb
  replace bz := bz.trans (hb.mono bz.size)
  clear hb hL
  rw [HE.out]
  go_wp2_with fail
  go_ret
  exact ⟨rfl, bz⟩
theorem Syr2k_no (hu : Sv w u U) (hx : Sv w x X) (hy : Sv w y Y) {E : Int} (he : refE ((szd u x.R x.C) && (szd y u.R u.R)) [u, x, y] = E) (hn : E ≠ 0) : Calls Try.prog 45 #[.float .f64 a, u.V, x.V, .float .f64 b, y.V] w (Ans w (.int .i64 E)) := by
  cases h0 : (szd u x.R x.C)
  · exact Syr2k_no0 hu hx hy h0 he hn
  · exact Syr2k_no1 hu hx hy h0 he hn
end
end Go.Proofs.Ytfelmkkkaphkpaa
namespace Go.Proofs.Ytfelmkkkaphkpaa
open Go.RowKit Go.Bw Go.Sort Go.Shelf
set_option linter.unusedVariables false
set_option linter.unusedSimpArgs false

theorem run_store_fn {P : Program} {w : World} {a : Addr} {m : Mode} (fn : Fn) (first captured : Array Value) : (store a (.func fn first captured) m).run P w = stored P w a (.func fn first captured) m := run_store P w a _ m rfl
attribute [local go_sem] run_store_fn Oper.semAt_some
/-- a list of floats, in blocks from lo to hi -/
def CF (W : World) (lo hi : Nat) (X : List Int) (v : Value) : Prop := ∃ A c, v = .slice A X.length c ∧ OwnF W lo A c X ∧ ∀ a, A = some a → a.block < hi
theorem CF.on {W W' : World} {lo hi : Nat} {X : List Int} {v : Value} (h : CF W lo hi X v) (hb : Below W.heap.size W W') : CF W' lo hi X v := by
  obtain ⟨A, c, e, ho, h3⟩ := h
  exact ⟨A, c, e, ho.on_ hb, h3⟩
/-- a box of one cell -/
def CP (W : World) (lo hi : Nat) (o v : Value) : Prop := v = .pointer (some ⟨lo, 0, none⟩) ∧ Blk W lo [o] ∧ lo < hi
theorem CP.on {W W' : World} {lo hi : Nat} {o v : Value} (h : CP W lo hi o v) (hb : Below W.heap.size W W') : CP W' lo hi o v := ⟨h.1, h.2.1.on hb, h.2.2⟩
theorem set1_grown (W : World) (b : Nat) (x : Value) : W.grownBy (W.setCell ⟨b, 0, none⟩ x) (some b) := setb_grown (World.grownBy.refl W _) 0 x
/-- k pairs of a lower half -/
def PL (k : Nat) : Nat → Nat → Bool := fun a b => decide (b ≤ a ∧ lwT a + b < k)
theorem PL_zero (a b : Nat) : PL 0 a b = false := by unfold PL; simp
theorem PL_next {k i j : Nat} (hi : (tr k).1 = i) (hj : (tr k).2 = j) (a b : Nat) : PL (k + 1) a b = (PL k a b || decide (a = i ∧ b = j)) := by
  unfold PL
  rw [← Bool.decide_or, decide_eq_decide]
  have hn := tr_num k
  rw [hi, hj] at hn
  constructor
  · rintro ⟨h1, h2⟩
    by_cases h3 : lwT a + b < k
    · exact .inl ⟨h1, h3⟩
    · obtain ⟨e1, e2⟩ := tr_inj h1 (show lwT a + b = k by omega)
      exact .inr ⟨e1.trans hi, e2.trans hj⟩
  · rintro (⟨h1, h2⟩ | ⟨rfl, rfl⟩)
    · exact ⟨h1, by omega⟩
    · exact ⟨hn.1, by omega⟩
theorem PL_all {m a b : Nat} (ha : a < m) (hb : b < m) : PL (lwT m) a b = decide (b ≤ a) := by
  unfold PL
  rw [decide_eq_decide]
  exact ⟨fun h => h.1, fun h => ⟨h, lwT_lt ha h⟩⟩
theorem PL_not {k i j : Nat} (hi : (tr k).1 = i) (hj : (tr k).2 = j) : PL k i j = false := by
  unfold PL
  have hn := tr_num k
  rw [hi, hj] at hn
  simp
  omega
theorem alk_parts2 {x y : Vu} (h : alk x y = true) : x.vec = true ∧ y.vec = true ∧ x.len = y.len := by
  unfold alk at h
  simp only [Bool.and_eq_true, beq_iff_eq] at h
  exact ⟨h.1.1, h.1.2, h.2⟩
end Go.Proofs.Ytfelmkkkaphkpaa
namespace Go.Proofs.Ytfelmkkkaphkpaa
open Go.RowKit Go.Bw Go.Sort Go.Shelf
set_option linter.unusedVariables false
set_option linter.unusedSimpArgs false

attribute [local go_sem] run_store_fn Oper.semAt_some
/-- rows of m by q, in blocks from lo to hi -/
def CR (W : World) (lo hi m q : Nat) (X : List Int) (v : Value) : Prop := ∃ o G cG, v = .slice (some ⟨o, 0, none⟩) m m ∧ Rws W lo o G cG m q X ∧ o < hi ∧ ∀ a, G = some a → a.block < hi
theorem CR.on {W W' : World} {lo hi m q : Nat} {X : List Int} {v : Value} (h : CR W lo hi m q X v) (hb : Below W.heap.size W W') : CR W' lo hi m q X v := by
  obtain ⟨o, G, cG, e, hR, h3⟩ := h
  exact ⟨o, G, cG, e, hR.on hb, h3⟩
theorem Rws.ownV {w W' : World} {B BB o : Nat} {G : Option Addr} {cG m q : Nat} {l : List Int} {row : Option Nat} (h : Rws w B o G cG m q l) (hg : w.grownBy W' row) (hr : NoCells BB w row) : Rws W' B o G cG m q l := ⟨h.own.ownV hg hr, h.len, h.wd, h.blk.ownV hg hr, h.ne, h.hB⟩
theorem dot_rr {U X : List Int} {p i j : Nat} : dotA ((U.drop (i * p)).take p) ((X.drop (j * p)).take p) p = sumA (fun t => aop .mul (ma U p i t) (ma X p j t)) p := by
  unfold dotA
  exact sumA_congr fun t ht => by rw [D_row ht, D_row ht]
section
variable {w : World} {u x y : Vu} {U X Y : List Int} {K : Int} {B s g cap c n a b m q : Nat} {l : List Int}
/-- between two rounds -/
def SkI (w : World) (y : Vu) (U X : List Int) (B s g cap c a b m q : Nat) (l : List Int) (f : Nat → Nat → Option Nat) (p2 p3 p4 lo0 lo1 o3 o4 c3 c4 Bn : Nat) (A3 A4 : Option Addr) (k : Nat) (lx : List Int) (W : World) : Prop :=
  Wr y c l lx (PL k) f ∧ St W B s g cap c lx ∧ Blk W Bn [.int .i64 (m : Int)] ∧ Blk W w.heap.size [.float .f64 a] ∧ Blk W (w.heap.size + 3) [.float .f64 b] ∧ Vbx W (w.heap.size + 4) y ∧ Blk W p2 [.func (.func 85) #[y.V] #[]] ∧
  Blk W p3 [.slice (some ⟨o3, 0, none⟩) m m] ∧ Blk W p4 [.slice (some ⟨o4, 0, none⟩) m m] ∧ Rws W lo0 o3 A3 c3 m q U ∧ Rws W lo1 o4 A4 c4 m q X ∧ w.grownBy W (some g)
theorem SkI.ownV {BB k p2 p3 p4 lo0 lo1 o3 o4 c3 c4 Bn : Nat} {A3 A4 : Option Addr} {f : Nat → Nat → Option Nat} {lx : List Int} (hB : w.heap.size ≤ BB) : OwnV BB (SkI w y U X B s g cap c a b m q l f p2 p3 p4 lo0 lo1 o3 o4 c3 c4 Bn A3 A4 k lx) := by
  rintro W W' row ⟨h0, h1, h2, h3, h3b, h4, h5, h6, h7, h8, h9, h10⟩ hg hr
  exact ⟨h0, h1.ownV hg hr, h2.ownV hg hr, h3.ownV hg hr, h3b.ownV hg hr, h4.ownV hg hr, h5.ownV hg hr, h6.ownV hg hr, h7.ownV hg hr, h8.ownV hg hr, h9.ownV hg hr, grown_ownV h10 hg hr hB⟩
/-- within one -/
def SkX (w : World) (y : Vu) (U X : List Int) (B s g cap c a b m q : Nat) (l : List Int) (f : Nat → Nat → Option Nat) (p2 p3 p4 lo0 lo1 o3 o4 c3 c4 Bn : Nat) (A3 A4 : Option Addr) (k : Nat) (lx : List Int) (a' : Act) (W : World) : Prop :=
  SkI w y U X B s g cap c a b m q l f p2 p3 p4 lo0 lo1 o3 o4 c3 c4 Bn A3 A4 k lx W ∧ ∃ (X0 X1 X2 X3 X4 X6 X7 X10 X11 X12 X18 X19 X20 X21 X22 X23 X24 X25 X26 X27 X28 X29 X30 X31 X32 X33 X34 X35 X36 X37 X38 X39 X40 X41 X42 X43 X44 X45 X46 X47 X48 X49 X50 X51 X52 X53 X54 X55 X56 X57 X58 X59 X60 X61 X62 X63 X64 X65 X66 X67 X68 X69 X70 X71 X72 X73 X74 X75 X76 X77 X78 X79 X80 X81 X82 X83 X84 X85 : Value), a' = { tmps := #[X0, X1, X2, X3, X4, .pointer (some ⟨w.heap.size, 0, none⟩), X6, X7, .pointer (some ⟨w.heap.size + 3, 0, none⟩), .pointer (some ⟨w.heap.size + 4, 0, none⟩), X10, X11, X12, .pointer (some ⟨p2, 0, none⟩), .pointer (some ⟨p3, 0, none⟩), .pointer (some ⟨p4, 0, none⟩), .int .i64 ((tr k).1 : Nat), .int .i64 ((tr k).2 : Nat), X18, X19, X20, X21, X22, X23, X24, X25, X26, X27, X28, X29, X30, X31, X32, X33, X34, X35, X36, X37, X38, X39, X40, X41, X42, X43, X44, X45, X46, X47, X48, X49, X50, X51, X52, X53, X54, X55, X56, X57, X58, X59, X60, X61, X62, X63, X64, X65, X66, X67, X68, X69, X70, X71, X72, X73, X74, X75, X76, X77, X78, X79, X80, X81, X82, X83, X84, X85], defers := [] }
theorem SkX.ownV {BB k p2 p3 p4 lo0 lo1 o3 o4 c3 c4 Bn : Nat} {A3 A4 : Option Addr} {f : Nat → Nat → Option Nat} {lx : List Int} {a' : Act} (hB : w.heap.size ≤ BB) : OwnV BB (SkX w y U X B s g cap c a b m q l f p2 p3 p4 lo0 lo1 o3 o4 c3 c4 Bn A3 A4 k lx a') := by
  rintro W W' row ⟨hI, X0, X1, X2, X3, X4, X6, X7, X10, X11, X12, X18, X19, X20, X21, X22, X23, X24, X25, X26, X27, X28, X29, X30, X31, X32, X33, X34, X35, X36, X37, X38, X39, X40, X41, X42, X43, X44, X45, X46, X47, X48, X49, X50, X51, X52, X53, X54, X55, X56, X57, X58, X59, X60, X61, X62, X63, X64, X65, X66, X67, X68, X69, X70, X71, X72, X73, X74, X75, X76, X77, X78, X79, X80, X81, X82, X83, X84, X85, e⟩ hg hr
  exact ⟨SkI.ownV hB W W' row hI hg hr, X0, X1, X2, X3, X4, X6, X7, X10, X11, X12, X18, X19, X20, X21, X22, X23, X24, X25, X26, X27, X28, X29, X30, X31, X32, X33, X34, X35, X36, X37, X38, X39, X40, X41, X42, X43, X44, X45, X46, X47, X48, X49, X50, X51, X52, X53, X54, X55, X56, X57, X58, X59, X60, X61, X62, X63, X64, X65, X66, X67, X68, X69, X70, X71, X72, X73, X74, X75, X76, X77, X78, X79, X80, X81, X82, X83, X84, X85, e⟩
set_option maxRecDepth 100000 in
set_option maxHeartbeats 8000000 in
theorem Syr2k_yes (ba : a ≤ 18446744073709551615) (bb : b ≤ 18446744073709551615) (hfu : y.fl c l = Y) (hu : Sv w u U) (hx : Sv w x X) (hy : Sv w y Y) (he : refE ((szd u x.R x.C) && (szd y u.R u.R)) [u, x, y] = 0) (hv : Vk y s c n K) (hs : St w B s g cap c l) (hl : l.length = n) (hj : Inj y c) (hum0 : y.R = m) (hup0 : u.C = q) :
    Calls Try.prog 45 #[.float .f64 a, u.V, x.V, .float .f64 b, y.V] w (WrA w B s g cap c y l (fun a b => decide (b ≤ a)) (fun i j => bothA (af b) (ma Y m i j) (af a) (aop .add (sumA (fun t => aop .mul (ma U q i t) (ma X q j t)) q) (sumA (fun t => aop .mul (ma X q i t) (ma U q j t)) q)))) := by
  have hfit := (refE_some he).1
  have HPN : Hid (y.p ≠ none) := Lib.hid ((refE_some he).2 y (by simp))
  rw [hfit] at he
  have HE := Lib.hid he
  simp only [Bool.and_eq_true] at hfit
  obtain ⟨h0, h1⟩ := hfit
  have e0 := szd_is h0
  have e1 := szd_is h1
  have hR5 := hy.R
  have hur : u.R = (m : Int) := by rw [← e1.1]; exact hum0
  have hyc : y.C = (m : Int) := by rw [e1.2]; exact hur
  have hxr : x.R = (m : Int) := by rw [← e0.1]; exact hur
  have hxc : x.C = (q : Int) := by rw [← e0.2]; exact hup0
  have hm5 : m ≤ 512 := by omega
  have HUM := Lib.hid hum0
  have HUC := Lib.hid hyc
  have HUR := Lib.hid hur
  have HUQ := Lib.hid hup0
  have HXR := Lib.hid hxr
  have HXQ := Lib.hid hxc
  clear e0 e1 hR5 hur hyc hxr hxc hum0 hup0
  have HFU := Lib.hid hfu
  rw [← hfu] at hy
  obtain ⟨f, hf⟩ : ∃ f : Nat → Nat → Option Nat, (fun i j => bothA (af b) (ma Y m i j) (af a) (aop .add (sumA (fun t => aop .mul (ma U q i t) (ma X q j t)) q) (sumA (fun t => aop .mul (ma X q i t) (ma U q j t)) q))) = f := ⟨_, rfl⟩
  have HF := Lib.hid (show ∀ i j, bothA (af b) (ma Y m i j) (af a) (aop .add (sumA (fun t => aop .mul (ma U q i t) (ma X q j t)) q) (sumA (fun t => aop .mul (ma X q i t) (ma U q j t)) q)) = f i j from fun i j => by rw [← hf])
  rw [hf]
  clear hf hfu
  have HSu := Lib.hid hu
  have HSx := Lib.hid hx
  have HSy := Lib.hid hy
  have HST := Lib.hid hs
  have HVK := Lib.hid hv
  have HIJ := Lib.hid hj
  have HLL := Lib.hid hl
  have p2 := fun (W : World) (bz : Below w.heap.size w W) => sized_is u x.R x.C W
  simp only [h0] at p2
  have p5 := fun (W : World) (bz : Below w.heap.size w W) => sized_is y u.R u.R W
  simp only [h1] at p5
  clear he hs hv hj hl hu hx hy h0 h1
  have Db0 := Blk.new w [.float .f64 a] 32
  have Du := Blk.new (w.alloc (.cells #[.float .f64 a] 32)) u.L 30
  replace Db0 := Db0.alloc (.cells u.L.toArray 30)
  simp only [World.size_alloc] at Du
  have Dx := Blk.new ((w.alloc (.cells #[.float .f64 a] 32)).alloc (.cells u.L.toArray 30)) x.L 30
  replace Db0 := Db0.alloc (.cells x.L.toArray 30)
  replace Du := Du.alloc (.cells x.L.toArray 30)
  simp only [World.size_alloc] at Dx
  have Db3 := Blk.new (((w.alloc (.cells #[.float .f64 a] 32)).alloc (.cells u.L.toArray 30)).alloc (.cells x.L.toArray 30)) [.float .f64 b] 32
  replace Db0 := Db0.alloc (.cells #[.float .f64 b] 32)
  replace Du := Du.alloc (.cells #[.float .f64 b] 32)
  replace Dx := Dx.alloc (.cells #[.float .f64 b] 32)
  simp only [World.size_alloc] at Db3
  have Dy := Blk.new ((((w.alloc (.cells #[.float .f64 a] 32)).alloc (.cells u.L.toArray 30)).alloc (.cells x.L.toArray 30)).alloc (.cells #[.float .f64 b] 32)) y.L 30
  replace Db0 := Db0.alloc (.cells y.L.toArray 30)
  replace Du := Du.alloc (.cells y.L.toArray 30)
  replace Dx := Dx.alloc (.cells y.L.toArray 30)
  replace Db3 := Db3.alloc (.cells y.L.toArray 30)
  simp only [World.size_alloc] at Dy
  have bz := (((((Below.refl _ w).alloc (Nat.le_refl _) (.cells #[.float .f64 a] 32)).alloc (by simp <;> omega) (.cells u.L.toArray 30)).alloc (by simp <;> omega) (.cells x.L.toArray 30)).alloc (by simp <;> omega) (.cells #[.float .f64 b] 32)).alloc (by simp <;> omega) (.cells y.L.toArray 30)
  have hsz0 : (((((w.alloc (.cells #[.float .f64 a] 32)).alloc (.cells u.L.toArray 30)).alloc (.cells x.L.toArray 30)).alloc (.cells #[.float .f64 b] 32)).alloc (.cells y.L.toArray 30)).heap.size = w.heap.size + 5 := by simp
  refine (callsIn_wide (n := 5)).1 ?_
  refine callsIn_of_wp_marks Try.func45 rfl trivial ?_ rfl
  simp only [Try.ntmps45, List.size_toArray, List.length_cons, List.length_nil, Nat.reduceAdd, Nat.reduceSub, Array.replicate_succ, Array.replicate_zero, List.push_toArray, List.append_toArray, List.nil_append, List.cons_append]
  refine wpIn_wide.2 ?_
  go_wp2_with fail
  replace Db0 := Db0.drew
  replace Du := Du.drew
  replace Dx := Dx.drew
  replace Db3 := Db3.drew
  replace Dy := Dy.drew
  replace bz := bz.drew
  refine wp_only ?_
  refine wp_region_held_drew (S := fun w9 : World => Vbx w9 (w.heap.size + 1) u ∧ Vbx w9 (w.heap.size + 2) x ∧ Vbx w9 (w.heap.size + 4) y) (by kernel_rfl) ⟨Du, Dx, Dy⟩ (fun hS => ?_)
  generalize (((((w.alloc (.cells #[.float .f64 a] 32)).alloc (.cells u.L.toArray 30)).alloc (.cells x.L.toArray 30)).alloc (.cells #[.float .f64 b] 32)).alloc (.cells y.L.toArray 30)).drew = wd at hS Db0 Du Dx Db3 Dy  bz ⊢
  refine wpAnyH_take (i := 0) (v := ?v0_1) rfl (by kernel_rfl) (by kernel_rfl) (by kernel_rfl) (fun _ _ _ h => h) (Or.inl ⟨by rfl, ?hy0_1⟩) (by assumption) ?rest0_1
  case hy0_1 => (intro w9 hSw; obtain ⟨m0, m1, m2⟩ := hSw; refine (ld_v (by rfl) (by kernel_rfl) m0).trans ?_; with_reducible rfl)
  try simp only [Act.put, List.setIfInBounds_toArray, List.set_cons_zero, List.set_cons_succ, List.getElem_toArray, List.getElem_cons_zero, List.getElem_cons_succ]
  refine wpAnyH_take (i := 1) (v := ?v1_2) rfl (by kernel_rfl) (by kernel_rfl) (by kernel_rfl) (fun _ _ _ h => h) (Or.inl ⟨by rfl, ?hy1_2⟩) (by assumption) ?rest1_2
  case hy1_2 => (intro w9 hSw; obtain ⟨m0, m1, m2⟩ := hSw; refine (ld_v (by rfl) (by kernel_rfl) m1).trans ?_; with_reducible rfl)
  try simp only [Act.put, List.setIfInBounds_toArray, List.set_cons_zero, List.set_cons_succ, List.getElem_toArray, List.getElem_cons_zero, List.getElem_cons_succ]
  refine wpAnyH_take (i := 3) (v := ?v3_3) rfl (by kernel_rfl) (by kernel_rfl) (by kernel_rfl) (fun _ _ _ h => h) (Or.inl ⟨by rfl, ?hy3_3⟩) (by assumption) ?rest3_3
  case hy3_3 => (intro w9 hSw; obtain ⟨m0, m1, m2⟩ := hSw; refine (ld_v (by rfl) (by kernel_rfl) m1).trans ?_; with_reducible rfl)
  try simp only [Act.put, List.setIfInBounds_toArray, List.set_cons_zero, List.set_cons_succ, List.getElem_toArray, List.getElem_cons_zero, List.getElem_cons_succ]
  refine wpAnyH_ready (rs := [2]) (by kernel_rfl) (by simp) ?_
  refine AllReadyH.cons rfl (fun K hK => ?_) AllReadyH.nil
  go_simp
  with_reducible refine (Rows_any x _).mono ?_
  rintro e w1 ⟨rfl, hb⟩
  replace Db0 := Db0.on hb
  replace Du := Du.on hb
  replace Dx := Dx.on hb
  replace Db3 := Db3.on hb
  replace Dy := Dy.on hb
  replace bz := bz.trans (hb.mono bz.size)
  clear hb
  clear hS; refine hK.out _ _ ⟨Du, Dx, Dy⟩ (fun hS => ?_); clear hK K
  try simp only [Act.put, List.setIfInBounds_toArray, List.set_cons_zero, List.set_cons_succ, List.getElem_toArray, List.getElem_cons_zero, List.getElem_cons_succ]
  refine wpAnyH_ready (rs := [4]) (by kernel_rfl) (by simp) ?_
  refine AllReadyH.cons rfl (fun K hK => ?_) AllReadyH.nil
  go_simp
  with_reducible refine (Cols_any x _).mono ?_
  rintro e w2 ⟨rfl, hb⟩
  replace Db0 := Db0.on hb
  replace Du := Du.on hb
  replace Dx := Dx.on hb
  replace Db3 := Db3.on hb
  replace Dy := Dy.on hb
  replace bz := bz.trans (hb.mono bz.size)
  clear hb
  clear hS; refine hK.out _ _ ⟨Du, Dx, Dy⟩ (fun hS => ?_); clear hK K
  try simp only [Act.put, List.setIfInBounds_toArray, List.set_cons_zero, List.set_cons_succ, List.getElem_toArray, List.getElem_cons_zero, List.getElem_cons_succ]
  refine wpAnyH_ready (rs := [5]) (by kernel_rfl) (by simp) ?_
  refine AllReadyH.cons rfl (fun K hK => ?_) AllReadyH.nil
  go_simp
  with_reducible refine (p2 _ bz).mono ?_
  rintro e w3 ⟨rfl, hb⟩
  replace Db0 := Db0.on hb
  replace Du := Du.on hb
  replace Dx := Dx.on hb
  replace Db3 := Db3.on hb
  replace Dy := Dy.on hb
  replace bz := bz.trans (hb.mono bz.size)
  clear hb
  clear hS; refine hK.out _ _ ⟨Du, Dx, Dy⟩ (fun hS => ?_); clear hK K
  try simp only [Act.put, List.setIfInBounds_toArray, List.set_cons_zero, List.set_cons_succ, List.getElem_toArray, List.getElem_cons_zero, List.getElem_cons_succ]
  refine wpAnyH_take (i := 6) (v := ?v6_4) rfl (by kernel_rfl) (by kernel_rfl) (by kernel_rfl) (fun _ _ _ h => h) (Or.inl ⟨by rfl, ?hy6_4⟩) (by assumption) ?rest6_4
  case hy6_4 => (intro w9 hSw; clear hSw; go_simp; try with_reducible rfl)
  try simp only [Act.put, List.setIfInBounds_toArray, List.set_cons_zero, List.set_cons_succ, List.getElem_toArray, List.getElem_cons_zero, List.getElem_cons_succ]
  refine wpAnyH_take (i := 7) (v := ?v7_5) rfl (by kernel_rfl) (by kernel_rfl) (by kernel_rfl) (fun _ _ _ h => h) (Or.inl ⟨by rfl, ?hy7_5⟩) (by assumption) ?rest7_5
  case hy7_5 => (intro w9 hSw; obtain ⟨m0, m1, m2⟩ := hSw; refine (ld_v (by rfl) (by kernel_rfl) m2).trans ?_; with_reducible rfl)
  try simp only [Act.put, List.setIfInBounds_toArray, List.set_cons_zero, List.set_cons_succ, List.getElem_toArray, List.getElem_cons_zero, List.getElem_cons_succ]
  refine wpAnyH_take (i := 8) (v := ?v8_6) rfl (by kernel_rfl) (by kernel_rfl) (by kernel_rfl) (fun _ _ _ h => h) (Or.inl ⟨by rfl, ?hy8_6⟩) (by assumption) ?rest8_6
  case hy8_6 => (intro w9 hSw; obtain ⟨m0, m1, m2⟩ := hSw; refine (ld_v (by rfl) (by kernel_rfl) m0).trans ?_; with_reducible rfl)
  try simp only [Act.put, List.setIfInBounds_toArray, List.set_cons_zero, List.set_cons_succ, List.getElem_toArray, List.getElem_cons_zero, List.getElem_cons_succ]
  refine wpAnyH_take (i := 10) (v := ?v10_7) rfl (by kernel_rfl) (by kernel_rfl) (by kernel_rfl) (fun _ _ _ h => h) (Or.inl ⟨by rfl, ?hy10_7⟩) (by assumption) ?rest10_7
  case hy10_7 => (intro w9 hSw; obtain ⟨m0, m1, m2⟩ := hSw; refine (ld_v (by rfl) (by kernel_rfl) m0).trans ?_; with_reducible rfl)
  try simp only [Act.put, List.setIfInBounds_toArray, List.set_cons_zero, List.set_cons_succ, List.getElem_toArray, List.getElem_cons_zero, List.getElem_cons_succ]
  refine wpAnyH_ready (rs := [9]) (by kernel_rfl) (by simp) ?_
  refine AllReadyH.cons rfl (fun K hK => ?_) AllReadyH.nil
  go_simp
  with_reducible refine (Rows_any u _).mono ?_
  rintro e w4 ⟨rfl, hb⟩
  replace Db0 := Db0.on hb
  replace Du := Du.on hb
  replace Dx := Dx.on hb
  replace Db3 := Db3.on hb
  replace Dy := Dy.on hb
  replace bz := bz.trans (hb.mono bz.size)
  clear hb
  clear hS; refine hK.out _ _ ⟨Du, Dx, Dy⟩ (fun hS => ?_); clear hK K
  try simp only [Act.put, List.setIfInBounds_toArray, List.set_cons_zero, List.set_cons_succ, List.getElem_toArray, List.getElem_cons_zero, List.getElem_cons_succ]
  refine wpAnyH_ready (rs := [11]) (by kernel_rfl) (by simp) ?_
  refine AllReadyH.cons rfl (fun K hK => ?_) AllReadyH.nil
  go_simp
  with_reducible refine (Rows_any u _).mono ?_
  rintro e w5 ⟨rfl, hb⟩
  replace Db0 := Db0.on hb
  replace Du := Du.on hb
  replace Dx := Dx.on hb
  replace Db3 := Db3.on hb
  replace Dy := Dy.on hb
  replace bz := bz.trans (hb.mono bz.size)
  clear hb
  clear hS; refine hK.out _ _ ⟨Du, Dx, Dy⟩ (fun hS => ?_); clear hK K
  try simp only [Act.put, List.setIfInBounds_toArray, List.set_cons_zero, List.set_cons_succ, List.getElem_toArray, List.getElem_cons_zero, List.getElem_cons_succ]
  refine wpAnyH_ready (rs := [12]) (by kernel_rfl) (by simp) ?_
  refine AllReadyH.cons rfl (fun K hK => ?_) AllReadyH.nil
  go_simp
  with_reducible refine (p5 _ bz).mono ?_
  rintro e w6 ⟨rfl, hb⟩
  replace Db0 := Db0.on hb
  replace Du := Du.on hb
  replace Dx := Dx.on hb
  replace Db3 := Db3.on hb
  replace Dy := Dy.on hb
  replace bz := bz.trans (hb.mono bz.size)
  clear hb
  clear hS; refine hK.out _ _ ⟨Du, Dx, Dy⟩ (fun hS => ?_); clear hK K
  try simp only [Act.put, List.setIfInBounds_toArray, List.set_cons_zero, List.set_cons_succ, List.getElem_toArray, List.getElem_cons_zero, List.getElem_cons_succ]
  refine wpAnyH_take (i := 13) (v := ?v13_8) rfl (by kernel_rfl) (by kernel_rfl) (by kernel_rfl) (fun _ _ _ h => h) (Or.inl ⟨by rfl, ?hy13_8⟩) (by assumption) ?rest13_8
  case hy13_8 => (intro w9 hSw; clear hSw; go_simp; try with_reducible rfl)
  try simp only [Act.put, List.setIfInBounds_toArray, List.set_cons_zero, List.set_cons_succ, List.getElem_toArray, List.getElem_cons_zero, List.getElem_cons_succ]
  refine wpAnyH_take (i := 14) (v := ?v14_9) rfl (by kernel_rfl) (by kernel_rfl) (by kernel_rfl) (fun _ _ _ h => h) (Or.inl ⟨by rfl, ?hy14_9⟩) (by assumption) ?rest14_9
  case hy14_9 => (intro w9 hSw; clear hSw; go_simp; try with_reducible rfl)
  try simp only [Act.put, List.setIfInBounds_toArray, List.set_cons_zero, List.set_cons_succ, List.getElem_toArray, List.getElem_cons_zero, List.getElem_cons_succ]
  refine wpAnyH_done (by kernel_rfl) ?_ _
  simp only [onlyN]
  obtain ⟨v0_0, v0_1, v0_2, v0_3, v0_4, v0_5, v0_6, v0_7, v0_8⟩ := Vbx.cells Du
  obtain ⟨v1_0, v1_1, v1_2, v1_3, v1_4, v1_5, v1_6, v1_7, v1_8⟩ := Vbx.cells Dx
  obtain ⟨v2_0, v2_1, v2_2, v2_3, v2_4, v2_5, v2_6, v2_7, v2_8⟩ := Vbx.cells Dy
  have hL : VLs (w6.alloc (.cells #[.pointer u.p, .int .i64 u.f0, .int .i64 u.f1, .int .i64 u.d0, .int .i64 u.d1, .int .i64 u.r0, .int .i64 u.r1, .int .i64 u.R, .int .i64 u.C, .pointer x.p, .int .i64 x.f0, .int .i64 x.f1, .int .i64 x.d0, .int .i64 x.d1, .int .i64 x.r0, .int .i64 x.r1, .int .i64 x.R, .int .i64 x.C, .pointer y.p, .int .i64 y.f0, .int .i64 y.f1, .int .i64 y.d0, .int .i64 y.d1, .int .i64 y.r0, .int .i64 y.r1, .int .i64 y.R, .int .i64 y.C] 30)) ⟨w6.heap.size, 0, none⟩ [u, x, y] := VLs.of (Blk.new w6 ([u, x, y].flatMap Vu.L) 30)
  have hbA := (Below.refl _ w6).alloc (Nat.le_refl _) ((.cells #[.pointer u.p, .int .i64 u.f0, .int .i64 u.f1, .int .i64 u.d0, .int .i64 u.d1, .int .i64 u.r0, .int .i64 u.r1, .int .i64 u.R, .int .i64 u.C, .pointer x.p, .int .i64 x.f0, .int .i64 x.f1, .int .i64 x.d0, .int .i64 x.d1, .int .i64 x.r0, .int .i64 x.r1, .int .i64 x.R, .int .i64 x.C, .pointer y.p, .int .i64 y.f0, .int .i64 y.f1, .int .i64 y.d0, .int .i64 y.d1, .int .i64 y.r0, .int .i64 y.r1, .int .i64 y.R, .int .i64 y.C] 30))
  replace Db0 := Db0.on hbA
  replace Du := Du.on hbA
  replace Dx := Dx.on hbA
  replace Db3 := Db3.on hbA
  replace Dy := Dy.on hbA
  clear hbA
  replace bz := bz.alloc bz.size ((.cells #[.pointer u.p, .int .i64 u.f0, .int .i64 u.f1, .int .i64 u.d0, .int .i64 u.d1, .int .i64 u.r0, .int .i64 u.r1, .int .i64 u.R, .int .i64 u.C, .pointer x.p, .int .i64 x.f0, .int .i64 x.f1, .int .i64 x.d0, .int .i64 x.d1, .int .i64 x.r0, .int .i64 x.r1, .int .i64 x.R, .int .i64 x.C, .pointer y.p, .int .i64 y.f0, .int .i64 y.f1, .int .i64 y.d0, .int .i64 y.d1, .int .i64 y.r0, .int .i64 y.r1, .int .i64 y.R, .int .i64 y.C] 30))
  go_wp2_with fail
  with_reducible refine (refused_is true (vs := [u, x, y]) (n := 3) rfl (by omega) hL (by intro z hz; simp only [List.mem_cons, List.mem_nil_iff, or_false] at hz; rcases hz with rfl | rfl | rfl; exact ⟨_, HSu.out.on bz⟩; exact ⟨_, HSx.out.on bz⟩; exact ⟨_, HSy.out.on bz⟩)).mono ?_
  rintro e w7 ⟨rfl, hb⟩
  clear v0_0 v0_1 v0_2 v0_3 v0_4 v0_5 v0_6 v0_7 v0_8 v1_0 v1_1 v1_2 v1_3 v1_4 v1_5 v1_6 v1_7 v1_8 v2_0 v2_1 v2_2 v2_3 v2_4 v2_5 v2_6 v2_7 v2_8
  replace Db0 := Db0.on hb
  replace Du := Du.on hb
  replace Dx := Dx.on hb
  replace Db3 := Db3.on hb
  replace Dy := Dy.on hb
  replace hL := hL.on hb
  replace bz := bz.trans (hb.mono bz.size)
  clear hb hL
  rw [HE.out]
  go_wp2_with fail
  replace Db0 := Db0.drew
  replace Du := Du.drew
  replace Dx := Dx.drew
  replace Db3 := Db3.drew
  replace Dy := Dy.drew
  replace bz := bz.drew
  refine wp_only ?_
  refine wp_region_held_drew (S := fun w9 : World => Vbx w9 (w.heap.size + 1) u ∧ Vbx w9 (w.heap.size + 2) x ∧ Vbx w9 (w.heap.size + 4) y) (by kernel_rfl) ⟨Du, Dx, Dy⟩ (fun hS => ?_)
  have hwl := Dy.lt
  generalize w7.drew = wf at hS hwl Db0 Du Dx Db3 Dy bz ⊢
  refine wpAnyH_take (i := 0) (v := ?v0_10) rfl (by kernel_rfl) (by kernel_rfl) (by kernel_rfl) (fun _ _ _ h => h) (Or.inl ⟨by rfl, ?hy0_10⟩) (by assumption) ?rest0_10
  case hy0_10 => (intro w9 hSw; obtain ⟨m0, m1, m2⟩ := hSw; refine (ld_v (by rfl) (by kernel_rfl) m2).trans ?_; with_reducible rfl)
  try simp only [Act.put, List.setIfInBounds_toArray, List.set_cons_zero, List.set_cons_succ, List.getElem_toArray, List.getElem_cons_zero, List.getElem_cons_succ]
  refine wpAnyH_take (i := 1) (v := ?v1_11) rfl (by kernel_rfl) (by kernel_rfl) (by kernel_rfl) (fun _ _ _ h => h) (Or.inl ⟨by rfl, ?hy1_11⟩) (by assumption) ?rest1_11
  case hy1_11 => (intro w9 hSw; clear hSw; go_simp; try with_reducible rfl)
  try simp only [Act.put, List.setIfInBounds_toArray, List.set_cons_zero, List.set_cons_succ, List.getElem_toArray, List.getElem_cons_zero, List.getElem_cons_succ]
  refine wpAnyH_take (i := 2) (v := ?v2_12) rfl (by kernel_rfl) (by kernel_rfl) (by kernel_rfl) (fun _ _ _ h => h) (Or.inl ⟨by rfl, ?hy2_12⟩) (by assumption) ?rest2_12
  case hy2_12 => (intro w9 hSw; obtain ⟨m0, m1, m2⟩ := hSw; refine (ld_v (by rfl) (by kernel_rfl) m0).trans ?_; with_reducible rfl)
  try simp only [Act.put, List.setIfInBounds_toArray, List.set_cons_zero, List.set_cons_succ, List.getElem_toArray, List.getElem_cons_zero, List.getElem_cons_succ]
  refine wpAnyH_take (i := 4) (v := ?v4_13) rfl (by kernel_rfl) (by kernel_rfl) (by kernel_rfl) (fun _ _ _ h => h) (Or.inl ⟨by rfl, ?hy4_13⟩) (by assumption) ?rest4_13
  case hy4_13 => (intro w9 hSw; obtain ⟨m0, m1, m2⟩ := hSw; refine (ld_v (by rfl) (by kernel_rfl) m1).trans ?_; with_reducible rfl)
  try simp only [Act.put, List.setIfInBounds_toArray, List.set_cons_zero, List.set_cons_succ, List.getElem_toArray, List.getElem_cons_zero, List.getElem_cons_succ]
  obtain ⟨I, hI⟩ : ∃ I : Array Value → List Bool → Act → World → Prop, I = (fun T bs a9 W => ∃ (lo hi : Nat → Nat) (v0 v1 v2 v3 v4 : Value), a9 = { tmps := (((((T.setIfInBounds 45 v0).setIfInBounds 47 v1).setIfInBounds 13 v2).setIfInBounds 14 v3).setIfInBounds 15 v4), defers := [] } ∧ Pol wf.heap.size W bs lo hi ∧ (bs.getD 0 false = true → CR W (lo 0) (hi 0) m q U v0) ∧ (bs.getD 1 false = true → CR W (lo 1) (hi 1) m q X v1) ∧ (bs.getD 2 false = true → CP W (lo 2) (hi 2) .nilFunc v2) ∧ (bs.getD 3 false = true → CP W (lo 3) (hi 3) (.slice none 0 0) v3) ∧ (bs.getD 4 false = true → CP W (lo 4) (hi 4) (.slice none 0 0) v4) ∧ Vbx W (w.heap.size + 1) u ∧ Vbx W (w.heap.size + 2) x ∧ Vbx W (w.heap.size + 4) y ∧ Blk W w.heap.size [.float .f64 a] ∧ Blk W (w.heap.size + 3) [.float .f64 b] ∧ Below w.heap.size w W ∧ wf.heap.size ≤ W.heap.size) := ⟨_, rfl⟩
  have HI := Lib.hid hI
  clear hI
  refine wpAnyH_freeT (is := [3, 5, 6, 7, 8]) (L := fun bs => #[true, true, true, bs.getD 0 false, true, bs.getD 1 false, bs.getD 2 false, bs.getD 3 false, bs.getD 4 false, false, false, false]) (F := 3) (fun bs => bs.getD 0 false || !(bs.getD 1 false)) I (by kernel_rfl) ?step ?fin 5 [false, false, false, false, false] rfl rfl rfl ?beg hS
  case beg =>
    rw [HI.out]
    exact ⟨fun _ => 0, fun _ => 0, undef, undef, undef, undef, undef, by kernel_rfl, Pol.start (by intro k; rcases k with _ | _ | _ | _ | _ | k <;> simp), by simp, by simp, by simp, by simp, by simp, Du, Dx, Dy, Db0, Db3, bz, Nat.le_refl _⟩
  case step =>
    intro k hk bs a9 W hl hb hok hI hS
    obtain ⟨b0, b1, b2, b3, b4, rfl⟩ := bools5 bs hl
    rw [HI.out] at hI
    obtain ⟨lo, hi, v0, v1, v2, v3, v4, rfl, hP, f0, f1, f2, f3, f4, Du, Dx, Dy, Db0, Db3, bz, hsz⟩ := hI
    clear hS
    rcases k with _ | _ | _ | _ | _ | k
    · skip
      refine ⟨3, _, rfl, rfl, fun K hK => ?_⟩
      try simp only [Act.put, List.setIfInBounds_toArray, List.set_cons_zero, List.set_cons_succ, List.getElem_toArray, List.getElem_cons_zero, List.getElem_cons_succ]
      go_simp
      with_reducible refine (rows_is (HSu.out.on bz) HUR.out HUQ.out).mono ?_
      rintro e w1 ⟨o, G, cG, rfl, hR, hb1⟩
      refine hK.out _ _ ⟨Du.on hb1, Dx.on hb1, Dy.on hb1⟩ ?_
      try simp only [Act.put, List.setIfInBounds_toArray, List.set_cons_zero, List.set_cons_succ, List.getElem_toArray, List.getElem_cons_zero, List.getElem_cons_succ]
      rw [HI.out]
      exact ⟨_, _, .slice (some ⟨o, 0, none⟩) m m, v1, v2, v3, v4, by kernel_rfl, hP.step 0 hb1.size hsz, fun _ => ⟨o, G, cG, rfl, hR, hR.blk.lt, fun a e => (hR.own.gt e).2⟩, fun h => (f1 h).on hb1, fun h => (f2 h).on hb1, fun h => (f3 h).on hb1, fun h => (f4 h).on hb1, Du.on hb1, Dx.on hb1, Dy.on hb1, Db0.on hb1, Db3.on hb1, bz.trans (hb1.mono bz.size), Nat.le_trans hsz hb1.size⟩
    · skip
      refine ⟨5, _, rfl, rfl, fun K hK => ?_⟩
      try simp only [Act.put, List.setIfInBounds_toArray, List.set_cons_zero, List.set_cons_succ, List.getElem_toArray, List.getElem_cons_zero, List.getElem_cons_succ]
      go_simp
      with_reducible refine (rows_is (HSx.out.on bz) HXR.out HXQ.out).mono ?_
      rintro e w1 ⟨o, G, cG, rfl, hR, hb1⟩
      refine hK.out _ _ ⟨Du.on hb1, Dx.on hb1, Dy.on hb1⟩ ?_
      try simp only [Act.put, List.setIfInBounds_toArray, List.set_cons_zero, List.set_cons_succ, List.getElem_toArray, List.getElem_cons_zero, List.getElem_cons_succ]
      rw [HI.out]
      exact ⟨_, _, v0, .slice (some ⟨o, 0, none⟩) m m, v2, v3, v4, by kernel_rfl, hP.step 1 hb1.size hsz, fun h => (f0 h).on hb1, fun _ => ⟨o, G, cG, rfl, hR, hR.blk.lt, fun a e => (hR.own.gt e).2⟩, fun h => (f2 h).on hb1, fun h => (f3 h).on hb1, fun h => (f4 h).on hb1, Du.on hb1, Dx.on hb1, Dy.on hb1, Db0.on hb1, Db3.on hb1, bz.trans (hb1.mono bz.size), Nat.le_trans hsz hb1.size⟩
    · skip
      refine ⟨6, _, rfl, rfl, fun K hK => ?_⟩
      try simp only [Act.put, List.setIfInBounds_toArray, List.set_cons_zero, List.set_cons_succ, List.getElem_toArray, List.getElem_cons_zero, List.getElem_cons_succ]
      go_simp
      have hb1 := (Below.refl _ W).alloc (Nat.le_refl _) (.cells #[.nilFunc] 96)
      refine hK.out _ _ ⟨Du.on hb1, Dx.on hb1, Dy.on hb1⟩ ?_
      try simp only [Act.put, List.setIfInBounds_toArray, List.set_cons_zero, List.set_cons_succ, List.getElem_toArray, List.getElem_cons_zero, List.getElem_cons_succ]
      rw [HI.out]
      exact ⟨_, _, v0, v1, .pointer (some ⟨W.heap.size, 0, none⟩), v3, v4, by kernel_rfl, hP.step 2 hb1.size hsz, fun h => (f0 h).on hb1, fun h => (f1 h).on hb1, fun _ => ⟨rfl, Blk.new W [.nilFunc] 96, by simp [upN]⟩, fun h => (f3 h).on hb1, fun h => (f4 h).on hb1, Du.on hb1, Dx.on hb1, Dy.on hb1, Db0.on hb1, Db3.on hb1, bz.trans (hb1.mono bz.size), Nat.le_trans hsz hb1.size⟩
    · skip
      refine ⟨7, _, rfl, rfl, fun K hK => ?_⟩
      try simp only [Act.put, List.setIfInBounds_toArray, List.set_cons_zero, List.set_cons_succ, List.getElem_toArray, List.getElem_cons_zero, List.getElem_cons_succ]
      go_simp
      have hb1 := (Below.refl _ W).alloc (Nat.le_refl _) (.cells #[.slice none 0 0] 91)
      refine hK.out _ _ ⟨Du.on hb1, Dx.on hb1, Dy.on hb1⟩ ?_
      try simp only [Act.put, List.setIfInBounds_toArray, List.set_cons_zero, List.set_cons_succ, List.getElem_toArray, List.getElem_cons_zero, List.getElem_cons_succ]
      rw [HI.out]
      exact ⟨_, _, v0, v1, v2, .pointer (some ⟨W.heap.size, 0, none⟩), v4, by kernel_rfl, hP.step 3 hb1.size hsz, fun h => (f0 h).on hb1, fun h => (f1 h).on hb1, fun h => (f2 h).on hb1, fun _ => ⟨rfl, Blk.new W [.slice none 0 0] 91, by simp [upN]⟩, fun h => (f4 h).on hb1, Du.on hb1, Dx.on hb1, Dy.on hb1, Db0.on hb1, Db3.on hb1, bz.trans (hb1.mono bz.size), Nat.le_trans hsz hb1.size⟩
    · skip
      refine ⟨8, _, rfl, rfl, fun K hK => ?_⟩
      try simp only [Act.put, List.setIfInBounds_toArray, List.set_cons_zero, List.set_cons_succ, List.getElem_toArray, List.getElem_cons_zero, List.getElem_cons_succ]
      go_simp
      have hb1 := (Below.refl _ W).alloc (Nat.le_refl _) (.cells #[.slice none 0 0] 91)
      refine hK.out _ _ ⟨Du.on hb1, Dx.on hb1, Dy.on hb1⟩ ?_
      try simp only [Act.put, List.setIfInBounds_toArray, List.set_cons_zero, List.set_cons_succ, List.getElem_toArray, List.getElem_cons_zero, List.getElem_cons_succ]
      rw [HI.out]
      exact ⟨_, _, v0, v1, v2, v3, .pointer (some ⟨W.heap.size, 0, none⟩), by kernel_rfl, hP.step 4 hb1.size hsz, fun h => (f0 h).on hb1, fun h => (f1 h).on hb1, fun h => (f2 h).on hb1, fun h => (f3 h).on hb1, fun _ => ⟨rfl, Blk.new W [.slice none 0 0] 91, by simp [upN]⟩, Du.on hb1, Dx.on hb1, Dy.on hb1, Db0.on hb1, Db3.on hb1, bz.trans (hb1.mono bz.size), Nat.le_trans hsz hb1.size⟩
    · simp at hk; omega
  case fin =>
    intro a9 W hI hS
    rw [HI.out] at hI
    obtain ⟨lo, hi, v0, v1, v2, v3, v4, rfl, hP, f0, f1, f2, f3, f4, Du, Dx, Dy, Db0, Db3, bz, hsz⟩ := hI
    clear hS
    try simp only [Act.put, List.setIfInBounds_toArray, List.set_cons_zero, List.set_cons_succ, List.getElem_toArray, List.getElem_cons_zero, List.getElem_cons_succ]
    obtain ⟨o3, A3, c3, rfl, ho3, ho3h, hh3⟩ := f0 rfl
    obtain ⟨o4, A4, c4, rfl, ho4, ho4h, hh4⟩ := f1 rfl
    obtain ⟨rfl, D2, l2⟩ := f2 rfl
    obtain ⟨rfl, D3, l3⟩ := f3 rfl
    obtain ⟨rfl, D4, l4⟩ := f4 rfl
    have r0 := (hP.rng 0 rfl).1
    have r1 := (hP.rng 1 rfl).1
    have r2 := (hP.rng 2 rfl).1
    have r3 := (hP.rng 3 rfl).1
    have r4 := (hP.rng 4 rfl).1
    have q3 : (o3 ≠ lo 2 ∧ o3 ≠ lo 3 ∧ o3 ≠ lo 4) ∧ ∀ a, A3 = some a → a.block ≠ lo 2 ∧ a.block ≠ lo 3 ∧ a.block ≠ lo 4 := by
      have h2 := ho3.hB
      have k2 := hP.ap 0 2 (by decide) rfl rfl
      have k3 := hP.ap 0 3 (by decide) rfl rfl
      have k4 := hP.ap 0 4 (by decide) rfl rfl
      refine ⟨by omega, fun a e => ?_⟩
      have h1 := hh3 a e
      have h2 := (ho3.own.gt e).1
      omega
    have q4 : (o4 ≠ lo 2 ∧ o4 ≠ lo 3 ∧ o4 ≠ lo 4) ∧ ∀ a, A4 = some a → a.block ≠ lo 2 ∧ a.block ≠ lo 3 ∧ a.block ≠ lo 4 := by
      have h2 := ho4.hB
      have k2 := hP.ap 1 2 (by decide) rfl rfl
      have k3 := hP.ap 1 3 (by decide) rfl rfl
      have k4 := hP.ap 1 4 (by decide) rfl rfl
      refine ⟨by omega, fun a e => ?_⟩
      have h1 := hh4 a e
      have h2 := (ho4.own.gt e).1
      omega
    have q0 : lo 2 ≠ lo 3 ∧ lo 2 ≠ lo 4 ∧ lo 3 ≠ lo 4 := by
      have k2 := hP.ap 2 3 (by decide) rfl rfl
      have k3 := hP.ap 2 4 (by decide) rfl rfl
      have k4 := hP.ap 3 4 (by decide) rfl rfl
      omega
    have hgw := HST.out.gt.2
    clear hP f0 f1 f2 f3 f4 hh3 hh4 ho3h ho4h l2 l3 l4
    generalize lo 2 = p2 at *
    generalize lo 3 = p3 at *
    generalize lo 4 = p4 at *
    generalize lo 0 = lo0 at *
    generalize lo 1 = lo1 at *
    have z2 : w.heap.size + 4 < p2 ∧ w.heap.size + 4 < p3 ∧ w.heap.size + 4 < p4 := by omega
    have cS := Blk.cell D2 0 rfl
    have fS := Blk.free D2 0
    refine wpAnyH_ready (rs := [9]) (by kernel_rfl) (by simp) ?_
    refine AllReadyH.cons rfl (fun K hK => ?_) AllReadyH.nil
    go_simp
    have hgS := set1_grown W p2 (.func (.func 85) #[y.V] #[])
    clear cS fS
    replace D2 : Blk _ p2 [.func (.func 85) #[y.V] #[]] := Blk.set_ D2 0 (.func (.func 85) #[y.V] #[])
    replace Du := Du.grown hgS (by simp <;> omega)
    replace Dx := Dx.grown hgS (by simp <;> omega)
    replace Dy := Dy.grown hgS (by simp <;> omega)
    replace Db0 := Db0.grown hgS (by simp <;> omega)
    replace Db3 := Db3.grown hgS (by simp <;> omega)
    replace D3 := D3.grown hgS (by simp <;> omega)
    replace D4 := D4.grown hgS (by simp <;> omega)
    replace ho3 := ho3.grownHi hgS q3.1.1 (fun a e => (q3.2 a e).1)
    replace ho4 := ho4.grownHi hgS q4.1.1 (fun a e => (q4.2 a e).1)
    replace bz := bz.grown hgS bz.size (fun k e => by cases e; omega)
    generalize World.setCell W ⟨p2, 0, none⟩ (.func (.func 85) #[y.V] #[]) = W2 at Du Dx Dy Db0 Db3 D2 D3 D4 ho3 ho4 bz ⊢
    clear hgS
    refine hK.out _ _ ⟨Du, Dx, Dy⟩ (fun hS => ?_)
    clear hK K
    try simp only [Act.put, List.setIfInBounds_toArray, List.set_cons_zero, List.set_cons_succ, List.getElem_toArray, List.getElem_cons_zero, List.getElem_cons_succ]
    clear hS
    have cS := Blk.cell D3 0 rfl
    have fS := Blk.free D3 0
    refine wpAnyH_ready (rs := [10]) (by kernel_rfl) (by simp) ?_
    refine AllReadyH.cons rfl (fun K hK => ?_) AllReadyH.nil
    go_simp
    have hgS := set1_grown W2 p3 (.slice (some ⟨o3, 0, none⟩) m m)
    clear cS fS
    replace D3 : Blk _ p3 [.slice (some ⟨o3, 0, none⟩) m m] := Blk.set_ D3 0 (.slice (some ⟨o3, 0, none⟩) m m)
    replace Du := Du.grown hgS (by simp <;> omega)
    replace Dx := Dx.grown hgS (by simp <;> omega)
    replace Dy := Dy.grown hgS (by simp <;> omega)
    replace Db0 := Db0.grown hgS (by simp <;> omega)
    replace Db3 := Db3.grown hgS (by simp <;> omega)
    replace D2 := D2.grown hgS (by simp <;> omega)
    replace D4 := D4.grown hgS (by simp <;> omega)
    replace ho3 := ho3.grownHi hgS q3.1.2.1 (fun a e => (q3.2 a e).2.1)
    replace ho4 := ho4.grownHi hgS q4.1.2.1 (fun a e => (q4.2 a e).2.1)
    replace bz := bz.grown hgS bz.size (fun k e => by cases e; omega)
    generalize World.setCell W2 ⟨p3, 0, none⟩ (.slice (some ⟨o3, 0, none⟩) m m) = W3 at Du Dx Dy Db0 Db3 D2 D3 D4 ho3 ho4 bz ⊢
    clear hgS
    refine hK.out _ _ ⟨Du, Dx, Dy⟩ (fun hS => ?_)
    clear hK K
    try simp only [Act.put, List.setIfInBounds_toArray, List.set_cons_zero, List.set_cons_succ, List.getElem_toArray, List.getElem_cons_zero, List.getElem_cons_succ]
    clear hS
    have cS := Blk.cell D4 0 rfl
    have fS := Blk.free D4 0
    refine wpAnyH_ready (rs := [11]) (by kernel_rfl) (by simp) ?_
    refine AllReadyH.cons rfl (fun K hK => ?_) AllReadyH.nil
    go_simp
    have hgS := set1_grown W3 p4 (.slice (some ⟨o4, 0, none⟩) m m)
    clear cS fS
    replace D4 : Blk _ p4 [.slice (some ⟨o4, 0, none⟩) m m] := Blk.set_ D4 0 (.slice (some ⟨o4, 0, none⟩) m m)
    replace Du := Du.grown hgS (by simp <;> omega)
    replace Dx := Dx.grown hgS (by simp <;> omega)
    replace Dy := Dy.grown hgS (by simp <;> omega)
    replace Db0 := Db0.grown hgS (by simp <;> omega)
    replace Db3 := Db3.grown hgS (by simp <;> omega)
    replace D2 := D2.grown hgS (by simp <;> omega)
    replace D3 := D3.grown hgS (by simp <;> omega)
    replace ho3 := ho3.grownHi hgS q3.1.2.2 (fun a e => (q3.2 a e).2.2)
    replace ho4 := ho4.grownHi hgS q4.1.2.2 (fun a e => (q4.2 a e).2.2)
    replace bz := bz.grown hgS bz.size (fun k e => by cases e; omega)
    generalize World.setCell W3 ⟨p4, 0, none⟩ (.slice (some ⟨o4, 0, none⟩) m m) = W4 at Du Dx Dy Db0 Db3 D2 D3 D4 ho3 ho4 bz ⊢
    clear hgS
    refine hK.out _ _ ⟨Du, Dx, Dy⟩ (fun hS => ?_)
    clear hK K
    try simp only [Act.put, List.setIfInBounds_toArray, List.set_cons_zero, List.set_cons_succ, List.getElem_toArray, List.getElem_cons_zero, List.getElem_cons_succ]
    clear hS
    refine wpAnyH_done (by kernel_rfl) ?_ _
    simp only [onlyN]
    clear Du Dx
    obtain ⟨cDy_0, cDy_1, cDy_2, cDy_3, cDy_4, cDy_5, cDy_6, cDy_7, cDy_8⟩ := Vbx.cells Dy
    go_wp2_with fail
    with_reducible refine (Rows_any y _).mono ?_
    rintro e w8 ⟨rfl, hb⟩
    clear cDy_0 cDy_1 cDy_2 cDy_3 cDy_4 cDy_5 cDy_6 cDy_7 cDy_8
    replace Dy := Dy.on hb
    replace Db0 := Db0.on hb
    replace Db3 := Db3.on hb
    replace D2 := D2.on hb
    replace D3 := D3.on hb
    replace D4 := D4.on hb
    replace ho3 := ho3.on hb
    replace ho4 := ho4.on hb
    replace bz := bz.trans (hb.mono bz.size)
    clear hb
    go_wp2_with fail
    rw [HUM.out]
    with_reducible refine (lower_any _ _).mono ?_
    rintro e w9 ⟨rfl, rfl⟩
    have DN := Blk.new w8 [.int .i64 (m : Int)] 3
    have bz6 := bz.size
    have hbA := (Below.refl _ w8).alloc (Nat.le_refl _) (.cells #[.int .i64 (m : Int)] 3)
    replace Dy := Dy.on hbA
    replace Db0 := Db0.on hbA
    replace Db3 := Db3.on hbA
    replace D2 := D2.on hbA
    replace D3 := D3.on hbA
    replace D4 := D4.on hbA
    replace ho3 := ho3.on hbA
    replace ho4 := ho4.on hbA
    clear hbA
    replace bz := bz.alloc bz.size (.cells #[.int .i64 (m : Int)] 3)
    obtain ⟨BN, hBN⟩ : ∃ H, w8.heap.size = H := ⟨_, rfl⟩
    rw [hBN] at DN bz6
    go_wp2_with fail
    try rw [hBN]
    refine (wpIn_wide (n := 5)).1 ?_
    obtain ⟨W0, hW0⟩ : ∃ W0, w8.alloc (.cells #[.int .i64 (m : Int)] 3) = W0 := ⟨_, rfl⟩
    rw [hW0] at Dy Db0 Db3 D2 D3 D4 ho3 ho4 DN bz ⊢
    clear hW0 hBN
    have hBB := bz.size
    have h0 : SkI w y U X B s g cap c a b m q l f p2 p3 p4 lo0 lo1 o3 o4 c3 c4 BN A3 A4 0 l W0 := ⟨Wr.start y c l f (fun a b _ => PL_zero a b), HST.out.on bz, DN, Db0, Db3, Dy, D2, D3, D4, ho3, ho4, grown_below bz (some g)⟩
    clear DN Db0 Db3 Dy D2 D3 D4 ho3 ho4 bz HI I hsz
    refine rangeFunc_V (by omega) (gf := 106) (lb := #[.pointer (some ⟨BN, 0, none⟩)]) rfl (enters_of Try.func106 (by kernel_rfl) rfl)
      (low_seq (Bn := BN) (by omega) hm5) (fun _ _ => rfl)
      (SkI w y U X B s g cap c a b m q l f p2 p3 p4 lo0 lo1 o3 o4 c3 c4 BN A3 A4) (fun _ => False) (fun k lx W h => h.2.2.1) (fun _ _ => SkI.ownV hBB) (fun _ _ _ h _ _ => h) h0
      (SkX w y U X B s g cap c a b m q l f p2 p3 p4 lo0 lo1 o3 o4 c3 c4 BN A3 A4) (fun _ _ _ => SkX.ownV hBB) ?assign ?body ?done ?stop
    case assign =>
      intro lp k lx W K hI hK
      unfold encT
      gi_wp2
      exact hK _ _ (keepsFrom_below (Below.refl _ W)) ⟨hI, _, _, _, _, _, _, _, _, _, _, _, _, _, _, _, _, _, _, _, _, _, _, _, _, _, _, _, _, _, _, _, _, _, _, _, _, _, _, _, _, _, _, _, _, _, _, _, _, _, _, _, _, _, _, _, _, _, _, _, _, _, _, _, _, _, _, _, _, _, _, _, _, _, _, _, _, _, _, rfl⟩
    case done =>
      rintro D lx W hD ⟨h0, h1, h2, h3, h3b, h4, h5, h6, h7, h8, h9, h10⟩ hK
      go_wp2_with fail
      refine ⟨by simp, .inl ⟨_, _, rfl, run_takeDeferred hK, ?_⟩⟩
      refine ⟨_, results_tmp rfl _ _ _, lx, rfl, h1.ownV (grownBy_putObj' _ D (.deferred none)) (noCells_put hK rfl), grown_ownV h10 (grownBy_putObj' _ D (.deferred none)) (noCells_put hK rfl) (Nat.le_trans hBB hD), h0.congr (fun i j hh => ?_)⟩
      have hh9 := (has_iff _ _ _).1 hh
      rw [HUM.out, HUC.out] at hh9
      exact PL_all (by omega) (by omega)
    case stop => exact fun D W _ h _ => h.elim
    case body =>
      rintro lp k lx a9 W hlp ⟨⟨h0, h1, h2, h3, h3b, h4, h5, h6, h7, h8, h9, h10⟩, X0, X1, X2, X3, X4, X6, X7, X10, X11, X12, X18, X19, X20, X21, X22, X23, X24, X25, X26, X27, X28, X29, X30, X31, X32, X33, X34, X35, X36, X37, X38, X39, X40, X41, X42, X43, X44, X45, X46, X47, X48, X49, X50, X51, X52, X53, X54, X55, X56, X57, X58, X59, X60, X61, X62, X63, X64, X65, X66, X67, X68, X69, X70, X71, X72, X73, X74, X75, X76, X77, X78, X79, X80, X81, X82, X83, X84, X85, rfl⟩ hk
      obtain ⟨i, hi⟩ : ∃ i, (tr k).1 = i := ⟨_, rfl⟩
      obtain ⟨j, hj⟩ : ∃ j, (tr k).2 = j := ⟨_, rfl⟩
      have hn := tr_num k
      have him := tr_lt hk
      rw [hi, hj] at hn
      rw [hi] at him
      rw [hi, hj]
      have hjm : j < m := by omega
      have hh : y.has (i : Int) (j : Int) = true := (has_iff _ _ _).2 (by rw [HUM.out, HUC.out]; omega)
      have hlx : lx.length = n := h0.len.trans HLL.out
      have hQ := Lib.hid (fun a b => PL_next hi hj a b)
      obtain ⟨V, hV⟩ : ∃ V, (y.at_ c lx i j).toNat = V := ⟨_, rfl⟩
      have hAV : Hid (af V = ma Y m i j) := Lib.hid (by rw [← hV]; show fa (y.at_ c lx i j) = _; rw [h0.old i j hh (PL_not hi hj), ← HFU.out]; unfold ma; rw [fl_at HUM.out HUC.out him hjm])
      have bV : V ≤ 18446744073709551615 := by
        rw [← hV]; unfold Vu.at_; rw [hh, if_pos rfl]
        have := h1.wd.at_ (y.ix c i j).toNat
        omega
      have pat := fun W (h : St W B s g cap c lx) => At_any (w := W) h (by rw [hlx]; exact HVK.out) i j
      rw [hV] at pat
      have HW0 := Lib.hid h0
      obtain ⟨R3i, k3i, hp3i⟩ := Rws.pinrow (w := W) (B := lo0) (o := o3) (G := A3) (cG := c3) (q := q) (l := U) him
      have P3i := Lib.hid hp3i
      clear hp3i
      obtain ⟨R4j, k4j, hp4j⟩ := Rws.pinrow (w := W) (B := lo1) (o := o4) (G := A4) (cG := c4) (q := q) (l := X) hjm
      have P4j := Lib.hid hp4j
      clear hp4j
      obtain ⟨R4i, k4i, hp4i⟩ := Rws.pinrow (w := W) (B := lo1) (o := o4) (G := A4) (cG := c4) (q := q) (l := X) him
      have P4i := Lib.hid hp4i
      clear hp4i
      obtain ⟨R3j, k3j, hp3j⟩ := Rws.pinrow (w := W) (B := lo0) (o := o3) (G := A3) (cG := c3) (q := q) (l := U) hjm
      have P3j := Lib.hid hp3j
      clear hp3j
      have i0 : (0 : Int) ≤ i := by omega
      have j0 : (0 : Int) ≤ j := by omega
      have im : (i : Int) < m := by omega
      have jm : (j : Int) < m := by omega
      have bz : Below W.heap.size W W := Below.refl _ W
      clear hi hj hn hV h0
      gi_wp2
      have hbd := (Below.refl W.heap.size W).drew
      replace h1 := h1.on hbd
      replace h2 := h2.on hbd
      replace h3 := h3.on hbd
      replace h3b := h3b.on hbd
      replace h4 := h4.on hbd
      replace h5 := h5.on hbd
      replace h6 := h6.on hbd
      replace h7 := h7.on hbd
      replace h8 := h8.on hbd
      replace h9 := h9.on hbd
      replace bz := bz.trans (hbd.mono bz.size)
      clear hbd
      refine wpIn_region_S (S := fun w9 : World => Vbx w9 (w.heap.size + 4) y ∧ Blk w9 w.heap.size [.float .f64 a] ∧ Blk w9 (w.heap.size + 3) [.float .f64 b] ∧ Blk w9 p2 [.func (.func 85) #[y.V] #[]] ∧ Blk w9 p3 [.slice (some ⟨o3, 0, none⟩) m m] ∧ Blk w9 p4 [.slice (some ⟨o4, 0, none⟩) m m] ∧ Rws w9 lo0 o3 A3 c3 m q U ∧ Rws w9 lo1 o4 A4 c4 m q X) (by kernel_rfl) (by kernel_rfl) ⟨h4, h3, h3b, h5, h6, h7, h8, h9⟩ (fun hS => ?_)
      refine wpAnyS_take (i := 0) (v := ?v0_14) rfl (by kernel_rfl) (by kernel_rfl) (by kernel_rfl) (fun _ _ _ h => h) (Or.inl ⟨by rfl, ?hy0_14⟩) (by assumption) ?rest0_14
      case hy0_14 => (intro w9 hSw; obtain ⟨m0, m1, m2, m3, m4, m5, m6, m7⟩ := hSw; have c0 := Blk.cell m4 0 rfl; go_simp; try with_reducible rfl)
      try simp only [Act.put, List.setIfInBounds_toArray, List.set_cons_zero, List.set_cons_succ, List.getElem_toArray, List.getElem_cons_zero, List.getElem_cons_succ]
      refine wpAnyS_take (i := 1) (v := ?v1_15) rfl (by kernel_rfl) (by kernel_rfl) (by kernel_rfl) (fun _ _ _ h => h) (Or.inl ⟨by rfl, ?hy1_15⟩) (by assumption) ?rest1_15
      case hy1_15 => (intro w9 hSw; clear hSw; go_simp; try with_reducible rfl)
      try simp only [Act.put, List.setIfInBounds_toArray, List.set_cons_zero, List.set_cons_succ, List.getElem_toArray, List.getElem_cons_zero, List.getElem_cons_succ]
      refine wpAnyS_take (i := 2) (v := ?v2_16) rfl (by kernel_rfl) (by kernel_rfl) (by kernel_rfl) (fun _ _ _ h => h) (Or.inl ⟨by rfl, ?hy2_16⟩) (by assumption) ?rest2_16
      case hy2_16 => (intro w9 hSw; clear hSw; go_simp; try with_reducible rfl)
      try simp only [Act.put, List.setIfInBounds_toArray, List.set_cons_zero, List.set_cons_succ, List.getElem_toArray, List.getElem_cons_zero, List.getElem_cons_succ]
      refine wpAnyS_take (i := 3) (v := ?v3_17) rfl (by kernel_rfl) (by kernel_rfl) (by kernel_rfl) (fun _ _ _ h => h) (Or.inl ⟨by rfl, ?hy3_17⟩) (by assumption) ?rest3_17
      case hy3_17 => (intro w9 hSw; obtain ⟨m0, m1, m2, m3, m4, m5, m6, m7⟩ := hSw; have c0 := (P3i.out _ m6).1; go_simp; try with_reducible rfl)
      try simp only [Act.put, List.setIfInBounds_toArray, List.set_cons_zero, List.set_cons_succ, List.getElem_toArray, List.getElem_cons_zero, List.getElem_cons_succ]
      refine wpAnyS_take (i := 4) (v := ?v4_18) rfl (by kernel_rfl) (by kernel_rfl) (by kernel_rfl) (fun _ _ _ h => h) (Or.inl ⟨by rfl, ?hy4_18⟩) (by assumption) ?rest4_18
      case hy4_18 => (intro w9 hSw; obtain ⟨m0, m1, m2, m3, m4, m5, m6, m7⟩ := hSw; have c0 := Blk.cell m5 0 rfl; go_simp; try with_reducible rfl)
      try simp only [Act.put, List.setIfInBounds_toArray, List.set_cons_zero, List.set_cons_succ, List.getElem_toArray, List.getElem_cons_zero, List.getElem_cons_succ]
      refine wpAnyS_take (i := 5) (v := ?v5_19) rfl (by kernel_rfl) (by kernel_rfl) (by kernel_rfl) (fun _ _ _ h => h) (Or.inl ⟨by rfl, ?hy5_19⟩) (by assumption) ?rest5_19
      case hy5_19 => (intro w9 hSw; clear hSw; go_simp; try with_reducible rfl)
      try simp only [Act.put, List.setIfInBounds_toArray, List.set_cons_zero, List.set_cons_succ, List.getElem_toArray, List.getElem_cons_zero, List.getElem_cons_succ]
      refine wpAnyS_take (i := 6) (v := ?v6_20) rfl (by kernel_rfl) (by kernel_rfl) (by kernel_rfl) (fun _ _ _ h => h) (Or.inl ⟨by rfl, ?hy6_20⟩) (by assumption) ?rest6_20
      case hy6_20 => (intro w9 hSw; clear hSw; go_simp; try with_reducible rfl)
      try simp only [Act.put, List.setIfInBounds_toArray, List.set_cons_zero, List.set_cons_succ, List.getElem_toArray, List.getElem_cons_zero, List.getElem_cons_succ]
      refine wpAnyS_take (i := 7) (v := ?v7_21) rfl (by kernel_rfl) (by kernel_rfl) (by kernel_rfl) (fun _ _ _ h => h) (Or.inl ⟨by rfl, ?hy7_21⟩) (by assumption) ?rest7_21
      case hy7_21 => (intro w9 hSw; obtain ⟨m0, m1, m2, m3, m4, m5, m6, m7⟩ := hSw; have c0 := (P4j.out _ m7).1; go_simp; try with_reducible rfl)
      try simp only [Act.put, List.setIfInBounds_toArray, List.set_cons_zero, List.set_cons_succ, List.getElem_toArray, List.getElem_cons_zero, List.getElem_cons_succ]
      refine wpAnyS_take (i := 9) (v := ?v9_22) rfl (by kernel_rfl) (by kernel_rfl) (by kernel_rfl) (fun _ _ _ h => h) (Or.inl ⟨by rfl, ?hy9_22⟩) (by assumption) ?rest9_22
      case hy9_22 => (intro w9 hSw; obtain ⟨m0, m1, m2, m3, m4, m5, m6, m7⟩ := hSw; have c0 := Blk.cell m5 0 rfl; go_simp; try with_reducible rfl)
      try simp only [Act.put, List.setIfInBounds_toArray, List.set_cons_zero, List.set_cons_succ, List.getElem_toArray, List.getElem_cons_zero, List.getElem_cons_succ]
      refine wpAnyS_take (i := 10) (v := ?v10_23) rfl (by kernel_rfl) (by kernel_rfl) (by kernel_rfl) (fun _ _ _ h => h) (Or.inl ⟨by rfl, ?hy10_23⟩) (by assumption) ?rest10_23
      case hy10_23 => (intro w9 hSw; clear hSw; go_simp; try with_reducible rfl)
      try simp only [Act.put, List.setIfInBounds_toArray, List.set_cons_zero, List.set_cons_succ, List.getElem_toArray, List.getElem_cons_zero, List.getElem_cons_succ]
      refine wpAnyS_take (i := 11) (v := ?v11_24) rfl (by kernel_rfl) (by kernel_rfl) (by kernel_rfl) (fun _ _ _ h => h) (Or.inl ⟨by rfl, ?hy11_24⟩) (by assumption) ?rest11_24
      case hy11_24 => (intro w9 hSw; clear hSw; go_simp; try with_reducible rfl)
      try simp only [Act.put, List.setIfInBounds_toArray, List.set_cons_zero, List.set_cons_succ, List.getElem_toArray, List.getElem_cons_zero, List.getElem_cons_succ]
      refine wpAnyS_take (i := 12) (v := ?v12_25) rfl (by kernel_rfl) (by kernel_rfl) (by kernel_rfl) (fun _ _ _ h => h) (Or.inl ⟨by rfl, ?hy12_25⟩) (by assumption) ?rest12_25
      case hy12_25 => (intro w9 hSw; obtain ⟨m0, m1, m2, m3, m4, m5, m6, m7⟩ := hSw; have c0 := (P4i.out _ m7).1; go_simp; try with_reducible rfl)
      try simp only [Act.put, List.setIfInBounds_toArray, List.set_cons_zero, List.set_cons_succ, List.getElem_toArray, List.getElem_cons_zero, List.getElem_cons_succ]
      refine wpAnyS_take (i := 13) (v := ?v13_26) rfl (by kernel_rfl) (by kernel_rfl) (by kernel_rfl) (fun _ _ _ h => h) (Or.inl ⟨by rfl, ?hy13_26⟩) (by assumption) ?rest13_26
      case hy13_26 => (intro w9 hSw; obtain ⟨m0, m1, m2, m3, m4, m5, m6, m7⟩ := hSw; have c0 := Blk.cell m4 0 rfl; go_simp; try with_reducible rfl)
      try simp only [Act.put, List.setIfInBounds_toArray, List.set_cons_zero, List.set_cons_succ, List.getElem_toArray, List.getElem_cons_zero, List.getElem_cons_succ]
      refine wpAnyS_take (i := 14) (v := ?v14_27) rfl (by kernel_rfl) (by kernel_rfl) (by kernel_rfl) (fun _ _ _ h => h) (Or.inl ⟨by rfl, ?hy14_27⟩) (by assumption) ?rest14_27
      case hy14_27 => (intro w9 hSw; clear hSw; go_simp; try with_reducible rfl)
      try simp only [Act.put, List.setIfInBounds_toArray, List.set_cons_zero, List.set_cons_succ, List.getElem_toArray, List.getElem_cons_zero, List.getElem_cons_succ]
      refine wpAnyS_take (i := 15) (v := ?v15_28) rfl (by kernel_rfl) (by kernel_rfl) (by kernel_rfl) (fun _ _ _ h => h) (Or.inl ⟨by rfl, ?hy15_28⟩) (by assumption) ?rest15_28
      case hy15_28 => (intro w9 hSw; clear hSw; go_simp; try with_reducible rfl)
      try simp only [Act.put, List.setIfInBounds_toArray, List.set_cons_zero, List.set_cons_succ, List.getElem_toArray, List.getElem_cons_zero, List.getElem_cons_succ]
      refine wpAnyS_take (i := 16) (v := ?v16_29) rfl (by kernel_rfl) (by kernel_rfl) (by kernel_rfl) (fun _ _ _ h => h) (Or.inl ⟨by rfl, ?hy16_29⟩) (by assumption) ?rest16_29
      case hy16_29 => (intro w9 hSw; obtain ⟨m0, m1, m2, m3, m4, m5, m6, m7⟩ := hSw; have c0 := (P3j.out _ m6).1; go_simp; try with_reducible rfl)
      try simp only [Act.put, List.setIfInBounds_toArray, List.set_cons_zero, List.set_cons_succ, List.getElem_toArray, List.getElem_cons_zero, List.getElem_cons_succ]
      refine wpAnyS_ready (rs := [8]) (by kernel_rfl) (by simp) ?_
      refine AllReadyS.cons rfl (fun K hK => ?_) AllReadyS.nil
      go_simp
      with_reducible refine (dot_any (P3i.out _ h8).2 (P4j.out _ h9).2 (Nat.le_refl _)).mono ?_
      rintro e w9 ⟨rD1, rfl, hD1, bD1, hb⟩
      replace h1 := h1.on hb
      replace h2 := h2.on hb
      replace h3 := h3.on hb
      replace h3b := h3b.on hb
      replace h4 := h4.on hb
      replace h5 := h5.on hb
      replace h6 := h6.on hb
      replace h7 := h7.on hb
      replace h8 := h8.on hb
      replace h9 := h9.on hb
      replace bz := bz.trans (hb.mono bz.size)
      clear hb
      rw [dot_rr] at hD1
      have HD1 := Lib.hid hD1
      clear hD1
      clear hS; refine hK.out _ _ ⟨h4, h3, h3b, h5, h6, h7, h8, h9⟩ (fun hS => ?_); clear hK K
      try simp only [Act.put, List.setIfInBounds_toArray, List.set_cons_zero, List.set_cons_succ, List.getElem_toArray, List.getElem_cons_zero, List.getElem_cons_succ]
      refine wpAnyS_ready (rs := [17]) (by kernel_rfl) (by simp) ?_
      refine AllReadyS.cons rfl (fun K hK => ?_) AllReadyS.nil
      go_simp
      with_reducible refine (dot_any (P4i.out _ h9).2 (P3j.out _ h8).2 (Nat.le_refl _)).mono ?_
      rintro e w10 ⟨rD2, rfl, hD2, bD2, hb⟩
      replace h1 := h1.on hb
      replace h2 := h2.on hb
      replace h3 := h3.on hb
      replace h3b := h3b.on hb
      replace h4 := h4.on hb
      replace h5 := h5.on hb
      replace h6 := h6.on hb
      replace h7 := h7.on hb
      replace h8 := h8.on hb
      replace h9 := h9.on hb
      replace bz := bz.trans (hb.mono bz.size)
      clear hb
      rw [dot_rr] at hD2
      have HD2 := Lib.hid hD2
      clear hD2
      clear hS; refine hK.out _ _ ⟨h4, h3, h3b, h5, h6, h7, h8, h9⟩ (fun hS => ?_); clear hK K
      try simp only [Act.put, List.setIfInBounds_toArray, List.set_cons_zero, List.set_cons_succ, List.getElem_toArray, List.getElem_cons_zero, List.getElem_cons_succ]
      refine wpAnyS_ready (rs := [18]) (by kernel_rfl) (by simp) ?_
      refine AllReadyS.cons rfl (fun K hK => ?_) AllReadyS.nil
      refine step_arith .add (.inl rfl) rfl _ _ _ _ rD1 rD2 rfl rfl rfl bD1 bD2 ?_
      intro rp3 w11 hb hp3 bp3 hdr
      have Hp3 := Lib.hid hp3
      clear hp3 hdr
      replace h1 := h1.on hb
      replace h2 := h2.on hb
      replace h3 := h3.on hb
      replace h3b := h3b.on hb
      replace h4 := h4.on hb
      replace h5 := h5.on hb
      replace h6 := h6.on hb
      replace h7 := h7.on hb
      replace h8 := h8.on hb
      replace h9 := h9.on hb
      replace bz := bz.trans (hb.mono bz.size)
      clear hb
      clear hS; refine hK.out _ _ ⟨h4, h3, h3b, h5, h6, h7, h8, h9⟩ (fun hS => ?_); clear hK K
      try simp only [Act.put, List.setIfInBounds_toArray, List.set_cons_zero, List.set_cons_succ, List.getElem_toArray, List.getElem_cons_zero, List.getElem_cons_succ]
      refine wpAnyS_take (i := 19) (v := ?v19_30) rfl (by kernel_rfl) (by kernel_rfl) (by kernel_rfl) (fun _ _ _ h => h) (Or.inl ⟨by rfl, ?hy19_30⟩) (by assumption) ?rest19_30
      case hy19_30 => (intro w9 hSw; clear hSw; go_simp; try with_reducible rfl)
      try simp only [Act.put, List.setIfInBounds_toArray, List.set_cons_zero, List.set_cons_succ, List.getElem_toArray, List.getElem_cons_zero, List.getElem_cons_succ]
      refine wpAnyS_done (by kernel_rfl) ?_ _
      clear hS
      gi_wp2
      have hbd := (Below.refl w11.heap.size w11).drew
      replace h1 := h1.on hbd
      replace h2 := h2.on hbd
      replace h3 := h3.on hbd
      replace h3b := h3b.on hbd
      replace h4 := h4.on hbd
      replace h5 := h5.on hbd
      replace h6 := h6.on hbd
      replace h7 := h7.on hbd
      replace h8 := h8.on hbd
      replace h9 := h9.on hbd
      replace bz := bz.trans (hbd.mono bz.size)
      clear hbd
      refine wpIn_region_S (S := fun w9 : World => Vbx w9 (w.heap.size + 4) y ∧ Blk w9 w.heap.size [.float .f64 a] ∧ Blk w9 (w.heap.size + 3) [.float .f64 b] ∧ Blk w9 p2 [.func (.func 85) #[y.V] #[]] ∧ Blk w9 p3 [.slice (some ⟨o3, 0, none⟩) m m] ∧ Blk w9 p4 [.slice (some ⟨o4, 0, none⟩) m m] ∧ Rws w9 lo0 o3 A3 c3 m q U ∧ Rws w9 lo1 o4 A4 c4 m q X) (by kernel_rfl) (by kernel_rfl) ⟨h4, h3, h3b, h5, h6, h7, h8, h9⟩ (fun hS => ?_)
      refine wpAnyS_take (i := 0) (v := ?v0_31) rfl (by kernel_rfl) (by kernel_rfl) (by kernel_rfl) (fun _ _ _ h => h) (Or.inl ⟨by rfl, ?hy0_31⟩) (by assumption) ?rest0_31
      case hy0_31 => (intro w9 hSw; obtain ⟨m0, m1, m2, m3, m4, m5, m6, m7⟩ := hSw; have c0 := Blk.cell m3 0 rfl; go_simp; try with_reducible rfl)
      try simp only [Act.put, List.setIfInBounds_toArray, List.set_cons_zero, List.set_cons_succ, List.getElem_toArray, List.getElem_cons_zero, List.getElem_cons_succ]
      refine wpAnyS_take (i := 1) (v := ?v1_32) rfl (by kernel_rfl) (by kernel_rfl) (by kernel_rfl) (fun _ _ _ h => h) (Or.inl ⟨by rfl, ?hy1_32⟩) (by assumption) ?rest1_32
      case hy1_32 => (intro w9 hSw; clear hSw; go_simp; try with_reducible rfl)
      try simp only [Act.put, List.setIfInBounds_toArray, List.set_cons_zero, List.set_cons_succ, List.getElem_toArray, List.getElem_cons_zero, List.getElem_cons_succ]
      refine wpAnyS_take (i := 2) (v := ?v2_33) rfl (by kernel_rfl) (by kernel_rfl) (by kernel_rfl) (fun _ _ _ h => h) (Or.inl ⟨by rfl, ?hy2_33⟩) (by assumption) ?rest2_33
      case hy2_33 => (intro w9 hSw; clear hSw; go_simp; try with_reducible rfl)
      try simp only [Act.put, List.setIfInBounds_toArray, List.set_cons_zero, List.set_cons_succ, List.getElem_toArray, List.getElem_cons_zero, List.getElem_cons_succ]
      refine wpAnyS_take (i := 3) (v := ?v3_34) rfl (by kernel_rfl) (by kernel_rfl) (by kernel_rfl) (fun _ _ _ h => h) (Or.inl ⟨by rfl, ?hy3_34⟩) (by assumption) ?rest3_34
      case hy3_34 => (intro w9 hSw; obtain ⟨m0, m1, m2, m3, m4, m5, m6, m7⟩ := hSw; have c0 := Blk.cell m2 0 rfl; go_simp; try with_reducible rfl)
      try simp only [Act.put, List.setIfInBounds_toArray, List.set_cons_zero, List.set_cons_succ, List.getElem_toArray, List.getElem_cons_zero, List.getElem_cons_succ]
      refine wpAnyS_take (i := 4) (v := ?v4_35) rfl (by kernel_rfl) (by kernel_rfl) (by kernel_rfl) (fun _ _ _ h => h) (Or.inl ⟨by rfl, ?hy4_35⟩) (by assumption) ?rest4_35
      case hy4_35 => (intro w9 hSw; obtain ⟨m0, m1, m2, m3, m4, m5, m6, m7⟩ := hSw; refine (ld_v (by rfl) (by kernel_rfl) m0).trans ?_; with_reducible rfl)
      try simp only [Act.put, List.setIfInBounds_toArray, List.set_cons_zero, List.set_cons_succ, List.getElem_toArray, List.getElem_cons_zero, List.getElem_cons_succ]
      refine wpAnyS_take (i := 5) (v := ?v5_36) rfl (by kernel_rfl) (by kernel_rfl) (by kernel_rfl) (fun _ _ _ h => h) (Or.inl ⟨by rfl, ?hy5_36⟩) (by assumption) ?rest5_36
      case hy5_36 => (intro w9 hSw; clear hSw; go_simp; try with_reducible rfl)
      try simp only [Act.put, List.setIfInBounds_toArray, List.set_cons_zero, List.set_cons_succ, List.getElem_toArray, List.getElem_cons_zero, List.getElem_cons_succ]
      refine wpAnyS_take (i := 6) (v := ?v6_37) rfl (by kernel_rfl) (by kernel_rfl) (by kernel_rfl) (fun _ _ _ h => h) (Or.inl ⟨by rfl, ?hy6_37⟩) (by assumption) ?rest6_37
      case hy6_37 => (intro w9 hSw; clear hSw; go_simp; try with_reducible rfl)
      try simp only [Act.put, List.setIfInBounds_toArray, List.set_cons_zero, List.set_cons_succ, List.getElem_toArray, List.getElem_cons_zero, List.getElem_cons_succ]
      refine wpAnyS_take (i := 9) (v := ?v9_38) rfl (by kernel_rfl) (by kernel_rfl) (by kernel_rfl) (fun _ _ _ h => h) (Or.inl ⟨by rfl, ?hy9_38⟩) (by assumption) ?rest9_38
      case hy9_38 => (intro w9 hSw; obtain ⟨m0, m1, m2, m3, m4, m5, m6, m7⟩ := hSw; have c0 := Blk.cell m1 0 rfl; go_simp; try with_reducible rfl)
      try simp only [Act.put, List.setIfInBounds_toArray, List.set_cons_zero, List.set_cons_succ, List.getElem_toArray, List.getElem_cons_zero, List.getElem_cons_succ]
      refine wpAnyS_take (i := 10) (v := ?v10_39) rfl (by kernel_rfl) (by kernel_rfl) (by kernel_rfl) (fun _ _ _ h => h) (Or.inl ⟨by rfl, ?hy10_39⟩) (by assumption) ?rest10_39
      case hy10_39 => (intro w9 hSw; clear hSw; go_simp; try with_reducible rfl)
      try simp only [Act.put, List.setIfInBounds_toArray, List.set_cons_zero, List.set_cons_succ, List.getElem_toArray, List.getElem_cons_zero, List.getElem_cons_succ]
      refine wpAnyS_ready (rs := [7, 11]) (by kernel_rfl) (by simp) ?_
      refine (AllReadyS.cons rfl (fun K hK => ?_) (AllReadyS.cons rfl (fun K hK => ?_) AllReadyS.nil))
      · go_simp
        with_reducible refine (pat _ h1).mono ?_
        rintro e w12 ⟨rfl, hb⟩
        replace h1 := h1.on hb
        replace h2 := h2.on hb
        replace h3 := h3.on hb
        replace h3b := h3b.on hb
        replace h4 := h4.on hb
        replace h5 := h5.on hb
        replace h6 := h6.on hb
        replace h7 := h7.on hb
        replace h8 := h8.on hb
        replace h9 := h9.on hb
        replace bz := bz.trans (hb.mono bz.size)
        clear hb
        clear hS; refine hK.out _ _ ⟨h4, h3, h3b, h5, h6, h7, h8, h9⟩ (fun hS => ?_); clear hK K
        try simp only [Act.put, List.setIfInBounds_toArray, List.set_cons_zero, List.set_cons_succ, List.getElem_toArray, List.getElem_cons_zero, List.getElem_cons_succ]
        refine wpAnyS_ready (rs := [8, 11]) (by kernel_rfl) (by simp) ?_
        refine (AllReadyS.cons rfl (fun K hK => ?_) (AllReadyS.cons rfl (fun K hK => ?_) AllReadyS.nil))
        · refine step_arith .mul (.inr (.inr (.inl rfl))) rfl _ _ _ _ b V rfl rfl rfl bb bV ?_
          intro rp4 w13 hb hp4 bp4 hdr
          have Hp4 := Lib.hid hp4
          clear hp4 hdr
          replace h1 := h1.on hb
          replace h2 := h2.on hb
          replace h3 := h3.on hb
          replace h3b := h3b.on hb
          replace h4 := h4.on hb
          replace h5 := h5.on hb
          replace h6 := h6.on hb
          replace h7 := h7.on hb
          replace h8 := h8.on hb
          replace h9 := h9.on hb
          replace bz := bz.trans (hb.mono bz.size)
          clear hb
          clear hS; refine hK.out _ _ ⟨h4, h3, h3b, h5, h6, h7, h8, h9⟩ (fun hS => ?_); clear hK K
          try simp only [Act.put, List.setIfInBounds_toArray, List.set_cons_zero, List.set_cons_succ, List.getElem_toArray, List.getElem_cons_zero, List.getElem_cons_succ]
          refine wpAnyS_ready (rs := [11]) (by kernel_rfl) (by simp) ?_
          refine AllReadyS.cons rfl (fun K hK => ?_) AllReadyS.nil
          refine step_arith .mul (.inr (.inr (.inl rfl))) rfl _ _ _ _ a rp3 rfl rfl rfl ba bp3 ?_
          intro rp5 w14 hb hp5 bp5 hdr
          have Hp5 := Lib.hid hp5
          clear hp5 hdr
          replace h1 := h1.on hb
          replace h2 := h2.on hb
          replace h3 := h3.on hb
          replace h3b := h3b.on hb
          replace h4 := h4.on hb
          replace h5 := h5.on hb
          replace h6 := h6.on hb
          replace h7 := h7.on hb
          replace h8 := h8.on hb
          replace h9 := h9.on hb
          replace bz := bz.trans (hb.mono bz.size)
          clear hb
          clear hS; refine hK.out _ _ ⟨h4, h3, h3b, h5, h6, h7, h8, h9⟩ (fun hS => ?_); clear hK K
          try simp only [Act.put, List.setIfInBounds_toArray, List.set_cons_zero, List.set_cons_succ, List.getElem_toArray, List.getElem_cons_zero, List.getElem_cons_succ]
          refine wpAnyS_ready (rs := [12]) (by kernel_rfl) (by simp) ?_
          refine AllReadyS.cons rfl (fun K hK => ?_) AllReadyS.nil
          refine step_arith .add (.inl rfl) rfl _ _ _ _ rp4 rp5 rfl rfl rfl bp4 bp5 ?_
          intro rp6 w15 hb hp6 bp6 hdr
          have Hp6 := Lib.hid hp6
          clear hp6 hdr
          replace h1 := h1.on hb
          replace h2 := h2.on hb
          replace h3 := h3.on hb
          replace h3b := h3b.on hb
          replace h4 := h4.on hb
          replace h5 := h5.on hb
          replace h6 := h6.on hb
          replace h7 := h7.on hb
          replace h8 := h8.on hb
          replace h9 := h9.on hb
          replace bz := bz.trans (hb.mono bz.size)
          clear hb
          clear hS; refine hK.out _ _ ⟨h4, h3, h3b, h5, h6, h7, h8, h9⟩ (fun hS => ?_); clear hK K
          try simp only [Act.put, List.setIfInBounds_toArray, List.set_cons_zero, List.set_cons_succ, List.getElem_toArray, List.getElem_cons_zero, List.getElem_cons_succ]
          refine wpAnyS_ready (rs := [13]) (by kernel_rfl) (by simp) ?_
          refine AllReadyS.cons rfl (fun K hK => ?_) AllReadyS.nil
          go_simp
          have HR : af rp6 = f i j := by rw [Hp6.out, Hp5.out, Hp4.out, Hp3.out, HD1.out, HD2.out, hAV.out]; exact HF.out i j
          have pp := set_wr (w := w15) HW0.out HVK.out HIJ.out HLL.out h1 hh (r := rp6) (Q := PL (k + 1)) HR bp6 (fun a b _ => hQ.out a b)
          with_reducible refine pp.mono ?_
          rintro e w40 ⟨u5, lx2, rfl, hs2, hg2, hW2⟩
          replace h2 := h2.grown hg2 (by simp <;> omega)
          replace h3 := h3.grown hg2 (by simp <;> omega)
          replace h3b := h3b.grown hg2 (by simp <;> omega)
          replace h4 := h4.grown hg2 (by simp <;> omega)
          replace h5 := h5.grown hg2 (by simp <;> omega)
          replace h6 := h6.grown hg2 (by simp <;> omega)
          replace h7 := h7.grown hg2 (by simp <;> omega)
          replace h8 := h8.grown hg2 (fun k e => by injection e with e; omega)
          replace h9 := h9.grown hg2 (fun k e => by injection e with e; omega)
          have hkf := (keepsFrom_below (B := W0.heap.size) bz).trans (KeepsFrom.of_grownBy hg2 (fun j e => by injection e with e; omega))
          have hgr := grown_trans (grown_on h10 bz) hg2
          clear hS; refine hK.out _ _ ⟨h4, h3, h3b, h5, h6, h7, h8, h9⟩ (fun hS => ?_); clear hK K
          try simp only [Act.put, List.setIfInBounds_toArray, List.set_cons_zero, List.set_cons_succ, List.getElem_toArray, List.getElem_cons_zero, List.getElem_cons_succ]
          refine wpAnyS_done (by kernel_rfl) ?_ _
          exact ⟨hkf, lx2, hW2, hs2, h2, h3, h3b, h4, h5, h6, h7, h8, h9, hgr⟩
        refine step_arith .mul (.inr (.inr (.inl rfl))) rfl _ _ _ _ a rp3 rfl rfl rfl ba bp3 ?_
        intro rp5 w13 hb hp5 bp5 hdr
        have Hp5 := Lib.hid hp5
        clear hp5 hdr
        replace h1 := h1.on hb
        replace h2 := h2.on hb
        replace h3 := h3.on hb
        replace h3b := h3b.on hb
        replace h4 := h4.on hb
        replace h5 := h5.on hb
        replace h6 := h6.on hb
        replace h7 := h7.on hb
        replace h8 := h8.on hb
        replace h9 := h9.on hb
        replace bz := bz.trans (hb.mono bz.size)
        clear hb
        clear hS; refine hK.out _ _ ⟨h4, h3, h3b, h5, h6, h7, h8, h9⟩ (fun hS => ?_); clear hK K
        try simp only [Act.put, List.setIfInBounds_toArray, List.set_cons_zero, List.set_cons_succ, List.getElem_toArray, List.getElem_cons_zero, List.getElem_cons_succ]
        refine wpAnyS_ready (rs := [8]) (by kernel_rfl) (by simp) ?_
        refine AllReadyS.cons rfl (fun K hK => ?_) AllReadyS.nil
        refine step_arith .mul (.inr (.inr (.inl rfl))) rfl _ _ _ _ b V rfl rfl rfl bb bV ?_
        intro rp4 w14 hb hp4 bp4 hdr
        have Hp4 := Lib.hid hp4
        clear hp4 hdr
        replace h1 := h1.on hb
        replace h2 := h2.on hb
        replace h3 := h3.on hb
        replace h3b := h3b.on hb
        replace h4 := h4.on hb
        replace h5 := h5.on hb
        replace h6 := h6.on hb
        replace h7 := h7.on hb
        replace h8 := h8.on hb
        replace h9 := h9.on hb
        replace bz := bz.trans (hb.mono bz.size)
        clear hb
        clear hS; refine hK.out _ _ ⟨h4, h3, h3b, h5, h6, h7, h8, h9⟩ (fun hS => ?_); clear hK K
        try simp only [Act.put, List.setIfInBounds_toArray, List.set_cons_zero, List.set_cons_succ, List.getElem_toArray, List.getElem_cons_zero, List.getElem_cons_succ]
        refine wpAnyS_ready (rs := [12]) (by kernel_rfl) (by simp) ?_
        refine AllReadyS.cons rfl (fun K hK => ?_) AllReadyS.nil
        refine step_arith .add (.inl rfl) rfl _ _ _ _ rp4 rp5 rfl rfl rfl bp4 bp5 ?_
        intro rp6 w15 hb hp6 bp6 hdr
        have Hp6 := Lib.hid hp6
        clear hp6 hdr
        replace h1 := h1.on hb
        replace h2 := h2.on hb
        replace h3 := h3.on hb
        replace h3b := h3b.on hb
        replace h4 := h4.on hb
        replace h5 := h5.on hb
        replace h6 := h6.on hb
        replace h7 := h7.on hb
        replace h8 := h8.on hb
        replace h9 := h9.on hb
        replace bz := bz.trans (hb.mono bz.size)
        clear hb
        clear hS; refine hK.out _ _ ⟨h4, h3, h3b, h5, h6, h7, h8, h9⟩ (fun hS => ?_); clear hK K
        try simp only [Act.put, List.setIfInBounds_toArray, List.set_cons_zero, List.set_cons_succ, List.getElem_toArray, List.getElem_cons_zero, List.getElem_cons_succ]
        refine wpAnyS_ready (rs := [13]) (by kernel_rfl) (by simp) ?_
        refine AllReadyS.cons rfl (fun K hK => ?_) AllReadyS.nil
        go_simp
        have HR : af rp6 = f i j := by rw [Hp6.out, Hp5.out, Hp4.out, Hp3.out, HD1.out, HD2.out, hAV.out]; exact HF.out i j
        have pp := set_wr (w := w15) HW0.out HVK.out HIJ.out HLL.out h1 hh (r := rp6) (Q := PL (k + 1)) HR bp6 (fun a b _ => hQ.out a b)
        with_reducible refine pp.mono ?_
        rintro e w40 ⟨u5, lx2, rfl, hs2, hg2, hW2⟩
        replace h2 := h2.grown hg2 (by simp <;> omega)
        replace h3 := h3.grown hg2 (by simp <;> omega)
        replace h3b := h3b.grown hg2 (by simp <;> omega)
        replace h4 := h4.grown hg2 (by simp <;> omega)
        replace h5 := h5.grown hg2 (by simp <;> omega)
        replace h6 := h6.grown hg2 (by simp <;> omega)
        replace h7 := h7.grown hg2 (by simp <;> omega)
        replace h8 := h8.grown hg2 (fun k e => by injection e with e; omega)
        replace h9 := h9.grown hg2 (fun k e => by injection e with e; omega)
        have hkf := (keepsFrom_below (B := W0.heap.size) bz).trans (KeepsFrom.of_grownBy hg2 (fun j e => by injection e with e; omega))
        have hgr := grown_trans (grown_on h10 bz) hg2
        clear hS; refine hK.out _ _ ⟨h4, h3, h3b, h5, h6, h7, h8, h9⟩ (fun hS => ?_); clear hK K
        try simp only [Act.put, List.setIfInBounds_toArray, List.set_cons_zero, List.set_cons_succ, List.getElem_toArray, List.getElem_cons_zero, List.getElem_cons_succ]
        refine wpAnyS_done (by kernel_rfl) ?_ _
        exact ⟨hkf, lx2, hW2, hs2, h2, h3, h3b, h4, h5, h6, h7, h8, h9, hgr⟩
      refine step_arith .mul (.inr (.inr (.inl rfl))) rfl _ _ _ _ a rp3 rfl rfl rfl ba bp3 ?_
      intro rp5 w12 hb hp5 bp5 hdr
      have Hp5 := Lib.hid hp5
      clear hp5 hdr
      replace h1 := h1.on hb
      replace h2 := h2.on hb
      replace h3 := h3.on hb
      replace h3b := h3b.on hb
      replace h4 := h4.on hb
      replace h5 := h5.on hb
      replace h6 := h6.on hb
      replace h7 := h7.on hb
      replace h8 := h8.on hb
      replace h9 := h9.on hb
      replace bz := bz.trans (hb.mono bz.size)
      clear hb
      clear hS; refine hK.out _ _ ⟨h4, h3, h3b, h5, h6, h7, h8, h9⟩ (fun hS => ?_); clear hK K
      try simp only [Act.put, List.setIfInBounds_toArray, List.set_cons_zero, List.set_cons_succ, List.getElem_toArray, List.getElem_cons_zero, List.getElem_cons_succ]
      refine wpAnyS_ready (rs := [7]) (by kernel_rfl) (by simp) ?_
      refine AllReadyS.cons rfl (fun K hK => ?_) AllReadyS.nil
      go_simp
      with_reducible refine (pat _ h1).mono ?_
      rintro e w13 ⟨rfl, hb⟩
      replace h1 := h1.on hb
      replace h2 := h2.on hb
      replace h3 := h3.on hb
      replace h3b := h3b.on hb
      replace h4 := h4.on hb
      replace h5 := h5.on hb
      replace h6 := h6.on hb
      replace h7 := h7.on hb
      replace h8 := h8.on hb
      replace h9 := h9.on hb
      replace bz := bz.trans (hb.mono bz.size)
      clear hb
      clear hS; refine hK.out _ _ ⟨h4, h3, h3b, h5, h6, h7, h8, h9⟩ (fun hS => ?_); clear hK K
      try simp only [Act.put, List.setIfInBounds_toArray, List.set_cons_zero, List.set_cons_succ, List.getElem_toArray, List.getElem_cons_zero, List.getElem_cons_succ]
      refine wpAnyS_ready (rs := [8]) (by kernel_rfl) (by simp) ?_
      refine AllReadyS.cons rfl (fun K hK => ?_) AllReadyS.nil
      refine step_arith .mul (.inr (.inr (.inl rfl))) rfl _ _ _ _ b V rfl rfl rfl bb bV ?_
      intro rp4 w14 hb hp4 bp4 hdr
      have Hp4 := Lib.hid hp4
      clear hp4 hdr
      replace h1 := h1.on hb
      replace h2 := h2.on hb
      replace h3 := h3.on hb
      replace h3b := h3b.on hb
      replace h4 := h4.on hb
      replace h5 := h5.on hb
      replace h6 := h6.on hb
      replace h7 := h7.on hb
      replace h8 := h8.on hb
      replace h9 := h9.on hb
      replace bz := bz.trans (hb.mono bz.size)
      clear hb
      clear hS; refine hK.out _ _ ⟨h4, h3, h3b, h5, h6, h7, h8, h9⟩ (fun hS => ?_); clear hK K
      try simp only [Act.put, List.setIfInBounds_toArray, List.set_cons_zero, List.set_cons_succ, List.getElem_toArray, List.getElem_cons_zero, List.getElem_cons_succ]
      refine wpAnyS_ready (rs := [12]) (by kernel_rfl) (by simp) ?_
      refine AllReadyS.cons rfl (fun K hK => ?_) AllReadyS.nil
      refine step_arith .add (.inl rfl) rfl _ _ _ _ rp4 rp5 rfl rfl rfl bp4 bp5 ?_
      intro rp6 w15 hb hp6 bp6 hdr
      have Hp6 := Lib.hid hp6
      clear hp6 hdr
      replace h1 := h1.on hb
      replace h2 := h2.on hb
      replace h3 := h3.on hb
      replace h3b := h3b.on hb
      replace h4 := h4.on hb
      replace h5 := h5.on hb
      replace h6 := h6.on hb
      replace h7 := h7.on hb
      replace h8 := h8.on hb
      replace h9 := h9.on hb
      replace bz := bz.trans (hb.mono bz.size)
      clear hb
      clear hS; refine hK.out _ _ ⟨h4, h3, h3b, h5, h6, h7, h8, h9⟩ (fun hS => ?_); clear hK K
      try simp only [Act.put, List.setIfInBounds_toArray, List.set_cons_zero, List.set_cons_succ, List.getElem_toArray, List.getElem_cons_zero, List.getElem_cons_succ]
      refine wpAnyS_ready (rs := [13]) (by kernel_rfl) (by simp) ?_
      refine AllReadyS.cons rfl (fun K hK => ?_) AllReadyS.nil
      go_simp
      have HR : af rp6 = f i j := by rw [Hp6.out, Hp5.out, Hp4.out, Hp3.out, HD1.out, HD2.out, hAV.out]; exact HF.out i j
      have pp := set_wr (w := w15) HW0.out HVK.out HIJ.out HLL.out h1 hh (r := rp6) (Q := PL (k + 1)) HR bp6 (fun a b _ => hQ.out a b)
      with_reducible refine pp.mono ?_
      rintro e w40 ⟨u5, lx2, rfl, hs2, hg2, hW2⟩
      replace h2 := h2.grown hg2 (by simp <;> omega)
      replace h3 := h3.grown hg2 (by simp <;> omega)
      replace h3b := h3b.grown hg2 (by simp <;> omega)
      replace h4 := h4.grown hg2 (by simp <;> omega)
      replace h5 := h5.grown hg2 (by simp <;> omega)
      replace h6 := h6.grown hg2 (by simp <;> omega)
      replace h7 := h7.grown hg2 (by simp <;> omega)
      replace h8 := h8.grown hg2 (fun k e => by injection e with e; omega)
      replace h9 := h9.grown hg2 (fun k e => by injection e with e; omega)
      have hkf := (keepsFrom_below (B := W0.heap.size) bz).trans (KeepsFrom.of_grownBy hg2 (fun j e => by injection e with e; omega))
      have hgr := grown_trans (grown_on h10 bz) hg2
      clear hS; refine hK.out _ _ ⟨h4, h3, h3b, h5, h6, h7, h8, h9⟩ (fun hS => ?_); clear hK K
      try simp only [Act.put, List.setIfInBounds_toArray, List.set_cons_zero, List.set_cons_succ, List.getElem_toArray, List.getElem_cons_zero, List.getElem_cons_succ]
      refine wpAnyS_done (by kernel_rfl) ?_ _
      exact ⟨hkf, lx2, hW2, hs2, h2, h3, h3b, h4, h5, h6, h7, h8, h9, hgr⟩
end
end Go.Proofs.Ytfelmkkkaphkpaa
namespace Go.Proofs.Ytfelmkkkaphkpaa
open Go.RowKit Go.Bw Go.Sort Go.Shelf
set_option linter.unusedVariables false
set_option linter.unusedSimpArgs false

section
variable {w : World} {B B2 B3 : Nat} {U X Y : Vu} {s g cap c s2 g2 cap2 c2 s3 g3 cap3 c3 a b : Nat} {l l2 l3 : List Int} {RU CU RX CX RY CY : Int} {LU LX LY : List Int}
theorem syr2k_fit (hU : Ov w B U s g cap c l RU CU LU) (hX : Ov w B2 X s2 g2 cap2 c2 l2 RX CX LX) (hY : Ov w B3 Y s3 g3 cap3 c3 l3 RY CY LY) : (szd U X.R X.C && szd Y U.R U.R) = ((RY == CY) && !(RU != RY) && !(RX != RY) && !(CU != CX)) := by
  unfold szd
  rw [hU.R, hU.C, hX.R, hX.C, hY.R, hY.C, Bool.eq_iff_iff]
  simp only [bne, Bool.not_not, Bool.and_eq_true, beq_iff_eq]
  omega
theorem syr2k_no (hU : Ov w B U s g cap c l RU CU LU) (hX : Ov w B2 X s2 g2 cap2 c2 l2 RX CX LX) (hY : Ov w B3 Y s3 g3 cap3 c3 l3 RY CY LY) (hf : ((RY == CY) && !(RU != RY) && !(RX != RY) && !(CU != CX)) = false) :
    Calls Try.prog 45 #[.float .f64 a, U.V, X.V, .float .f64 b, Y.V] w (Ans w (.int .i64 8)) :=
  Syr2k_no hU.sv hX.sv hY.sv (refE_8 (by rw [syr2k_fit hU hX hY]; exact hf) (mem3 hU.ne hX.ne hY.ne)) (by omega)
theorem syr2k_yes (ba : a ≤ 18446744073709551615) (bb : b ≤ 18446744073709551615) (hU : Ov w B U s g cap c l RU CU LU) (hX : Ov w B2 X s2 g2 cap2 c2 l2 RX CX LX) (hY : Ov w B3 Y s3 g3 cap3 c3 l3 RY CY LY) {m p : Nat} (hm : RY = m) (hq : CY = m) (hp : CU = p) {ny : Nat} (ey : LY.length = ny) (hf : ((RY == CY) && !(RU != RY) && !(RX != RY) && !(CU != CX)) = true) :
    Calls Try.prog 45 #[.float .f64 a, U.V, X.V, .float .f64 b, Y.V] w (OvK w B3 Y s3 g3 cap3 c3 RY CY ny (tg (fun a b => decide (b ≤ a)) (fun i j => bothA (af b) (ma LY m i j) (af a) (aop .add (sumA (fun t => aop .mul (ma LU p i t) (ma LX p j t)) p) (sumA (fun t => aop .mul (ma LX p i t) (ma LU p j t)) p))) LY m)) := by
  refine (Syr2k_yes (m := m) (q := p) ba bb hY.fl hU.sv hX.sv hY.sv (refE_ok (by rw [syr2k_fit hU hX hY]; exact hf) (mem3 hU.ne hX.ne hY.ne)) hY.vk hY.st rfl hY.inj (hY.R.trans hm) (hU.C.trans hp)).mono ?_
  intro e w1 h
  exact ovk hY h hq ey (fun k hk => rfl)
end
set_option maxRecDepth 100000 in
set_option maxHeartbeats 8000000 in
theorem KernelsSyr2k_big1 {w : World} {RU CU : Int} {AU : Option Addr} {nU cU : Nat} {LU : List Int} {RX CX : Int} {AX : Option Addr} {nX cX : Nat} {LX : List Int} {RY CY : Int} {AY : Option Addr} {nY cY : Nat} {LY : List Int} {a b : Nat} {turned : Bool} (ba : a ≤ 18446744073709551615) (bb : b ≤ 18446744073709551615) (hU : FL w AU nU cU LU) (hX : FL w AX nX cX LX) (hY : FL w AY nY cY LY) (bU : bigM RU CU nU = true) : Calls Try.prog 10 #[.float .f64 a, mV RU CU AU nU cU, mV RX CX AX nX cX, .float .f64 b, mV RY CY AY nY cY, .bool turned] w (Ans w (.bool true)) := by
  have pbU := fun W => big_any RU CU AU nU cU hU.max W
  rw [bU] at pbU
  clear bU
  have DU := Blk.new w [.int .i64 RU, .int .i64 CU, .slice AU nU cU] 24
  have DX := Blk.new (w.alloc (.cells #[.int .i64 RU, .int .i64 CU, .slice AU nU cU] 24)) [.int .i64 RX, .int .i64 CX, .slice AX nX cX] 24
  replace DU := DU.alloc (.cells #[.int .i64 RX, .int .i64 CX, .slice AX nX cX] 24)
  simp only [World.size_alloc] at DX
  have DY := Blk.new ((w.alloc (.cells #[.int .i64 RU, .int .i64 CU, .slice AU nU cU] 24)).alloc (.cells #[.int .i64 RX, .int .i64 CX, .slice AX nX cX] 24)) [.int .i64 RY, .int .i64 CY, .slice AY nY cY] 24
  replace DU := DU.alloc (.cells #[.int .i64 RY, .int .i64 CY, .slice AY nY cY] 24)
  replace DX := DX.alloc (.cells #[.int .i64 RY, .int .i64 CY, .slice AY nY cY] 24)
  simp only [World.size_alloc] at DY
  have bz := (((Below.refl _ w).alloc (Nat.le_refl _) (.cells #[.int .i64 RU, .int .i64 CU, .slice AU nU cU] 24)).alloc (by simp <;> omega) (.cells #[.int .i64 RX, .int .i64 CX, .slice AX nX cX] 24)).alloc (by simp <;> omega) (.cells #[.int .i64 RY, .int .i64 CY, .slice AY nY cY] 24)
  have hsz0 : (((w.alloc (.cells #[.int .i64 RU, .int .i64 CU, .slice AU nU cU] 24)).alloc (.cells #[.int .i64 RX, .int .i64 CX, .slice AX nX cX] 24)).alloc (.cells #[.int .i64 RY, .int .i64 CY, .slice AY nY cY] 24)).heap.size = w.heap.size + 3 := by simp
  have hFU := hU.lo.on bz
  clear hU
  have hFX := hX.lo.on bz
  clear hX
  have hFY := hY.lo.on bz
  clear hY
  go_enter Try.func10, Try.ntmps10
  obtain ⟨kU_0, kU_1, kU_2, kU_3, kU_4, kU_5⟩ := Mbx.cells DU
  obtain ⟨kX_0, kX_1, kX_2, kX_3, kX_4, kX_5⟩ := Mbx.cells DX
  obtain ⟨kY_0, kY_1, kY_2, kY_3, kY_4, kY_5⟩ := Mbx.cells DY
  go_wp2_with fail
  with_reducible refine (pbU _).mono ?_
  rintro e w1 ⟨rfl, hb⟩
  clear kU_0 kU_1 kU_2 kU_3 kU_4 kU_5 kX_0 kX_1 kX_2 kX_3 kX_4 kX_5 kY_0 kY_1 kY_2 kY_3 kY_4 kY_5
  replace DU := DU.on hb
  replace DX := DX.on hb
  replace DY := DY.on hb
  replace hFU := hFU.on hb
  replace hFX := hFX.on hb
  replace hFY := hFY.on hb
  replace bz := bz.trans (hb.mono bz.size)
  clear hb
  go_wp2_with fail
  with_reducible refine (known_any _).mono ?_
  rintro e w2 ⟨rfl, hb⟩
  replace DU := DU.on hb
  replace DX := DX.on hb
  replace DY := DY.on hb
  replace hFU := hFU.on hb
  replace hFX := hFX.on hb
  replace hFY := hFY.on hb
  replace bz := bz.trans (hb.mono bz.size)
  clear hb
  go_wp2_with fail
  go_ret
  exact ⟨rfl, bz⟩
set_option maxRecDepth 100000 in
set_option maxHeartbeats 8000000 in
theorem KernelsSyr2k_big2 {w : World} {RU CU : Int} {AU : Option Addr} {nU cU : Nat} {LU : List Int} {RX CX : Int} {AX : Option Addr} {nX cX : Nat} {LX : List Int} {RY CY : Int} {AY : Option Addr} {nY cY : Nat} {LY : List Int} {a b : Nat} {turned : Bool} (ba : a ≤ 18446744073709551615) (bb : b ≤ 18446744073709551615) (hU : FL w AU nU cU LU) (hX : FL w AX nX cX LX) (hY : FL w AY nY cY LY) (bU : bigM RU CU nU = false) (bX : bigM RX CX nX = true) : Calls Try.prog 10 #[.float .f64 a, mV RU CU AU nU cU, mV RX CX AX nX cX, .float .f64 b, mV RY CY AY nY cY, .bool turned] w (Ans w (.bool true)) := by
  have pbU := fun W => big_any RU CU AU nU cU hU.max W
  rw [bU] at pbU
  clear bU
  have pbX := fun W => big_any RX CX AX nX cX hX.max W
  rw [bX] at pbX
  clear bX
  have DU := Blk.new w [.int .i64 RU, .int .i64 CU, .slice AU nU cU] 24
  have DX := Blk.new (w.alloc (.cells #[.int .i64 RU, .int .i64 CU, .slice AU nU cU] 24)) [.int .i64 RX, .int .i64 CX, .slice AX nX cX] 24
  replace DU := DU.alloc (.cells #[.int .i64 RX, .int .i64 CX, .slice AX nX cX] 24)
  simp only [World.size_alloc] at DX
  have DY := Blk.new ((w.alloc (.cells #[.int .i64 RU, .int .i64 CU, .slice AU nU cU] 24)).alloc (.cells #[.int .i64 RX, .int .i64 CX, .slice AX nX cX] 24)) [.int .i64 RY, .int .i64 CY, .slice AY nY cY] 24
  replace DU := DU.alloc (.cells #[.int .i64 RY, .int .i64 CY, .slice AY nY cY] 24)
  replace DX := DX.alloc (.cells #[.int .i64 RY, .int .i64 CY, .slice AY nY cY] 24)
  simp only [World.size_alloc] at DY
  have bz := (((Below.refl _ w).alloc (Nat.le_refl _) (.cells #[.int .i64 RU, .int .i64 CU, .slice AU nU cU] 24)).alloc (by simp <;> omega) (.cells #[.int .i64 RX, .int .i64 CX, .slice AX nX cX] 24)).alloc (by simp <;> omega) (.cells #[.int .i64 RY, .int .i64 CY, .slice AY nY cY] 24)
  have hsz0 : (((w.alloc (.cells #[.int .i64 RU, .int .i64 CU, .slice AU nU cU] 24)).alloc (.cells #[.int .i64 RX, .int .i64 CX, .slice AX nX cX] 24)).alloc (.cells #[.int .i64 RY, .int .i64 CY, .slice AY nY cY] 24)).heap.size = w.heap.size + 3 := by simp
  have hFU := hU.lo.on bz
  clear hU
  have hFX := hX.lo.on bz
  clear hX
  have hFY := hY.lo.on bz
  clear hY
  go_enter Try.func10, Try.ntmps10
  obtain ⟨kU_0, kU_1, kU_2, kU_3, kU_4, kU_5⟩ := Mbx.cells DU
  obtain ⟨kX_0, kX_1, kX_2, kX_3, kX_4, kX_5⟩ := Mbx.cells DX
  obtain ⟨kY_0, kY_1, kY_2, kY_3, kY_4, kY_5⟩ := Mbx.cells DY
  go_wp2_with fail
  with_reducible refine (pbU _).mono ?_
  rintro e w1 ⟨rfl, hb⟩
  clear kU_0 kU_1 kU_2 kU_3 kU_4 kU_5 kX_0 kX_1 kX_2 kX_3 kX_4 kX_5 kY_0 kY_1 kY_2 kY_3 kY_4 kY_5
  replace DU := DU.on hb
  replace DX := DX.on hb
  replace DY := DY.on hb
  replace hFU := hFU.on hb
  replace hFX := hFX.on hb
  replace hFY := hFY.on hb
  replace bz := bz.trans (hb.mono bz.size)
  clear hb
  obtain ⟨kU_0, kU_1, kU_2, kU_3, kU_4, kU_5⟩ := Mbx.cells DU
  obtain ⟨kX_0, kX_1, kX_2, kX_3, kX_4, kX_5⟩ := Mbx.cells DX
  obtain ⟨kY_0, kY_1, kY_2, kY_3, kY_4, kY_5⟩ := Mbx.cells DY
  go_wp2_with fail
  with_reducible refine (pbX _).mono ?_
  rintro e w2 ⟨rfl, hb⟩
  clear kU_0 kU_1 kU_2 kU_3 kU_4 kU_5 kX_0 kX_1 kX_2 kX_3 kX_4 kX_5 kY_0 kY_1 kY_2 kY_3 kY_4 kY_5
  replace DU := DU.on hb
  replace DX := DX.on hb
  replace DY := DY.on hb
  replace hFU := hFU.on hb
  replace hFX := hFX.on hb
  replace hFY := hFY.on hb
  replace bz := bz.trans (hb.mono bz.size)
  clear hb
  go_wp2_with fail
  with_reducible refine (known_any _).mono ?_
  rintro e w3 ⟨rfl, hb⟩
  replace DU := DU.on hb
  replace DX := DX.on hb
  replace DY := DY.on hb
  replace hFU := hFU.on hb
  replace hFX := hFX.on hb
  replace hFY := hFY.on hb
  replace bz := bz.trans (hb.mono bz.size)
  clear hb
  go_wp2_with fail
  go_ret
  exact ⟨rfl, bz⟩
set_option maxRecDepth 100000 in
set_option maxHeartbeats 8000000 in
theorem KernelsSyr2k_big3 {w : World} {RU CU : Int} {AU : Option Addr} {nU cU : Nat} {LU : List Int} {RX CX : Int} {AX : Option Addr} {nX cX : Nat} {LX : List Int} {RY CY : Int} {AY : Option Addr} {nY cY : Nat} {LY : List Int} {a b : Nat} {turned : Bool} (ba : a ≤ 18446744073709551615) (bb : b ≤ 18446744073709551615) (hU : FL w AU nU cU LU) (hX : FL w AX nX cX LX) (hY : FL w AY nY cY LY) (bU : bigM RU CU nU = false) (bX : bigM RX CX nX = false) (bY : bigM RY CY nY = true) : Calls Try.prog 10 #[.float .f64 a, mV RU CU AU nU cU, mV RX CX AX nX cX, .float .f64 b, mV RY CY AY nY cY, .bool turned] w (Ans w (.bool true)) := by
  have pbU := fun W => big_any RU CU AU nU cU hU.max W
  rw [bU] at pbU
  clear bU
  have pbX := fun W => big_any RX CX AX nX cX hX.max W
  rw [bX] at pbX
  clear bX
  have pbY := fun W => big_any RY CY AY nY cY hY.max W
  rw [bY] at pbY
  clear bY
  have DU := Blk.new w [.int .i64 RU, .int .i64 CU, .slice AU nU cU] 24
  have DX := Blk.new (w.alloc (.cells #[.int .i64 RU, .int .i64 CU, .slice AU nU cU] 24)) [.int .i64 RX, .int .i64 CX, .slice AX nX cX] 24
  replace DU := DU.alloc (.cells #[.int .i64 RX, .int .i64 CX, .slice AX nX cX] 24)
  simp only [World.size_alloc] at DX
  have DY := Blk.new ((w.alloc (.cells #[.int .i64 RU, .int .i64 CU, .slice AU nU cU] 24)).alloc (.cells #[.int .i64 RX, .int .i64 CX, .slice AX nX cX] 24)) [.int .i64 RY, .int .i64 CY, .slice AY nY cY] 24
  replace DU := DU.alloc (.cells #[.int .i64 RY, .int .i64 CY, .slice AY nY cY] 24)
  replace DX := DX.alloc (.cells #[.int .i64 RY, .int .i64 CY, .slice AY nY cY] 24)
  simp only [World.size_alloc] at DY
  have bz := (((Below.refl _ w).alloc (Nat.le_refl _) (.cells #[.int .i64 RU, .int .i64 CU, .slice AU nU cU] 24)).alloc (by simp <;> omega) (.cells #[.int .i64 RX, .int .i64 CX, .slice AX nX cX] 24)).alloc (by simp <;> omega) (.cells #[.int .i64 RY, .int .i64 CY, .slice AY nY cY] 24)
  have hsz0 : (((w.alloc (.cells #[.int .i64 RU, .int .i64 CU, .slice AU nU cU] 24)).alloc (.cells #[.int .i64 RX, .int .i64 CX, .slice AX nX cX] 24)).alloc (.cells #[.int .i64 RY, .int .i64 CY, .slice AY nY cY] 24)).heap.size = w.heap.size + 3 := by simp
  have hFU := hU.lo.on bz
  clear hU
  have hFX := hX.lo.on bz
  clear hX
  have hFY := hY.lo.on bz
  clear hY
  go_enter Try.func10, Try.ntmps10
  obtain ⟨kU_0, kU_1, kU_2, kU_3, kU_4, kU_5⟩ := Mbx.cells DU
  obtain ⟨kX_0, kX_1, kX_2, kX_3, kX_4, kX_5⟩ := Mbx.cells DX
  obtain ⟨kY_0, kY_1, kY_2, kY_3, kY_4, kY_5⟩ := Mbx.cells DY
  go_wp2_with fail
  with_reducible refine (pbU _).mono ?_
  rintro e w1 ⟨rfl, hb⟩
  clear kU_0 kU_1 kU_2 kU_3 kU_4 kU_5 kX_0 kX_1 kX_2 kX_3 kX_4 kX_5 kY_0 kY_1 kY_2 kY_3 kY_4 kY_5
  replace DU := DU.on hb
  replace DX := DX.on hb
  replace DY := DY.on hb
  replace hFU := hFU.on hb
  replace hFX := hFX.on hb
  replace hFY := hFY.on hb
  replace bz := bz.trans (hb.mono bz.size)
  clear hb
  obtain ⟨kU_0, kU_1, kU_2, kU_3, kU_4, kU_5⟩ := Mbx.cells DU
  obtain ⟨kX_0, kX_1, kX_2, kX_3, kX_4, kX_5⟩ := Mbx.cells DX
  obtain ⟨kY_0, kY_1, kY_2, kY_3, kY_4, kY_5⟩ := Mbx.cells DY
  go_wp2_with fail
  with_reducible refine (pbX _).mono ?_
  rintro e w2 ⟨rfl, hb⟩
  clear kU_0 kU_1 kU_2 kU_3 kU_4 kU_5 kX_0 kX_1 kX_2 kX_3 kX_4 kX_5 kY_0 kY_1 kY_2 kY_3 kY_4 kY_5
  replace DU := DU.on hb
  replace DX := DX.on hb
  replace DY := DY.on hb
  replace hFU := hFU.on hb
  replace hFX := hFX.on hb
  replace hFY := hFY.on hb
  replace bz := bz.trans (hb.mono bz.size)
  clear hb
  obtain ⟨kU_0, kU_1, kU_2, kU_3, kU_4, kU_5⟩ := Mbx.cells DU
  obtain ⟨kX_0, kX_1, kX_2, kX_3, kX_4, kX_5⟩ := Mbx.cells DX
  obtain ⟨kY_0, kY_1, kY_2, kY_3, kY_4, kY_5⟩ := Mbx.cells DY
  go_wp2_with fail
  with_reducible refine (pbY _).mono ?_
  rintro e w3 ⟨rfl, hb⟩
  clear kU_0 kU_1 kU_2 kU_3 kU_4 kU_5 kX_0 kX_1 kX_2 kX_3 kX_4 kX_5 kY_0 kY_1 kY_2 kY_3 kY_4 kY_5
  replace DU := DU.on hb
  replace DX := DX.on hb
  replace DY := DY.on hb
  replace hFU := hFU.on hb
  replace hFX := hFX.on hb
  replace hFY := hFY.on hb
  replace bz := bz.trans (hb.mono bz.size)
  clear hb
  go_wp2_with fail
  with_reducible refine (known_any _).mono ?_
  rintro e w4 ⟨rfl, hb⟩
  replace DU := DU.on hb
  replace DX := DX.on hb
  replace DY := DY.on hb
  replace hFU := hFU.on hb
  replace hFX := hFX.on hb
  replace hFY := hFY.on hb
  replace bz := bz.trans (hb.mono bz.size)
  clear hb
  go_wp2_with fail
  go_ret
  exact ⟨rfl, bz⟩
set_option maxRecDepth 100000 in
set_option maxHeartbeats 8000000 in
theorem KernelsSyr2k_no {w : World} {RU CU : Int} {AU : Option Addr} {nU cU : Nat} {LU : List Int} {RX CX : Int} {AX : Option Addr} {nX cX : Nat} {LX : List Int} {RY CY : Int} {AY : Option Addr} {nY cY : Nat} {LY : List Int} {a b : Nat} {turned : Bool} (ba : a ≤ 18446744073709551615) (bb : b ≤ 18446744073709551615) (hU : FL w AU nU cU LU) (hX : FL w AX nX cX LX) (hY : FL w AY nY cY LY) (bU : bigM RU CU nU = false) (bX : bigM RX CX nX = false) (bY : bigM RY CY nY = false) (hf : ((RY == CY) && !(RU != RY) && !(RX != RY) && !(CU != CX)) = false) : Calls Try.prog 10 #[.float .f64 a, mV RU CU AU nU cU, mV RX CX AX nX cX, .float .f64 b, mV RY CY AY nY cY, .bool turned] w (Ans w (.bool true)) := by
  have pbU := fun W => big_any RU CU AU nU cU hU.max W
  rw [bU] at pbU
  obtain ⟨zU, eU, uU⟩ := big_is bU
  have HSU := Lib.hid (And.intro zU eU)
  clear bU zU eU
  have pbX := fun W => big_any RX CX AX nX cX hX.max W
  rw [bX] at pbX
  obtain ⟨zX, eX, uX⟩ := big_is bX
  have HSX := Lib.hid (And.intro zX eX)
  clear bX zX eX
  have pbY := fun W => big_any RY CY AY nY cY hY.max W
  rw [bY] at pbY
  obtain ⟨zY, eY, uY⟩ := big_is bY
  have HSY := Lib.hid (And.intro zY eY)
  clear bY zY eY
  have EU := Lib.hid hU.1
  have mxU := hU.max
  have EX := Lib.hid hX.1
  have mxX := hX.max
  have EY := Lib.hid hY.1
  have mxY := hY.max
  have HFT := Lib.hid hf
  clear hf
  have DU := Blk.new w [.int .i64 RU, .int .i64 CU, .slice AU nU cU] 24
  have DX := Blk.new (w.alloc (.cells #[.int .i64 RU, .int .i64 CU, .slice AU nU cU] 24)) [.int .i64 RX, .int .i64 CX, .slice AX nX cX] 24
  replace DU := DU.alloc (.cells #[.int .i64 RX, .int .i64 CX, .slice AX nX cX] 24)
  simp only [World.size_alloc] at DX
  have DY := Blk.new ((w.alloc (.cells #[.int .i64 RU, .int .i64 CU, .slice AU nU cU] 24)).alloc (.cells #[.int .i64 RX, .int .i64 CX, .slice AX nX cX] 24)) [.int .i64 RY, .int .i64 CY, .slice AY nY cY] 24
  replace DU := DU.alloc (.cells #[.int .i64 RY, .int .i64 CY, .slice AY nY cY] 24)
  replace DX := DX.alloc (.cells #[.int .i64 RY, .int .i64 CY, .slice AY nY cY] 24)
  simp only [World.size_alloc] at DY
  have bz := (((Below.refl _ w).alloc (Nat.le_refl _) (.cells #[.int .i64 RU, .int .i64 CU, .slice AU nU cU] 24)).alloc (by simp <;> omega) (.cells #[.int .i64 RX, .int .i64 CX, .slice AX nX cX] 24)).alloc (by simp <;> omega) (.cells #[.int .i64 RY, .int .i64 CY, .slice AY nY cY] 24)
  have hsz0 : (((w.alloc (.cells #[.int .i64 RU, .int .i64 CU, .slice AU nU cU] 24)).alloc (.cells #[.int .i64 RX, .int .i64 CX, .slice AX nX cX] 24)).alloc (.cells #[.int .i64 RY, .int .i64 CY, .slice AY nY cY] 24)).heap.size = w.heap.size + 3 := by simp
  have hFU := hU.lo.on bz
  clear hU
  have hFX := hX.lo.on bz
  clear hX
  have hFY := hY.lo.on bz
  clear hY
  go_enter Try.func10, Try.ntmps10
  obtain ⟨kU_0, kU_1, kU_2, kU_3, kU_4, kU_5⟩ := Mbx.cells DU
  obtain ⟨kX_0, kX_1, kX_2, kX_3, kX_4, kX_5⟩ := Mbx.cells DX
  obtain ⟨kY_0, kY_1, kY_2, kY_3, kY_4, kY_5⟩ := Mbx.cells DY
  go_wp2_with fail
  with_reducible refine (pbU _).mono ?_
  rintro e w1 ⟨rfl, hb⟩
  clear kU_0 kU_1 kU_2 kU_3 kU_4 kU_5 kX_0 kX_1 kX_2 kX_3 kX_4 kX_5 kY_0 kY_1 kY_2 kY_3 kY_4 kY_5
  replace DU := DU.on hb
  replace DX := DX.on hb
  replace DY := DY.on hb
  replace hFU := hFU.on hb
  replace hFX := hFX.on hb
  replace hFY := hFY.on hb
  replace bz := bz.trans (hb.mono bz.size)
  clear hb
  obtain ⟨kU_0, kU_1, kU_2, kU_3, kU_4, kU_5⟩ := Mbx.cells DU
  obtain ⟨kX_0, kX_1, kX_2, kX_3, kX_4, kX_5⟩ := Mbx.cells DX
  obtain ⟨kY_0, kY_1, kY_2, kY_3, kY_4, kY_5⟩ := Mbx.cells DY
  go_wp2_with fail
  with_reducible refine (pbX _).mono ?_
  rintro e w2 ⟨rfl, hb⟩
  clear kU_0 kU_1 kU_2 kU_3 kU_4 kU_5 kX_0 kX_1 kX_2 kX_3 kX_4 kX_5 kY_0 kY_1 kY_2 kY_3 kY_4 kY_5
  replace DU := DU.on hb
  replace DX := DX.on hb
  replace DY := DY.on hb
  replace hFU := hFU.on hb
  replace hFX := hFX.on hb
  replace hFY := hFY.on hb
  replace bz := bz.trans (hb.mono bz.size)
  clear hb
  obtain ⟨kU_0, kU_1, kU_2, kU_3, kU_4, kU_5⟩ := Mbx.cells DU
  obtain ⟨kX_0, kX_1, kX_2, kX_3, kX_4, kX_5⟩ := Mbx.cells DX
  obtain ⟨kY_0, kY_1, kY_2, kY_3, kY_4, kY_5⟩ := Mbx.cells DY
  go_wp2_with fail
  with_reducible refine (pbY _).mono ?_
  rintro e w3 ⟨rfl, hb⟩
  clear kU_0 kU_1 kU_2 kU_3 kU_4 kU_5 kX_0 kX_1 kX_2 kX_3 kX_4 kX_5 kY_0 kY_1 kY_2 kY_3 kY_4 kY_5
  replace DU := DU.on hb
  replace DX := DX.on hb
  replace DY := DY.on hb
  replace hFU := hFU.on hb
  replace hFX := hFX.on hb
  replace hFY := hFY.on hb
  replace bz := bz.trans (hb.mono bz.size)
  clear hb
  obtain ⟨kU_0, kU_1, kU_2, kU_3, kU_4, kU_5⟩ := Mbx.cells DU
  obtain ⟨kX_0, kX_1, kX_2, kX_3, kX_4, kX_5⟩ := Mbx.cells DX
  obtain ⟨kY_0, kY_1, kY_2, kY_3, kY_4, kY_5⟩ := Mbx.cells DY
  have hszw : w.heap.size + 3 ≤ w3.heap.size := by have := DY.lt; omega
  go_wp2_with fail
  with_reducible refine (of_any false hFY.fl HSY.out.1 HSY.out.2).mono ?_
  rintro e w4 ⟨VY, sVY, gVY, capVY, cVY, lVY, rfl, hVY, hb⟩
  clear kU_0 kU_1 kU_2 kU_3 kU_4 kU_5 kX_0 kX_1 kX_2 kX_3 kX_4 kX_5 kY_0 kY_1 kY_2 kY_3 kY_4 kY_5
  replace DU := DU.on hb
  replace DX := DX.on hb
  replace DY := DY.on hb
  replace hFU := hFU.on hb
  replace hFX := hFX.on hb
  replace hFY := hFY.on hb
  replace bz := bz.trans (hb.mono bz.size)
  clear hb
  have hgy : w.heap.size + 3 ≤ gVY ∧ w.heap.size + 3 ≤ sVY := by have h1 := hVY.st.lo; have h2 := hVY.st.gt.1; omega
  have hlt := And.intro hVY.st.lt hVY.st.gt.2
  have DVY := Blk.new w4 (VY).L 30
  obtain ⟨HDVY, eHDVY⟩ : ∃ H, w4.heap.size = H := ⟨_, rfl⟩
  rw [eHDVY] at DVY
  have hbA := (Below.refl _ w4).alloc (Nat.le_refl _) (.cells (VY).L.toArray 30)
  replace DU := DU.on hbA
  replace DX := DX.on hbA
  replace DY := DY.on hbA
  replace hFU := hFU.on hbA
  replace hFX := hFX.on hbA
  replace hFY := hFY.on hbA
  replace hVY := hVY.on hbA
  clear hbA
  replace bz := bz.alloc bz.size (.cells (VY).L.toArray 30)
  have HHDVY := Lib.hid eHDVY
  rw [eHDVY] at hlt
  clear hszw
  go_wp2_with fail
  replace DU := DU.drew
  replace DX := DX.drew
  replace DY := DY.drew
  replace hFU := hFU.drew
  replace hFX := hFX.drew
  replace hFY := hFY.drew
  replace hVY := hVY.drew
  replace DVY := DVY.drew
  replace bz := bz.drew
  refine wp_region_held_drew (S := fun w9 : World => Mbx w9 w.heap.size RU CU AU nU cU ∧ Mbx w9 (w.heap.size + 1) RX CX AX nX cX ∧ Mbx w9 (w.heap.size + 2) RY CY AY nY cY ∧ Vbx w9 HDVY VY) (by kernel_rfl) ⟨DU, DX, DY, DVY⟩ (fun hS => ?_)
  generalize (w4.alloc (.cells (VY).L.toArray 30)).drew = wd4 at hS DU DX DY hFU hFX hFY hVY DVY  bz ⊢
  refine wpAnyH_take (i := 0) (v := ?v0_1) rfl (by kernel_rfl) (by kernel_rfl) (by kernel_rfl) (fun _ _ _ h => h) (Or.inl ⟨by rfl, ?hy0_1⟩) (by assumption) ?rest0_1
  case hy0_1 => (intro w9 hSw; clear hSw; go_simp; try with_reducible rfl)
  try simp only [Act.put, List.setIfInBounds_toArray, List.set_cons_zero, List.set_cons_succ, List.getElem_toArray, List.getElem_cons_zero, List.getElem_cons_succ]
  refine wpAnyH_take (i := 1) (v := ?v1_2) rfl (by kernel_rfl) (by kernel_rfl) (by kernel_rfl) (fun _ _ _ h => h) (Or.inl ⟨by rfl, ?hy1_2⟩) (by assumption) ?rest1_2
  case hy1_2 => (intro w9 hSw; obtain ⟨m0, m1, m2, m3⟩ := hSw; obtain ⟨q0_0, q0_1, q0_2, q0_3, q0_4, q0_5⟩ := Mbx.cells m0; obtain ⟨q1_0, q1_1, q1_2, q1_3, q1_4, q1_5⟩ := Mbx.cells m1; obtain ⟨q2_0, q2_1, q2_2, q2_3, q2_4, q2_5⟩ := Mbx.cells m2; go_simp; try with_reducible rfl)
  try simp only [Act.put, List.setIfInBounds_toArray, List.set_cons_zero, List.set_cons_succ, List.getElem_toArray, List.getElem_cons_zero, List.getElem_cons_succ]
  refine wpAnyH_take (i := 2) (v := ?v2_3) rfl (by kernel_rfl) (by kernel_rfl) (by kernel_rfl) (fun _ _ _ h => h) (Or.inl ⟨by rfl, ?hy2_3⟩) (by assumption) ?rest2_3
  case hy2_3 => (intro w9 hSw; clear hSw; go_simp; try with_reducible rfl)
  try simp only [Act.put, List.setIfInBounds_toArray, List.set_cons_zero, List.set_cons_succ, List.getElem_toArray, List.getElem_cons_zero, List.getElem_cons_succ]
  refine wpAnyH_take (i := 4) (v := ?v4_4) rfl (by kernel_rfl) (by kernel_rfl) (by kernel_rfl) (fun _ _ _ h => h) (Or.inl ⟨by rfl, ?hy4_4⟩) (by assumption) ?rest4_4
  case hy4_4 => (intro w9 hSw; obtain ⟨m0, m1, m2, m3⟩ := hSw; obtain ⟨q0_0, q0_1, q0_2, q0_3, q0_4, q0_5⟩ := Mbx.cells m0; obtain ⟨q1_0, q1_1, q1_2, q1_3, q1_4, q1_5⟩ := Mbx.cells m1; obtain ⟨q2_0, q2_1, q2_2, q2_3, q2_4, q2_5⟩ := Mbx.cells m2; go_simp; try with_reducible rfl)
  try simp only [Act.put, List.setIfInBounds_toArray, List.set_cons_zero, List.set_cons_succ, List.getElem_toArray, List.getElem_cons_zero, List.getElem_cons_succ]
  refine wpAnyH_take (i := 6) (v := ?v6_5) rfl (by kernel_rfl) (by kernel_rfl) (by kernel_rfl) (fun _ _ _ h => h) (Or.inl ⟨by rfl, ?hy6_5⟩) (by assumption) ?rest6_5
  case hy6_5 => (intro w9 hSw; clear hSw; go_simp; try with_reducible rfl)
  try simp only [Act.put, List.setIfInBounds_toArray, List.set_cons_zero, List.set_cons_succ, List.getElem_toArray, List.getElem_cons_zero, List.getElem_cons_succ]
  refine wpAnyH_take (i := 7) (v := ?v7_6) rfl (by kernel_rfl) (by kernel_rfl) (by kernel_rfl) (fun _ _ _ h => h) (Or.inl ⟨by rfl, ?hy7_6⟩) (by assumption) ?rest7_6
  case hy7_6 => (intro w9 hSw; obtain ⟨m0, m1, m2, m3⟩ := hSw; refine (ld_v (by rfl) (by kernel_rfl) m3).trans ?_; with_reducible rfl)
  try simp only [Act.put, List.setIfInBounds_toArray, List.set_cons_zero, List.set_cons_succ, List.getElem_toArray, List.getElem_cons_zero, List.getElem_cons_succ]
  refine wpAnyH_ready (rs := [3]) (by kernel_rfl) (by simp) ?_
  refine AllReadyH.cons rfl (fun K hK => ?_) AllReadyH.nil
  go_simp
  with_reducible refine (of_any turned hFU.fl HSU.out.1 HSU.out.2).mono ?_
  rintro e w5 ⟨VU, sVU, gVU, capVU, cVU, lVU, rfl, hVU, hb⟩
  replace DU := DU.on hb
  replace DX := DX.on hb
  replace DY := DY.on hb
  replace hFU := hFU.on hb
  replace hFX := hFX.on hb
  replace hFY := hFY.on hb
  replace hVY := hVY.on hb
  replace DVY := DVY.on hb
  replace bz := bz.trans (hb.mono bz.size)
  clear hb
  clear hS; refine hK.out _ _ ⟨DU, DX, DY, DVY⟩ (fun hS => ?_); clear hK K
  try simp only [Act.put, List.setIfInBounds_toArray, List.set_cons_zero, List.set_cons_succ, List.getElem_toArray, List.getElem_cons_zero, List.getElem_cons_succ]
  refine wpAnyH_ready (rs := [5]) (by kernel_rfl) (by simp) ?_
  refine AllReadyH.cons rfl (fun K hK => ?_) AllReadyH.nil
  go_simp
  with_reducible refine (of_any false hFX.fl HSX.out.1 HSX.out.2).mono ?_
  rintro e w6 ⟨VX, sVX, gVX, capVX, cVX, lVX, rfl, hVX, hb⟩
  replace DU := DU.on hb
  replace DX := DX.on hb
  replace DY := DY.on hb
  replace hFU := hFU.on hb
  replace hFX := hFX.on hb
  replace hFY := hFY.on hb
  replace hVY := hVY.on hb
  replace DVY := DVY.on hb
  replace hVU := hVU.on hb
  replace bz := bz.trans (hb.mono bz.size)
  clear hb
  clear hS; refine hK.out _ _ ⟨DU, DX, DY, DVY⟩ (fun hS => ?_); clear hK K
  try simp only [Act.put, List.setIfInBounds_toArray, List.set_cons_zero, List.set_cons_succ, List.getElem_toArray, List.getElem_cons_zero, List.getElem_cons_succ]
  refine wpAnyH_ready (rs := [8]) (by kernel_rfl) (by simp) ?_
  refine AllReadyH.cons rfl (fun K hK => ?_) AllReadyH.nil
  go_simp
  with_reducible refine (syr2k_no hVU hVX hVY HFT.out).mono ?_
  rintro e w7 ⟨rfl, hb⟩
  replace DU := DU.on hb
  replace DX := DX.on hb
  replace DY := DY.on hb
  replace hFU := hFU.on hb
  replace hFX := hFX.on hb
  replace hFY := hFY.on hb
  replace hVY := hVY.on hb
  replace DVY := DVY.on hb
  replace hVU := hVU.on hb
  replace hVX := hVX.on hb
  replace bz := bz.trans (hb.mono bz.size)
  clear hb
  clear hVU hVX
  clear hS; refine hK.out _ _ ⟨DU, DX, DY, DVY⟩ (fun hS => ?_); clear hK K
  try simp only [Act.put, List.setIfInBounds_toArray, List.set_cons_zero, List.set_cons_succ, List.getElem_toArray, List.getElem_cons_zero, List.getElem_cons_succ]
  refine wpAnyH_take (i := 9) (v := ?v9_7) rfl (by kernel_rfl) (by kernel_rfl) (by kernel_rfl) (fun _ _ _ h => h) (Or.inl ⟨by rfl, ?hy9_7⟩) (by assumption) ?rest9_7
  case hy9_7 => (intro w9 hSw; clear hSw; go_simp; try with_reducible rfl)
  try simp only [Act.put, List.setIfInBounds_toArray, List.set_cons_zero, List.set_cons_succ, List.getElem_toArray, List.getElem_cons_zero, List.getElem_cons_succ]
  refine wpAnyH_done (by kernel_rfl) ?_ _
  have HFv := HFT.out
  cases f0 : (RY == CY)
  · skip
    have p9 := rSquare_any RY CY AY nY cY
    rw [f0] at p9
    obtain ⟨kU_0, kU_1, kU_2, kU_3, kU_4, kU_5⟩ := Mbx.cells DU
    obtain ⟨kX_0, kX_1, kX_2, kX_3, kX_4, kX_5⟩ := Mbx.cells DX
    obtain ⟨kY_0, kY_1, kY_2, kY_3, kY_4, kY_5⟩ := Mbx.cells DY
    go_wp2_with fail
    with_reducible refine (p9 _).mono ?_
    rintro e w8 ⟨rfl, hb⟩
    clear kU_0 kU_1 kU_2 kU_3 kU_4 kU_5 kX_0 kX_1 kX_2 kX_3 kX_4 kX_5 kY_0 kY_1 kY_2 kY_3 kY_4 kY_5
    replace DU := DU.on hb
    replace DX := DX.on hb
    replace DY := DY.on hb
    replace hFU := hFU.on hb
    replace hFX := hFX.on hb
    replace hFY := hFY.on hb
    replace hVY := hVY.on hb
    replace DVY := DVY.on hb
    replace bz := bz.trans (hb.mono bz.size)
    clear hb p9
    obtain ⟨kU_0, kU_1, kU_2, kU_3, kU_4, kU_5⟩ := Mbx.cells DU
    obtain ⟨kX_0, kX_1, kX_2, kX_3, kX_4, kX_5⟩ := Mbx.cells DX
    obtain ⟨kY_0, kY_1, kY_2, kY_3, kY_4, kY_5⟩ := Mbx.cells DY
    go_wp2_with fail
    with_reducible refine (num_any _ _).mono ?_
    rintro e v9 ⟨rfl, rfl⟩
    clear kU_0 kU_1 kU_2 kU_3 kU_4 kU_5 kX_0 kX_1 kX_2 kX_3 kX_4 kX_5 kY_0 kY_1 kY_2 kY_3 kY_4 kY_5
    obtain ⟨kU_0, kU_1, kU_2, kU_3, kU_4, kU_5⟩ := Mbx.cells DU
    obtain ⟨kX_0, kX_1, kX_2, kX_3, kX_4, kX_5⟩ := Mbx.cells DX
    obtain ⟨kY_0, kY_1, kY_2, kY_3, kY_4, kY_5⟩ := Mbx.cells DY
    obtain ⟨cDVY_0, cDVY_1, cDVY_2, cDVY_3, cDVY_4, cDVY_5, cDVY_6, cDVY_7, cDVY_8⟩ := Vbx.cells DVY
    go_wp2_with fail
    with_reducible refine (shows_true hVY.sv hFY.fl hVY.R hVY.C (sameL_refl LY)).mono ?_
    rintro e w10 ⟨rfl, hb⟩
    clear kU_0 kU_1 kU_2 kU_3 kU_4 kU_5 kX_0 kX_1 kX_2 kX_3 kX_4 kX_5 kY_0 kY_1 kY_2 kY_3 kY_4 kY_5 cDVY_0 cDVY_1 cDVY_2 cDVY_3 cDVY_4 cDVY_5 cDVY_6 cDVY_7 cDVY_8
    replace DU := DU.on hb
    replace DX := DX.on hb
    replace DY := DY.on hb
    replace hFU := hFU.on hb
    replace hFX := hFX.on hb
    replace hFY := hFY.on hb
    replace hVY := hVY.on hb
    replace DVY := DVY.on hb
    replace bz := bz.trans (hb.mono bz.size)
    clear hb
    go_wp2_with fail
    with_reducible refine (known_any _).mono ?_
    rintro e w11 ⟨rfl, hb⟩
    replace DU := DU.on hb
    replace DX := DX.on hb
    replace DY := DY.on hb
    replace hFU := hFU.on hb
    replace hFX := hFX.on hb
    replace hFY := hFY.on hb
    replace hVY := hVY.on hb
    replace DVY := DVY.on hb
    replace bz := bz.trans (hb.mono bz.size)
    clear hb
    go_wp2_with fail
    go_ret
    exact ⟨rfl, bz⟩
  · cases f1 : (RU != RY)
    · cases f2 : (RX != RY)
      · cases f3 : (CU != CX)
        · exfalso; rw [f0, f1, f2, f3] at HFv; cases HFv
        · skip
          have p9 := rSquare_any RY CY AY nY cY
          rw [f0] at p9
          obtain ⟨kU_0, kU_1, kU_2, kU_3, kU_4, kU_5⟩ := Mbx.cells DU
          obtain ⟨kX_0, kX_1, kX_2, kX_3, kX_4, kX_5⟩ := Mbx.cells DX
          obtain ⟨kY_0, kY_1, kY_2, kY_3, kY_4, kY_5⟩ := Mbx.cells DY
          go_wp2_with fail
          with_reducible refine (p9 _).mono ?_
          rintro e w8 ⟨rfl, hb⟩
          clear kU_0 kU_1 kU_2 kU_3 kU_4 kU_5 kX_0 kX_1 kX_2 kX_3 kX_4 kX_5 kY_0 kY_1 kY_2 kY_3 kY_4 kY_5
          replace DU := DU.on hb
          replace DX := DX.on hb
          replace DY := DY.on hb
          replace hFU := hFU.on hb
          replace hFX := hFX.on hb
          replace hFY := hFY.on hb
          replace hVY := hVY.on hb
          replace DVY := DVY.on hb
          replace bz := bz.trans (hb.mono bz.size)
          clear hb p9
          obtain ⟨kU_0, kU_1, kU_2, kU_3, kU_4, kU_5⟩ := Mbx.cells DU
          obtain ⟨kX_0, kX_1, kX_2, kX_3, kX_4, kX_5⟩ := Mbx.cells DX
          obtain ⟨kY_0, kY_1, kY_2, kY_3, kY_4, kY_5⟩ := Mbx.cells DY
          go_wp2_with fail
          with_reducible refine (num_any _ _).mono ?_
          rintro e v9 ⟨rfl, rfl⟩
          clear kU_0 kU_1 kU_2 kU_3 kU_4 kU_5 kX_0 kX_1 kX_2 kX_3 kX_4 kX_5 kY_0 kY_1 kY_2 kY_3 kY_4 kY_5
          obtain ⟨kU_0, kU_1, kU_2, kU_3, kU_4, kU_5⟩ := Mbx.cells DU
          obtain ⟨kX_0, kX_1, kX_2, kX_3, kX_4, kX_5⟩ := Mbx.cells DX
          obtain ⟨kY_0, kY_1, kY_2, kY_3, kY_4, kY_5⟩ := Mbx.cells DY
          obtain ⟨cDVY_0, cDVY_1, cDVY_2, cDVY_3, cDVY_4, cDVY_5, cDVY_6, cDVY_7, cDVY_8⟩ := Vbx.cells DVY
          go_wp2_with fail
          with_reducible refine (shows_true hVY.sv hFY.fl hVY.R hVY.C (sameL_refl LY)).mono ?_
          rintro e w10 ⟨rfl, hb⟩
          clear kU_0 kU_1 kU_2 kU_3 kU_4 kU_5 kX_0 kX_1 kX_2 kX_3 kX_4 kX_5 kY_0 kY_1 kY_2 kY_3 kY_4 kY_5 cDVY_0 cDVY_1 cDVY_2 cDVY_3 cDVY_4 cDVY_5 cDVY_6 cDVY_7 cDVY_8
          replace DU := DU.on hb
          replace DX := DX.on hb
          replace DY := DY.on hb
          replace hFU := hFU.on hb
          replace hFX := hFX.on hb
          replace hFY := hFY.on hb
          replace hVY := hVY.on hb
          replace DVY := DVY.on hb
          replace bz := bz.trans (hb.mono bz.size)
          clear hb
          go_wp2_with fail
          with_reducible refine (known_any _).mono ?_
          rintro e w11 ⟨rfl, hb⟩
          replace DU := DU.on hb
          replace DX := DX.on hb
          replace DY := DY.on hb
          replace hFU := hFU.on hb
          replace hFX := hFX.on hb
          replace hFY := hFY.on hb
          replace hVY := hVY.on hb
          replace DVY := DVY.on hb
          replace bz := bz.trans (hb.mono bz.size)
          clear hb
          go_wp2_with fail
          go_ret
          exact ⟨rfl, bz⟩
      · skip
        have p9 := rSquare_any RY CY AY nY cY
        rw [f0] at p9
        obtain ⟨kU_0, kU_1, kU_2, kU_3, kU_4, kU_5⟩ := Mbx.cells DU
        obtain ⟨kX_0, kX_1, kX_2, kX_3, kX_4, kX_5⟩ := Mbx.cells DX
        obtain ⟨kY_0, kY_1, kY_2, kY_3, kY_4, kY_5⟩ := Mbx.cells DY
        go_wp2_with fail
        with_reducible refine (p9 _).mono ?_
        rintro e w8 ⟨rfl, hb⟩
        clear kU_0 kU_1 kU_2 kU_3 kU_4 kU_5 kX_0 kX_1 kX_2 kX_3 kX_4 kX_5 kY_0 kY_1 kY_2 kY_3 kY_4 kY_5
        replace DU := DU.on hb
        replace DX := DX.on hb
        replace DY := DY.on hb
        replace hFU := hFU.on hb
        replace hFX := hFX.on hb
        replace hFY := hFY.on hb
        replace hVY := hVY.on hb
        replace DVY := DVY.on hb
        replace bz := bz.trans (hb.mono bz.size)
        clear hb p9
        obtain ⟨kU_0, kU_1, kU_2, kU_3, kU_4, kU_5⟩ := Mbx.cells DU
        obtain ⟨kX_0, kX_1, kX_2, kX_3, kX_4, kX_5⟩ := Mbx.cells DX
        obtain ⟨kY_0, kY_1, kY_2, kY_3, kY_4, kY_5⟩ := Mbx.cells DY
        go_wp2_with fail
        with_reducible refine (num_any _ _).mono ?_
        rintro e v9 ⟨rfl, rfl⟩
        clear kU_0 kU_1 kU_2 kU_3 kU_4 kU_5 kX_0 kX_1 kX_2 kX_3 kX_4 kX_5 kY_0 kY_1 kY_2 kY_3 kY_4 kY_5
        obtain ⟨kU_0, kU_1, kU_2, kU_3, kU_4, kU_5⟩ := Mbx.cells DU
        obtain ⟨kX_0, kX_1, kX_2, kX_3, kX_4, kX_5⟩ := Mbx.cells DX
        obtain ⟨kY_0, kY_1, kY_2, kY_3, kY_4, kY_5⟩ := Mbx.cells DY
        obtain ⟨cDVY_0, cDVY_1, cDVY_2, cDVY_3, cDVY_4, cDVY_5, cDVY_6, cDVY_7, cDVY_8⟩ := Vbx.cells DVY
        go_wp2_with fail
        with_reducible refine (shows_true hVY.sv hFY.fl hVY.R hVY.C (sameL_refl LY)).mono ?_
        rintro e w10 ⟨rfl, hb⟩
        clear kU_0 kU_1 kU_2 kU_3 kU_4 kU_5 kX_0 kX_1 kX_2 kX_3 kX_4 kX_5 kY_0 kY_1 kY_2 kY_3 kY_4 kY_5 cDVY_0 cDVY_1 cDVY_2 cDVY_3 cDVY_4 cDVY_5 cDVY_6 cDVY_7 cDVY_8
        replace DU := DU.on hb
        replace DX := DX.on hb
        replace DY := DY.on hb
        replace hFU := hFU.on hb
        replace hFX := hFX.on hb
        replace hFY := hFY.on hb
        replace hVY := hVY.on hb
        replace DVY := DVY.on hb
        replace bz := bz.trans (hb.mono bz.size)
        clear hb
        go_wp2_with fail
        with_reducible refine (known_any _).mono ?_
        rintro e w11 ⟨rfl, hb⟩
        replace DU := DU.on hb
        replace DX := DX.on hb
        replace DY := DY.on hb
        replace hFU := hFU.on hb
        replace hFX := hFX.on hb
        replace hFY := hFY.on hb
        replace hVY := hVY.on hb
        replace DVY := DVY.on hb
        replace bz := bz.trans (hb.mono bz.size)
        clear hb
        go_wp2_with fail
        go_ret
        exact ⟨rfl, bz⟩
    · skip
      have p9 := rSquare_any RY CY AY nY cY
      rw [f0] at p9
      obtain ⟨kU_0, kU_1, kU_2, kU_3, kU_4, kU_5⟩ := Mbx.cells DU
      obtain ⟨kX_0, kX_1, kX_2, kX_3, kX_4, kX_5⟩ := Mbx.cells DX
      obtain ⟨kY_0, kY_1, kY_2, kY_3, kY_4, kY_5⟩ := Mbx.cells DY
      go_wp2_with fail
      with_reducible refine (p9 _).mono ?_
      rintro e w8 ⟨rfl, hb⟩
      clear kU_0 kU_1 kU_2 kU_3 kU_4 kU_5 kX_0 kX_1 kX_2 kX_3 kX_4 kX_5 kY_0 kY_1 kY_2 kY_3 kY_4 kY_5
      replace DU := DU.on hb
      replace DX := DX.on hb
      replace DY := DY.on hb
      replace hFU := hFU.on hb
      replace hFX := hFX.on hb
      replace hFY := hFY.on hb
      replace hVY := hVY.on hb
      replace DVY := DVY.on hb
      replace bz := bz.trans (hb.mono bz.size)
      clear hb p9
      obtain ⟨kU_0, kU_1, kU_2, kU_3, kU_4, kU_5⟩ := Mbx.cells DU
      obtain ⟨kX_0, kX_1, kX_2, kX_3, kX_4, kX_5⟩ := Mbx.cells DX
      obtain ⟨kY_0, kY_1, kY_2, kY_3, kY_4, kY_5⟩ := Mbx.cells DY
      go_wp2_with fail
      with_reducible refine (num_any _ _).mono ?_
      rintro e v9 ⟨rfl, rfl⟩
      clear kU_0 kU_1 kU_2 kU_3 kU_4 kU_5 kX_0 kX_1 kX_2 kX_3 kX_4 kX_5 kY_0 kY_1 kY_2 kY_3 kY_4 kY_5
      obtain ⟨kU_0, kU_1, kU_2, kU_3, kU_4, kU_5⟩ := Mbx.cells DU
      obtain ⟨kX_0, kX_1, kX_2, kX_3, kX_4, kX_5⟩ := Mbx.cells DX
      obtain ⟨kY_0, kY_1, kY_2, kY_3, kY_4, kY_5⟩ := Mbx.cells DY
      obtain ⟨cDVY_0, cDVY_1, cDVY_2, cDVY_3, cDVY_4, cDVY_5, cDVY_6, cDVY_7, cDVY_8⟩ := Vbx.cells DVY
      go_wp2_with fail
      with_reducible refine (shows_true hVY.sv hFY.fl hVY.R hVY.C (sameL_refl LY)).mono ?_
      rintro e w10 ⟨rfl, hb⟩
      clear kU_0 kU_1 kU_2 kU_3 kU_4 kU_5 kX_0 kX_1 kX_2 kX_3 kX_4 kX_5 kY_0 kY_1 kY_2 kY_3 kY_4 kY_5 cDVY_0 cDVY_1 cDVY_2 cDVY_3 cDVY_4 cDVY_5 cDVY_6 cDVY_7 cDVY_8
      replace DU := DU.on hb
      replace DX := DX.on hb
      replace DY := DY.on hb
      replace hFU := hFU.on hb
      replace hFX := hFX.on hb
      replace hFY := hFY.on hb
      replace hVY := hVY.on hb
      replace DVY := DVY.on hb
      replace bz := bz.trans (hb.mono bz.size)
      clear hb
      go_wp2_with fail
      with_reducible refine (known_any _).mono ?_
      rintro e w11 ⟨rfl, hb⟩
      replace DU := DU.on hb
      replace DX := DX.on hb
      replace DY := DY.on hb
      replace hFU := hFU.on hb
      replace hFX := hFX.on hb
      replace hFY := hFY.on hb
      replace hVY := hVY.on hb
      replace DVY := DVY.on hb
      replace bz := bz.trans (hb.mono bz.size)
      clear hb
      go_wp2_with fail
      go_ret
      exact ⟨rfl, bz⟩
set_option maxRecDepth 100000 in
set_option maxHeartbeats 8000000 in
theorem KernelsSyr2k_yes {w : World} {RU CU : Int} {AU : Option Addr} {nU cU : Nat} {LU : List Int} {RX CX : Int} {AX : Option Addr} {nX cX : Nat} {LX : List Int} {RY CY : Int} {AY : Option Addr} {nY cY : Nat} {LY : List Int} {a b : Nat} {turned : Bool} (ba : a ≤ 18446744073709551615) (bb : b ≤ 18446744073709551615) (hU : FL w AU nU cU LU) (hX : FL w AX nX cX LX) (hY : FL w AY nY cY LY) (bU : bigM RU CU nU = false) (bX : bigM RX CX nX = false) (bY : bigM RY CY nY = false) (hf : ((RY == CY) && !(RU != RY) && !(RX != RY) && !(CU != CX)) = true) : Calls Try.prog 10 #[.float .f64 a, mV RU CU AU nU cU, mV RX CX AX nX cX, .float .f64 b, mV RY CY AY nY cY, .bool turned] w (Ans w (.bool true)) := by
  have pbU := fun W => big_any RU CU AU nU cU hU.max W
  rw [bU] at pbU
  obtain ⟨zU, eU, uU⟩ := big_is bU
  have HSU := Lib.hid (And.intro zU eU)
  clear bU zU eU
  have pbX := fun W => big_any RX CX AX nX cX hX.max W
  rw [bX] at pbX
  obtain ⟨zX, eX, uX⟩ := big_is bX
  have HSX := Lib.hid (And.intro zX eX)
  clear bX zX eX
  have pbY := fun W => big_any RY CY AY nY cY hY.max W
  rw [bY] at pbY
  obtain ⟨zY, eY, uY⟩ := big_is bY
  have HSY := Lib.hid (And.intro zY eY)
  clear bY zY eY
  have EU := Lib.hid hU.1
  have mxU := hU.max
  have EX := Lib.hid hX.1
  have mxX := hX.max
  have EY := Lib.hid hY.1
  have mxY := hY.max
  have hfs := hf
  simp only [Bool.and_eq_true] at hfs
  obtain ⟨⟨⟨f0, f1⟩, f2⟩, f3⟩ := hfs
  replace f1 : (RU != RY) = false := by simpa using f1
  replace f2 : (RX != RY) = false := by simpa using f2
  replace f3 : (CU != CX) = false := by simpa using f3
  have zY := (szB_bd HSY.out.1).1
  have zU := (szB_bd HSU.out.1).1
  obtain ⟨m, hm⟩ := Int.eq_ofNat_of_zero_le zY.1
  obtain ⟨p, hp⟩ := Int.eq_ofNat_of_zero_le zU.2.2.1
  have g0 : RY = CY := by simpa using f0
  have g1 : RU = RY := by simpa using f1
  have g2 : RX = RY := by simpa using f2
  have g3 : CU = CX := by simpa using f3
  have hq : CY = (m : Int) := by rw [← g0]; exact hm
  have hru : RU = (m : Int) := by rw [g1]; exact hm
  have hrx : RX = (m : Int) := by rw [g2]; exact hm
  have hcx : CX = (p : Int) := by rw [← g3]; exact hp
  have hnY : nY = m * m := by have := HSY.out.2; rw [hm, hq] at this; exact_mod_cast this
  have hnU : nU = m * p := by have := HSU.out.2; rw [hru, hp] at this; exact_mod_cast this
  have hnX : nX = m * p := by have := HSX.out.2; rw [hrx, hcx] at this; exact_mod_cast this
  have hm5 : m ≤ 512 ∧ p ≤ 512 := by omega
  have HM := Lib.hid hm
  have HQ := Lib.hid hq
  have HP := Lib.hid hp
  have HRU := Lib.hid hru
  have HRX := Lib.hid hrx
  have HCX := Lib.hid hcx
  have HNY := Lib.hid hnY
  have HNU := Lib.hid hnU
  have HNX := Lib.hid hnX
  clear zU zY hm hq hp hru hrx hcx hnY hnU hnX g0 g1 g2 g3
  have F0 := Lib.hid f0
  clear f0
  have F1 := Lib.hid f1
  clear f1
  have F2 := Lib.hid f2
  clear f2
  have F3 := Lib.hid f3
  clear f3
  have HFT := Lib.hid hf
  clear hf
  have DU := Blk.new w [.int .i64 RU, .int .i64 CU, .slice AU nU cU] 24
  have DX := Blk.new (w.alloc (.cells #[.int .i64 RU, .int .i64 CU, .slice AU nU cU] 24)) [.int .i64 RX, .int .i64 CX, .slice AX nX cX] 24
  replace DU := DU.alloc (.cells #[.int .i64 RX, .int .i64 CX, .slice AX nX cX] 24)
  simp only [World.size_alloc] at DX
  have DY := Blk.new ((w.alloc (.cells #[.int .i64 RU, .int .i64 CU, .slice AU nU cU] 24)).alloc (.cells #[.int .i64 RX, .int .i64 CX, .slice AX nX cX] 24)) [.int .i64 RY, .int .i64 CY, .slice AY nY cY] 24
  replace DU := DU.alloc (.cells #[.int .i64 RY, .int .i64 CY, .slice AY nY cY] 24)
  replace DX := DX.alloc (.cells #[.int .i64 RY, .int .i64 CY, .slice AY nY cY] 24)
  simp only [World.size_alloc] at DY
  have bz := (((Below.refl _ w).alloc (Nat.le_refl _) (.cells #[.int .i64 RU, .int .i64 CU, .slice AU nU cU] 24)).alloc (by simp <;> omega) (.cells #[.int .i64 RX, .int .i64 CX, .slice AX nX cX] 24)).alloc (by simp <;> omega) (.cells #[.int .i64 RY, .int .i64 CY, .slice AY nY cY] 24)
  have hsz0 : (((w.alloc (.cells #[.int .i64 RU, .int .i64 CU, .slice AU nU cU] 24)).alloc (.cells #[.int .i64 RX, .int .i64 CX, .slice AX nX cX] 24)).alloc (.cells #[.int .i64 RY, .int .i64 CY, .slice AY nY cY] 24)).heap.size = w.heap.size + 3 := by simp
  have hFU := hU.lo.on bz
  clear hU
  have hFX := hX.lo.on bz
  clear hX
  have hFY := hY.lo.on bz
  clear hY
  go_enter Try.func10, Try.ntmps10
  obtain ⟨kU_0, kU_1, kU_2, kU_3, kU_4, kU_5⟩ := Mbx.cells DU
  obtain ⟨kX_0, kX_1, kX_2, kX_3, kX_4, kX_5⟩ := Mbx.cells DX
  obtain ⟨kY_0, kY_1, kY_2, kY_3, kY_4, kY_5⟩ := Mbx.cells DY
  go_wp2_with fail
  with_reducible refine (pbU _).mono ?_
  rintro e w1 ⟨rfl, hb⟩
  clear kU_0 kU_1 kU_2 kU_3 kU_4 kU_5 kX_0 kX_1 kX_2 kX_3 kX_4 kX_5 kY_0 kY_1 kY_2 kY_3 kY_4 kY_5
  replace DU := DU.on hb
  replace DX := DX.on hb
  replace DY := DY.on hb
  replace hFU := hFU.on hb
  replace hFX := hFX.on hb
  replace hFY := hFY.on hb
  replace bz := bz.trans (hb.mono bz.size)
  clear hb
  obtain ⟨kU_0, kU_1, kU_2, kU_3, kU_4, kU_5⟩ := Mbx.cells DU
  obtain ⟨kX_0, kX_1, kX_2, kX_3, kX_4, kX_5⟩ := Mbx.cells DX
  obtain ⟨kY_0, kY_1, kY_2, kY_3, kY_4, kY_5⟩ := Mbx.cells DY
  go_wp2_with fail
  with_reducible refine (pbX _).mono ?_
  rintro e w2 ⟨rfl, hb⟩
  clear kU_0 kU_1 kU_2 kU_3 kU_4 kU_5 kX_0 kX_1 kX_2 kX_3 kX_4 kX_5 kY_0 kY_1 kY_2 kY_3 kY_4 kY_5
  replace DU := DU.on hb
  replace DX := DX.on hb
  replace DY := DY.on hb
  replace hFU := hFU.on hb
  replace hFX := hFX.on hb
  replace hFY := hFY.on hb
  replace bz := bz.trans (hb.mono bz.size)
  clear hb
  obtain ⟨kU_0, kU_1, kU_2, kU_3, kU_4, kU_5⟩ := Mbx.cells DU
  obtain ⟨kX_0, kX_1, kX_2, kX_3, kX_4, kX_5⟩ := Mbx.cells DX
  obtain ⟨kY_0, kY_1, kY_2, kY_3, kY_4, kY_5⟩ := Mbx.cells DY
  go_wp2_with fail
  with_reducible refine (pbY _).mono ?_
  rintro e w3 ⟨rfl, hb⟩
  clear kU_0 kU_1 kU_2 kU_3 kU_4 kU_5 kX_0 kX_1 kX_2 kX_3 kX_4 kX_5 kY_0 kY_1 kY_2 kY_3 kY_4 kY_5
  replace DU := DU.on hb
  replace DX := DX.on hb
  replace DY := DY.on hb
  replace hFU := hFU.on hb
  replace hFX := hFX.on hb
  replace hFY := hFY.on hb
  replace bz := bz.trans (hb.mono bz.size)
  clear hb
  obtain ⟨kU_0, kU_1, kU_2, kU_3, kU_4, kU_5⟩ := Mbx.cells DU
  obtain ⟨kX_0, kX_1, kX_2, kX_3, kX_4, kX_5⟩ := Mbx.cells DX
  obtain ⟨kY_0, kY_1, kY_2, kY_3, kY_4, kY_5⟩ := Mbx.cells DY
  have hszw : w.heap.size + 3 ≤ w3.heap.size := by have := DY.lt; omega
  go_wp2_with fail
  with_reducible refine (of_any false hFY.fl HSY.out.1 HSY.out.2).mono ?_
  rintro e w4 ⟨VY, sVY, gVY, capVY, cVY, lVY, rfl, hVY, hb⟩
  clear kU_0 kU_1 kU_2 kU_3 kU_4 kU_5 kX_0 kX_1 kX_2 kX_3 kX_4 kX_5 kY_0 kY_1 kY_2 kY_3 kY_4 kY_5
  replace DU := DU.on hb
  replace DX := DX.on hb
  replace DY := DY.on hb
  replace hFU := hFU.on hb
  replace hFX := hFX.on hb
  replace hFY := hFY.on hb
  replace bz := bz.trans (hb.mono bz.size)
  clear hb
  have hgy : w.heap.size + 3 ≤ gVY ∧ w.heap.size + 3 ≤ sVY := by have h1 := hVY.st.lo; have h2 := hVY.st.gt.1; omega
  have hlt := And.intro hVY.st.lt hVY.st.gt.2
  have DVY := Blk.new w4 (VY).L 30
  obtain ⟨HDVY, eHDVY⟩ : ∃ H, w4.heap.size = H := ⟨_, rfl⟩
  rw [eHDVY] at DVY
  have hbA := (Below.refl _ w4).alloc (Nat.le_refl _) (.cells (VY).L.toArray 30)
  replace DU := DU.on hbA
  replace DX := DX.on hbA
  replace DY := DY.on hbA
  replace hFU := hFU.on hbA
  replace hFX := hFX.on hbA
  replace hFY := hFY.on hbA
  replace hVY := hVY.on hbA
  clear hbA
  replace bz := bz.alloc bz.size (.cells (VY).L.toArray 30)
  have HHDVY := Lib.hid eHDVY
  rw [eHDVY] at hlt
  clear hszw
  go_wp2_with fail
  replace DU := DU.drew
  replace DX := DX.drew
  replace DY := DY.drew
  replace hFU := hFU.drew
  replace hFX := hFX.drew
  replace hFY := hFY.drew
  replace hVY := hVY.drew
  replace DVY := DVY.drew
  replace bz := bz.drew
  refine wp_region_held_drew (S := fun w9 : World => Mbx w9 w.heap.size RU CU AU nU cU ∧ Mbx w9 (w.heap.size + 1) RX CX AX nX cX ∧ Mbx w9 (w.heap.size + 2) RY CY AY nY cY ∧ Vbx w9 HDVY VY) (by kernel_rfl) ⟨DU, DX, DY, DVY⟩ (fun hS => ?_)
  generalize (w4.alloc (.cells (VY).L.toArray 30)).drew = wd4 at hS DU DX DY hFU hFX hFY hVY DVY  bz ⊢
  refine wpAnyH_take (i := 0) (v := ?v0_8) rfl (by kernel_rfl) (by kernel_rfl) (by kernel_rfl) (fun _ _ _ h => h) (Or.inl ⟨by rfl, ?hy0_8⟩) (by assumption) ?rest0_8
  case hy0_8 => (intro w9 hSw; clear hSw; go_simp; try with_reducible rfl)
  try simp only [Act.put, List.setIfInBounds_toArray, List.set_cons_zero, List.set_cons_succ, List.getElem_toArray, List.getElem_cons_zero, List.getElem_cons_succ]
  refine wpAnyH_take (i := 1) (v := ?v1_9) rfl (by kernel_rfl) (by kernel_rfl) (by kernel_rfl) (fun _ _ _ h => h) (Or.inl ⟨by rfl, ?hy1_9⟩) (by assumption) ?rest1_9
  case hy1_9 => (intro w9 hSw; obtain ⟨m0, m1, m2, m3⟩ := hSw; obtain ⟨q0_0, q0_1, q0_2, q0_3, q0_4, q0_5⟩ := Mbx.cells m0; obtain ⟨q1_0, q1_1, q1_2, q1_3, q1_4, q1_5⟩ := Mbx.cells m1; obtain ⟨q2_0, q2_1, q2_2, q2_3, q2_4, q2_5⟩ := Mbx.cells m2; go_simp; try with_reducible rfl)
  try simp only [Act.put, List.setIfInBounds_toArray, List.set_cons_zero, List.set_cons_succ, List.getElem_toArray, List.getElem_cons_zero, List.getElem_cons_succ]
  refine wpAnyH_take (i := 2) (v := ?v2_10) rfl (by kernel_rfl) (by kernel_rfl) (by kernel_rfl) (fun _ _ _ h => h) (Or.inl ⟨by rfl, ?hy2_10⟩) (by assumption) ?rest2_10
  case hy2_10 => (intro w9 hSw; clear hSw; go_simp; try with_reducible rfl)
  try simp only [Act.put, List.setIfInBounds_toArray, List.set_cons_zero, List.set_cons_succ, List.getElem_toArray, List.getElem_cons_zero, List.getElem_cons_succ]
  refine wpAnyH_take (i := 4) (v := ?v4_11) rfl (by kernel_rfl) (by kernel_rfl) (by kernel_rfl) (fun _ _ _ h => h) (Or.inl ⟨by rfl, ?hy4_11⟩) (by assumption) ?rest4_11
  case hy4_11 => (intro w9 hSw; obtain ⟨m0, m1, m2, m3⟩ := hSw; obtain ⟨q0_0, q0_1, q0_2, q0_3, q0_4, q0_5⟩ := Mbx.cells m0; obtain ⟨q1_0, q1_1, q1_2, q1_3, q1_4, q1_5⟩ := Mbx.cells m1; obtain ⟨q2_0, q2_1, q2_2, q2_3, q2_4, q2_5⟩ := Mbx.cells m2; go_simp; try with_reducible rfl)
  try simp only [Act.put, List.setIfInBounds_toArray, List.set_cons_zero, List.set_cons_succ, List.getElem_toArray, List.getElem_cons_zero, List.getElem_cons_succ]
  refine wpAnyH_take (i := 6) (v := ?v6_12) rfl (by kernel_rfl) (by kernel_rfl) (by kernel_rfl) (fun _ _ _ h => h) (Or.inl ⟨by rfl, ?hy6_12⟩) (by assumption) ?rest6_12
  case hy6_12 => (intro w9 hSw; clear hSw; go_simp; try with_reducible rfl)
  try simp only [Act.put, List.setIfInBounds_toArray, List.set_cons_zero, List.set_cons_succ, List.getElem_toArray, List.getElem_cons_zero, List.getElem_cons_succ]
  refine wpAnyH_take (i := 7) (v := ?v7_13) rfl (by kernel_rfl) (by kernel_rfl) (by kernel_rfl) (fun _ _ _ h => h) (Or.inl ⟨by rfl, ?hy7_13⟩) (by assumption) ?rest7_13
  case hy7_13 => (intro w9 hSw; obtain ⟨m0, m1, m2, m3⟩ := hSw; refine (ld_v (by rfl) (by kernel_rfl) m3).trans ?_; with_reducible rfl)
  try simp only [Act.put, List.setIfInBounds_toArray, List.set_cons_zero, List.set_cons_succ, List.getElem_toArray, List.getElem_cons_zero, List.getElem_cons_succ]
  refine wpAnyH_ready (rs := [3]) (by kernel_rfl) (by simp) ?_
  refine AllReadyH.cons rfl (fun K hK => ?_) AllReadyH.nil
  go_simp
  with_reducible refine (of_any turned hFU.fl HSU.out.1 HSU.out.2).mono ?_
  rintro e w5 ⟨VU, sVU, gVU, capVU, cVU, lVU, rfl, hVU, hb⟩
  replace DU := DU.on hb
  replace DX := DX.on hb
  replace DY := DY.on hb
  replace hFU := hFU.on hb
  replace hFX := hFX.on hb
  replace hFY := hFY.on hb
  replace hVY := hVY.on hb
  replace DVY := DVY.on hb
  replace bz := bz.trans (hb.mono bz.size)
  clear hb
  clear hS; refine hK.out _ _ ⟨DU, DX, DY, DVY⟩ (fun hS => ?_); clear hK K
  try simp only [Act.put, List.setIfInBounds_toArray, List.set_cons_zero, List.set_cons_succ, List.getElem_toArray, List.getElem_cons_zero, List.getElem_cons_succ]
  refine wpAnyH_ready (rs := [5]) (by kernel_rfl) (by simp) ?_
  refine AllReadyH.cons rfl (fun K hK => ?_) AllReadyH.nil
  go_simp
  with_reducible refine (of_any false hFX.fl HSX.out.1 HSX.out.2).mono ?_
  rintro e w6 ⟨VX, sVX, gVX, capVX, cVX, lVX, rfl, hVX, hb⟩
  replace DU := DU.on hb
  replace DX := DX.on hb
  replace DY := DY.on hb
  replace hFU := hFU.on hb
  replace hFX := hFX.on hb
  replace hFY := hFY.on hb
  replace hVY := hVY.on hb
  replace DVY := DVY.on hb
  replace hVU := hVU.on hb
  replace bz := bz.trans (hb.mono bz.size)
  clear hb
  clear hS; refine hK.out _ _ ⟨DU, DX, DY, DVY⟩ (fun hS => ?_); clear hK K
  try simp only [Act.put, List.setIfInBounds_toArray, List.set_cons_zero, List.set_cons_succ, List.getElem_toArray, List.getElem_cons_zero, List.getElem_cons_succ]
  refine wpAnyH_ready (rs := [8]) (by kernel_rfl) (by simp) ?_
  refine AllReadyH.cons rfl (fun K hK => ?_) AllReadyH.nil
  go_simp
  with_reducible refine (syr2k_yes ba bb hVU hVX hVY HM.out HQ.out HP.out EY.out HFT.out).mono ?_
  rintro e w66 ⟨ly, G, rfl, hVY2, hI, hg⟩
  replace DU := DU.grown hg (by simp; omega)
  replace hFU := hFU.grown hg (by omega)
  replace DX := DX.grown hg (by simp; omega)
  replace hFX := hFX.grown hg (by omega)
  replace DY := DY.grown hg (by simp; omega)
  replace hFY := hFY.grown hg (by omega)
  replace DVY := DVY.grown hg (by simp; omega)
  replace hVY := hVY2
  replace bz := bz.grown hg bz.size (fun k e => by cases e; omega)
  have HI := Lib.hid hI
  clear hVY2 hg hI
  clear hVU hVX
  clear hS; refine hK.out _ _ ⟨DU, DX, DY, DVY⟩ (fun hS => ?_); clear hK K
  try simp only [Act.put, List.setIfInBounds_toArray, List.set_cons_zero, List.set_cons_succ, List.getElem_toArray, List.getElem_cons_zero, List.getElem_cons_succ]
  refine wpAnyH_take (i := 9) (v := ?v9_14) rfl (by kernel_rfl) (by kernel_rfl) (by kernel_rfl) (fun _ _ _ h => h) (Or.inl ⟨by rfl, ?hy9_14⟩) (by assumption) ?rest9_14
  case hy9_14 => (intro w9 hSw; clear hSw; go_simp; try with_reducible rfl)
  try simp only [Act.put, List.setIfInBounds_toArray, List.set_cons_zero, List.set_cons_succ, List.getElem_toArray, List.getElem_cons_zero, List.getElem_cons_succ]
  refine wpAnyH_done (by kernel_rfl) ?_ _
  have f0 := F0.out
  have f1 := F1.out
  have f2 := F2.out
  have f3 := F3.out
  have p9 := rSquare_any RY CY AY nY cY
  rw [f0] at p9
  obtain ⟨kU_0, kU_1, kU_2, kU_3, kU_4, kU_5⟩ := Mbx.cells DU
  obtain ⟨kX_0, kX_1, kX_2, kX_3, kX_4, kX_5⟩ := Mbx.cells DX
  obtain ⟨kY_0, kY_1, kY_2, kY_3, kY_4, kY_5⟩ := Mbx.cells DY
  go_wp2_with fail
  with_reducible refine (p9 _).mono ?_
  rintro e w7 ⟨rfl, hb⟩
  clear kU_0 kU_1 kU_2 kU_3 kU_4 kU_5 kX_0 kX_1 kX_2 kX_3 kX_4 kX_5 kY_0 kY_1 kY_2 kY_3 kY_4 kY_5
  replace DU := DU.on hb
  replace DX := DX.on hb
  replace DY := DY.on hb
  replace hFU := hFU.on hb
  replace hFX := hFX.on hb
  replace hFY := hFY.on hb
  replace hVY := hVY.on hb
  replace DVY := DVY.on hb
  replace bz := bz.trans (hb.mono bz.size)
  clear hb p9
  obtain ⟨kU_0, kU_1, kU_2, kU_3, kU_4, kU_5⟩ := Mbx.cells DU
  obtain ⟨kX_0, kX_1, kX_2, kX_3, kX_4, kX_5⟩ := Mbx.cells DX
  obtain ⟨kY_0, kY_1, kY_2, kY_3, kY_4, kY_5⟩ := Mbx.cells DY
  go_wp2_with fail
  clear kU_0 kU_1 kU_2 kU_3 kU_4 kU_5 kX_0 kX_1 kX_2 kX_3 kX_4 kX_5 kY_0 kY_1 kY_2 kY_3 kY_4 kY_5
  clear f0 f1 f2 f3
  replace DU := DU.drew
  replace DX := DX.drew
  replace DY := DY.drew
  replace hFU := hFU.drew
  replace hFX := hFX.drew
  replace hFY := hFY.drew
  replace hVY := hVY.drew
  replace DVY := DVY.drew
  replace bz := bz.drew
  refine wp_region_held_drew (S := fun w9 : World => Mbx w9 w.heap.size RU CU AU nU cU ∧ Mbx w9 (w.heap.size + 1) RX CX AX nX cX ∧ Mbx w9 (w.heap.size + 2) RY CY AY nY cY ∧ Vbx w9 HDVY VY) (by kernel_rfl) ⟨DU, DX, DY, DVY⟩ (fun hS => ?_)
  generalize w7.drew = wd7 at hS DU DX DY hFU hFX hFY hVY DVY  bz ⊢
  refine wpAnyH_take (i := 0) (v := ?v0_15) rfl (by kernel_rfl) (by kernel_rfl) (by kernel_rfl) (fun _ _ _ h => h) (Or.inl ⟨by rfl, ?hy0_15⟩) (by assumption) ?rest0_15
  case hy0_15 => (intro w9 hSw; clear hSw; go_simp; try with_reducible rfl)
  try simp only [Act.put, List.setIfInBounds_toArray, List.set_cons_zero, List.set_cons_succ, List.getElem_toArray, List.getElem_cons_zero, List.getElem_cons_succ]
  refine wpAnyH_ready (rs := [1]) (by kernel_rfl) (by simp) ?_
  refine AllReadyH.cons rfl (fun K hK => ?_) AllReadyH.nil
  go_simp
  with_reducible refine (num_any _ _).mono ?_
  rintro e v8 ⟨rfl, rfl⟩
  clear hS; refine hK.out _ _ ⟨DU, DX, DY, DVY⟩ (fun hS => ?_); clear hK K
  try simp only [Act.put, List.setIfInBounds_toArray, List.set_cons_zero, List.set_cons_succ, List.getElem_toArray, List.getElem_cons_zero, List.getElem_cons_succ]
  refine wpAnyH_take (i := 2) (v := ?v2_16) rfl (by kernel_rfl) (by kernel_rfl) (by kernel_rfl) (fun _ _ _ h => h) (Or.inl ⟨by rfl, ?hy2_16⟩) (by assumption) ?rest2_16
  case hy2_16 => (intro w9 hSw; clear hSw; go_simp; try with_reducible rfl)
  try simp only [Act.put, List.setIfInBounds_toArray, List.set_cons_zero, List.set_cons_succ, List.getElem_toArray, List.getElem_cons_zero, List.getElem_cons_succ]
  refine wpAnyH_take (i := 3) (v := ?v3_17) rfl (by kernel_rfl) (by kernel_rfl) (by kernel_rfl) (fun _ _ _ h => h) (Or.inl ⟨by rfl, ?hy3_17⟩) (by assumption) ?rest3_17
  case hy3_17 => (intro w9 hSw; clear hSw; go_simp; try with_reducible rfl)
  try simp only [Act.put, List.setIfInBounds_toArray, List.set_cons_zero, List.set_cons_succ, List.getElem_toArray, List.getElem_cons_zero, List.getElem_cons_succ]
  refine wpAnyH_take (i := 4) (v := ?v4_18) rfl (by kernel_rfl) (by kernel_rfl) (by kernel_rfl) (fun _ _ _ h => h) (Or.inl ⟨by rfl, ?hy4_18⟩) (by assumption) ?rest4_18
  case hy4_18 => (intro w9 hSw; obtain ⟨m0, m1, m2, m3⟩ := hSw; refine (ld_v (by rfl) (by kernel_rfl) m3).trans ?_; with_reducible rfl)
  try simp only [Act.put, List.setIfInBounds_toArray, List.set_cons_zero, List.set_cons_succ, List.getElem_toArray, List.getElem_cons_zero, List.getElem_cons_succ]
  refine wpAnyH_take (i := 5) (v := ?v5_19) rfl (by kernel_rfl) (by kernel_rfl) (by kernel_rfl) (fun _ _ _ h => h) (Or.inl ⟨by rfl, ?hy5_19⟩) (by assumption) ?rest5_19
  case hy5_19 => (intro w9 hSw; clear hSw; go_simp; try with_reducible rfl)
  try simp only [Act.put, List.setIfInBounds_toArray, List.set_cons_zero, List.set_cons_succ, List.getElem_toArray, List.getElem_cons_zero, List.getElem_cons_succ]
  refine wpAnyH_take (i := 6) (v := ?v6_20) rfl (by kernel_rfl) (by kernel_rfl) (by kernel_rfl) (fun _ _ _ h => h) (Or.inl ⟨by rfl, ?hy6_20⟩) (by assumption) ?rest6_20
  case hy6_20 => (intro w9 hSw; obtain ⟨m0, m1, m2, m3⟩ := hSw; obtain ⟨q0_0, q0_1, q0_2, q0_3, q0_4, q0_5⟩ := Mbx.cells m0; obtain ⟨q1_0, q1_1, q1_2, q1_3, q1_4, q1_5⟩ := Mbx.cells m1; obtain ⟨q2_0, q2_1, q2_2, q2_3, q2_4, q2_5⟩ := Mbx.cells m2; go_simp; try with_reducible rfl)
  try simp only [Act.put, List.setIfInBounds_toArray, List.set_cons_zero, List.set_cons_succ, List.getElem_toArray, List.getElem_cons_zero, List.getElem_cons_succ]
  refine wpAnyH_take (i := 7) (v := ?v7_21) rfl (by kernel_rfl) (by kernel_rfl) (by kernel_rfl) (fun _ _ _ h => h) (Or.inl ⟨by rfl, ?hy7_21⟩) (by assumption) ?rest7_21
  case hy7_21 => (intro w9 hSw; obtain ⟨m0, m1, m2, m3⟩ := hSw; obtain ⟨q0_0, q0_1, q0_2, q0_3, q0_4, q0_5⟩ := Mbx.cells m0; obtain ⟨q1_0, q1_1, q1_2, q1_3, q1_4, q1_5⟩ := Mbx.cells m1; obtain ⟨q2_0, q2_1, q2_2, q2_3, q2_4, q2_5⟩ := Mbx.cells m2; go_simp; try with_reducible rfl)
  try simp only [Act.put, List.setIfInBounds_toArray, List.set_cons_zero, List.set_cons_succ, List.getElem_toArray, List.getElem_cons_zero, List.getElem_cons_succ]
  refine wpAnyH_take (i := 8) (v := ?v8_22) rfl (by kernel_rfl) (by kernel_rfl) (by kernel_rfl) (fun _ _ _ h => h) (Or.inl ⟨by rfl, ?hy8_22⟩) (by assumption) ?rest8_22
  case hy8_22 => (intro w9 hSw; clear hSw; go_simp; try with_reducible rfl)
  try simp only [Act.put, List.setIfInBounds_toArray, List.set_cons_zero, List.set_cons_succ, List.getElem_toArray, List.getElem_cons_zero, List.getElem_cons_succ]
  refine wpAnyH_take (i := 9) (v := ?v9_23) rfl (by kernel_rfl) (by kernel_rfl) (by kernel_rfl) (fun _ _ _ h => h) (Or.inl ⟨by rfl, ?hy9_23⟩) (by assumption) ?rest9_23
  case hy9_23 => (intro w9 hSw; obtain ⟨m0, m1, m2, m3⟩ := hSw; obtain ⟨q0_0, q0_1, q0_2, q0_3, q0_4, q0_5⟩ := Mbx.cells m0; obtain ⟨q1_0, q1_1, q1_2, q1_3, q1_4, q1_5⟩ := Mbx.cells m1; obtain ⟨q2_0, q2_1, q2_2, q2_3, q2_4, q2_5⟩ := Mbx.cells m2; go_simp; try with_reducible rfl)
  try simp only [Act.put, List.setIfInBounds_toArray, List.set_cons_zero, List.set_cons_succ, List.getElem_toArray, List.getElem_cons_zero, List.getElem_cons_succ]
  refine wpAnyH_ready (rs := [10]) (by kernel_rfl) (by simp) ?_
  refine AllReadyH.cons rfl (fun K hK => ?_) AllReadyH.nil
  go_simp
  have pr := rSyr2k_any (a := a) (b := b) (m := m) (q := m) (p := p) (lm := LU) (ln := LX) ba bb (l := LY) hFY.fl HNY.out hm5.1 hm5.1 hFU.fl HNU.out hm5.2 hFX.fl HNX.out (Nat.le_refl _) (Nat.le_refl _)
  rw [show mV (m : Int) (p : Int) AU nU cU = mV RU CU AU nU cU by rw [HRU.out, HP.out], show mV (m : Int) (p : Int) AX nX cX = mV RX CX AX nX cX by rw [HRX.out, HCX.out], show mV (m : Int) (m : Int) AY nY cY = mV RY CY AY nY cY by rw [HM.out, HQ.out]] at pr
  with_reducible refine (pr).mono ?_
  rintro e w9 ⟨A8, c8, L8, rfl, hI8, ho8, hb⟩
  replace DU := DU.on hb
  replace DX := DX.on hb
  replace DY := DY.on hb
  replace hFU := hFU.on hb
  replace hFX := hFX.on hb
  replace hFY := hFY.on hb
  replace hVY := hVY.on hb
  replace DVY := DVY.on hb
  replace bz := bz.trans (hb.mono bz.size)
  clear hb
  clear pr
  rw [show mV (m : Int) (m : Int) A8 nY c8 = mV RY CY A8 nY c8 by rw [HM.out, HQ.out]]
  have hF8 := hI8.fl ho8
  have HI8 := Lib.hid hI8
  clear ho8 hI8
  clear hS; refine hK.out _ _ ⟨DU, DX, DY, DVY⟩ (fun hS => ?_); clear hK K
  try simp only [Act.put, List.setIfInBounds_toArray, List.set_cons_zero, List.set_cons_succ, List.getElem_toArray, List.getElem_cons_zero, List.getElem_cons_succ]
  refine wpAnyH_ready (rs := [11]) (by kernel_rfl) (by simp) ?_
  refine AllReadyH.cons rfl (fun K hK => ?_) AllReadyH.nil
  go_simp
  with_reducible refine (shows_true hVY.sv hF8 hVY.R hVY.C (Is.same HI.out HI8.out)).mono ?_
  rintro e w10 ⟨rfl, hb⟩
  replace DU := DU.on hb
  replace DX := DX.on hb
  replace DY := DY.on hb
  replace hFU := hFU.on hb
  replace hFX := hFX.on hb
  replace hFY := hFY.on hb
  replace hVY := hVY.on hb
  replace DVY := DVY.on hb
  replace hF8 := hF8.on hb
  replace bz := bz.trans (hb.mono bz.size)
  clear hb
  clear hS; refine hK.out _ _ ⟨DU, DX, DY, DVY⟩ (fun hS => ?_); clear hK K
  try simp only [Act.put, List.setIfInBounds_toArray, List.set_cons_zero, List.set_cons_succ, List.getElem_toArray, List.getElem_cons_zero, List.getElem_cons_succ]
  refine wpAnyH_take (i := 12) (v := ?v12_24) rfl (by kernel_rfl) (by kernel_rfl) (by kernel_rfl) (fun _ _ _ h => h) (Or.inl ⟨by rfl, ?hy12_24⟩) (by assumption) ?rest12_24
  case hy12_24 => (intro w9 hSw; clear hSw; go_simp; try with_reducible rfl)
  try simp only [Act.put, List.setIfInBounds_toArray, List.set_cons_zero, List.set_cons_succ, List.getElem_toArray, List.getElem_cons_zero, List.getElem_cons_succ]
  refine wpAnyH_take (i := 13) (v := ?v13_25) rfl (by kernel_rfl) (by kernel_rfl) (by kernel_rfl) (fun _ _ _ h => h) (Or.inl ⟨by rfl, ?hy13_25⟩) (by assumption) ?rest13_25
  case hy13_25 => (intro w9 hSw; clear hSw; go_simp; try with_reducible rfl)
  try simp only [Act.put, List.setIfInBounds_toArray, List.set_cons_zero, List.set_cons_succ, List.getElem_toArray, List.getElem_cons_zero, List.getElem_cons_succ]
  refine wpAnyH_ready (rs := [14]) (by kernel_rfl) (by simp) ?_
  refine AllReadyH.cons rfl (fun K hK => ?_) AllReadyH.nil
  go_simp
  with_reducible refine (known_any _).mono ?_
  rintro e w11 ⟨rfl, hb⟩
  replace DU := DU.on hb
  replace DX := DX.on hb
  replace DY := DY.on hb
  replace hFU := hFU.on hb
  replace hFX := hFX.on hb
  replace hFY := hFY.on hb
  replace hVY := hVY.on hb
  replace DVY := DVY.on hb
  replace hF8 := hF8.on hb
  replace bz := bz.trans (hb.mono bz.size)
  clear hb
  clear hS; refine hK.out _ _ ⟨DU, DX, DY, DVY⟩ (fun hS => ?_); clear hK K
  try simp only [Act.put, List.setIfInBounds_toArray, List.set_cons_zero, List.set_cons_succ, List.getElem_toArray, List.getElem_cons_zero, List.getElem_cons_succ]
  refine wpAnyH_take (i := 15) (v := ?v15_26) rfl (by kernel_rfl) (by kernel_rfl) (by kernel_rfl) (fun _ _ _ h => h) (Or.inl ⟨by rfl, ?hy15_26⟩) (by assumption) ?rest15_26
  case hy15_26 => (intro w9 hSw; clear hSw; go_simp; try with_reducible rfl)
  try simp only [Act.put, List.setIfInBounds_toArray, List.set_cons_zero, List.set_cons_succ, List.getElem_toArray, List.getElem_cons_zero, List.getElem_cons_succ]
  refine wpAnyH_take (i := 16) (v := ?v16_27) rfl (by kernel_rfl) (by kernel_rfl) (by kernel_rfl) (fun _ _ _ h => h) (Or.inl ⟨by rfl, ?hy16_27⟩) (by assumption) ?rest16_27
  case hy16_27 => (intro w9 hSw; clear hSw; go_simp; try with_reducible rfl)
  try simp only [Act.put, List.setIfInBounds_toArray, List.set_cons_zero, List.set_cons_succ, List.getElem_toArray, List.getElem_cons_zero, List.getElem_cons_succ]
  refine wpAnyH_done (by kernel_rfl) ?_ _
  go_wp2_with fail
  go_ret
  exact ⟨rfl, bz⟩
theorem KernelsSyr2k_law {w : World} {RU CU : Int} {AU : Option Addr} {nU cU : Nat} {LU : List Int} {RX CX : Int} {AX : Option Addr} {nX cX : Nat} {LX : List Int} {RY CY : Int} {AY : Option Addr} {nY cY : Nat} {LY : List Int} {a b : Nat} {turned : Bool} (ba : a ≤ 18446744073709551615) (bb : b ≤ 18446744073709551615) (hU : FL w AU nU cU LU) (hX : FL w AX nX cX LX) (hY : FL w AY nY cY LY) : Calls Try.prog 10 #[.float .f64 a, mV RU CU AU nU cU, mV RX CX AX nX cX, .float .f64 b, mV RY CY AY nY cY, .bool turned] w (Ans w (.bool true)) := by
  cases bU : bigM RU CU nU
  · cases bX : bigM RX CX nX
    · cases bY : bigM RY CY nY
      · cases hf : ((RY == CY) && !(RU != RY) && !(RX != RY) && !(CU != CX))
        · exact KernelsSyr2k_no ba bb hU hX hY bU bX bY hf
        · exact KernelsSyr2k_yes ba bb hU hX hY bU bX bY hf
      · exact KernelsSyr2k_big3 ba bb hU hX hY bU bX bY
    · exact KernelsSyr2k_big2 ba bb hU hX hY bU bX
  · exact KernelsSyr2k_big1 ba bb hU hX hY bU
end Go.Proofs.Ytfelmkkkaphkpaa
