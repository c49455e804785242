/-
  Layer 8: Syr2: regions whose operations don't wait, refused, by the program, the law.
-/
import Derived.Test.YtfelmkkkaphkpaaKlA
import Derived.Test.YtfelmkkkaphkpaaKnU
import Derived.Test.YtfelmkkkaphkpaaKnY
import Derived.OrdersHeld
import Derived.Deep.RegionHeld
import Derived.Below
namespace Go.Proofs.Ytfelmkkkaphkpaa
set_option linter.unusedVariables false
set_option linter.unusedSimpArgs false

/-- all rows of n flags -/
def allB : Nat → List (List Bool)
  | 0 => [[]]
  | n + 1 => (allB n).flatMap fun bs => [false :: bs, true :: bs]
theorem mem_allB : ∀ bs : List Bool, bs ∈ allB bs.length
  | [] => List.mem_singleton.2 rfl
  | b :: bs => by
    show b :: bs ∈ (allB bs.length).flatMap fun bs => [false :: bs, true :: bs]
    refine List.mem_flatMap.2 ⟨bs, mem_allB bs, ?_⟩
    cases b <;> simp
section
variable {P : Program} {ops : Array Oper} {Q : Exit → Act → World → Prop} {md : Region.Mode} {S : World → Prop}
/-- what has come up (L) fits the flags: what is ready is among the operations is, and has not come up; where one comes up, its flag is set; ok: the flags that can be -/
def flagsOk (md : Region.Mode) (ops : Array Oper) (is : List Nat) (L : List Bool → Array Bool) (ok : List Bool → Bool) (bs : List Bool) : Bool :=
  !ok bs || bs.all id || (!(Region.ready md ops (L bs)).isEmpty && (Region.ready md ops (L bs)).all fun i => (List.range is.length).any fun k => is[k]? == some i && bs[k]? == some false && (L bs).setIfInBounds i true == L (bs.set k true) && ok (bs.set k true))
theorem count_set : ∀ (bs : List Bool) (k : Nat), bs[k]? = some false → (bs.set k true).count false + 1 = bs.count false
  | [], k, h => by simp at h
  | b :: bs, 0, h => by
    have : b = false := by simpa using h
    subst this
    simp
  | b :: bs, k + 1, h => by
    have ih := count_set bs k (by simpa using h)
    rw [List.set_cons_succ, List.count_cons, List.count_cons]
    omega
theorem count_all : ∀ bs : List Bool, bs.count false = 0 → bs = List.replicate bs.length true
  | [], _ => rfl
  | b :: bs, h => by
    rw [List.count_cons] at h
    cases b
    · simp at h
    · have := count_all bs (by simpa using h)
      rw [List.length_cons, List.replicate_succ, ← this]
/-- a step of the operation k -/
def FreeStep (P : Program) (ops : Array Oper) (Q : Exit → Act → World → Prop) (S : World → Prop) (ok : List Bool → Bool) (is : List Nat) (I : List Bool → Act → World → Prop) (k : Nat) : Prop :=
  ∀ (bs : List Bool) (a : Act) (w : World), bs.length = is.length → bs[k]? = some false → ok (bs.set k true) = true → I bs a w → S w → ∃ i o, is[k]? = some i ∧ ops[i]? = some o ∧
    ∀ K' : Act → World → Prop, Shut (∀ a w, S w → I (bs.set k true) a w → K' a w) → if Region.wanted o (yielded ops a.tmps) = true then Oper.wp P o a w K' Q else K' (a.put o.dst undef) w
theorem wpAnyH_free {is : List Nat} {L : List Bool → Array Bool} (ok : List Bool → Bool) (I : List Bool → Act → World → Prop) {F : Nat}
    (hck : (allB is.length).all (flagsOk md ops is L ok) = true)
    (hstep : ∀ k, k < is.length → FreeStep P ops Q S ok is I k)
    (hend : ∀ a w, I (List.replicate is.length true) a w → S w → wpAnyH P md ops Q S F (L (List.replicate is.length true)) a w) :
    ∀ (n : Nat) (bs : List Bool) (a : Act) (w : World), bs.length = is.length → bs.count false = n → ok bs = true → I bs a w → S w → wpAnyH P md ops Q S (F + n) (L bs) a w
  | 0, bs, a, w, hl, hc, _, hI, hS => by
    have e := count_all bs hc
    rw [hl] at e
    subst e
    exact hend a w hI hS
  | n + 1, bs, a, w, hl, hc, hok, hI, hS => by
    have h1 := List.all_eq_true.1 hck bs (by rw [← hl]; exact mem_allB bs)
    unfold flagsOk at h1
    have hna : bs.all id = false := by
      cases h : bs.all id
      · rfl
      · exfalso
        have h2 := List.all_eq_true.1 h
        have : bs.count false = 0 := List.count_eq_zero.2 (fun hm => by have := h2 _ hm; simp at this)
        omega
    rw [hok, hna, Bool.not_true, Bool.false_or, Bool.false_or] at h1
    obtain ⟨h2, h3⟩ := Bool.and_eq_true_iff.1 h1
    refine wpAnyH_all (rs := Region.ready md ops (L bs)) rfl (by intro e; rw [e] at h2; simp at h2) (fun i hi => ?_)
    obtain ⟨k, hk, h4⟩ := List.any_eq_true.1 (List.all_eq_true.1 h3 i hi)
    obtain ⟨h45, hok2⟩ := Bool.and_eq_true_iff.1 h4
    obtain ⟨h5, h6⟩ := Bool.and_eq_true_iff.1 h45
    obtain ⟨h7, h8⟩ := Bool.and_eq_true_iff.1 h5
    have hki := eq_of_beq h7
    have hkb := eq_of_beq h8
    have hLs := eq_of_beq h6
    obtain ⟨i2, o, e2, ho, hgo⟩ := hstep k (List.mem_range.1 hk) bs a w hl hkb hok2 hI hS
    rw [hki] at e2
    cases e2
    refine wpOp_step ho (fun K' hK => hgo K' (fun a' w' hS' hI' => hK a' w' ⟨hS', ?_⟩))
    have := wpAnyH_free ok I hck hstep hend n (bs.set k true) a' w' (by rw [List.length_set]; exact hl) (by have := count_set bs k hkb; omega) hok2 hI' hS'
    rw [hLs]
    exact this
/-- over a frame that stays, but for what comes up -/
theorem wpAnyH_freeT {is : List Nat} {L : List Bool → Array Bool} (ok : List Bool → Bool) (I : Array Value → List Bool → Act → World → Prop) {F : Nat} {T : Array Value} {w : World}
    (hck : (allB is.length).all (flagsOk md ops is L ok) = true)
    (hstep : ∀ k, k < is.length → FreeStep P ops Q S ok is (I T) k)
    (hend : ∀ a w, I T (List.replicate is.length true) a w → S w → wpAnyH P md ops Q S F (L (List.replicate is.length true)) a w)
    (n : Nat) (bs : List Bool) (hl : bs.length = is.length) (hc : bs.count false = n) (hok : ok bs = true) (hI : I T bs { tmps := T, defers := [] } w) (hS : S w) : wpAnyH P md ops Q S (F + n) (L bs) { tmps := T, defers := [] } w :=
  wpAnyH_free ok (I T) hck hstep hend n bs _ w hl hc hok hI hS
end
end Go.Proofs.Ytfelmkkkaphkpaa
namespace Go.Proofs.Ytfelmkkkaphkpaa
set_option linter.unusedVariables false
set_option linter.unusedSimpArgs false

/-- f, but x at k -/
def upN (f : Nat → Nat) (k x i : Nat) : Nat := if i = k then x else f i
/-- what has come up (flags bs) lies in blocks from z on, the k-th in those from lo k to hi k, no two in one -/
structure Pol (z : Nat) (W : World) (bs : List Bool) (lo hi : Nat → Nat) : Prop where
  rng : ∀ k : Nat, bs[k]? = some true → z ≤ lo k ∧ lo k ≤ hi k ∧ hi k ≤ W.heap.size
  ap : ∀ j k : Nat, j ≠ k → bs[j]? = some true → bs[k]? = some true → hi j ≤ lo k ∨ hi k ≤ lo j
section
variable {z : Nat} {W W' : World} {bs : List Bool} {lo hi : Nat → Nat}
theorem Pol.start (hf : ∀ k : Nat, bs[k]? ≠ some true) : Pol z W bs lo hi := ⟨fun k h => absurd h (hf k), fun j k _ h => absurd h (hf j)⟩
theorem Pol.step (h : Pol z W bs lo hi) (k : Nat) (hs : W.heap.size ≤ W'.heap.size) (hz : z ≤ W.heap.size) : Pol z W' (bs.set k true) (upN lo k W.heap.size) (upN hi k W'.heap.size) := by
  have hb : ∀ j : Nat, j ≠ k → (bs.set k true)[j]? = some true → bs[j]? = some true := fun j e hj => by rwa [List.getElem?_set_ne (fun e2 => e e2.symm)] at hj
  refine ⟨fun j hj => ?_, fun i j hij hi2 hj2 => ?_⟩
  · unfold upN
    by_cases e : j = k
    · rw [if_pos e, if_pos e]; omega
    · rw [if_neg e, if_neg e]
      have := h.rng j (hb j e hj)
      omega
  · unfold upN
    by_cases e1 : i = k
    · rw [if_pos e1, if_pos e1, if_neg (fun e => hij (e1.trans e.symm)), if_neg (fun e => hij (e1.trans e.symm))]
      have := h.rng j (hb j (fun e => hij (e1.trans e.symm)) hj2)
      omega
    · rw [if_neg e1, if_neg e1]
      by_cases e2 : j = k
      · rw [if_pos e2, if_pos e2]
        have := h.rng i (hb i e1 hi2)
        omega
      · rw [if_neg e2, if_neg e2]
        exact h.ap i j hij (hb i e1 hi2) (hb j e2 hj2)
end
theorem bools4 : ∀ bs : List Bool, bs.length = 4 → ∃ b0 b1 b2 b3, bs = [b0, b1, b2, b3]
  | [b0, b1, b2, b3], _ => ⟨b0, b1, b2, b3, rfl⟩
theorem bools5 : ∀ bs : List Bool, bs.length = 5 → ∃ b0 b1 b2 b3 b4, bs = [b0, b1, b2, b3, b4]
  | [b0, b1, b2, b3, b4], _ => ⟨b0, b1, b2, b3, b4, rfl⟩
theorem bools6 : ∀ bs : List Bool, bs.length = 6 → ∃ b0 b1 b2 b3 b4 b5, bs = [b0, b1, b2, b3, b4, b5]
  | [b0, b1, b2, b3, b4, b5], _ => ⟨b0, b1, b2, b3, b4, b5, rfl⟩
theorem bools8 : ∀ bs : List Bool, bs.length = 8 → ∃ b0 b1 b2 b3 b4 b5 b6 b7, bs = [b0, b1, b2, b3, b4, b5, b6, b7]
  | [b0, b1, b2, b3, b4, b5, b6, b7], _ => ⟨b0, b1, b2, b3, b4, b5, b6, b7, rfl⟩
end Go.Proofs.Ytfelmkkkaphkpaa
namespace Go.Proofs.Ytfelmkkkaphkpaa
open Go.RowKit Go.Bw Go.Sort Go.Shelf
set_option linter.unusedVariables false
set_option linter.unusedSimpArgs false

section
variable {w : World} {u x y : Vu} {U X Y : List Int} {a b : Nat} {up unit : Bool}
set_option maxRecDepth 100000 in
set_option maxHeartbeats 8000000 in
theorem Syr2_no0 (hx : Sv w x X) (hy : Sv w y Y) (hu : Sv w u U) {E : Int} (h0 : (alk x y) = false) (he : refE ((alk x y) && (szd u x.len x.len)) [x, y, u] = E) (hn : E ≠ 0) : Calls Try.prog 41 #[.float .f64 a, x.V, y.V, u.V] w (Ans w (.int .i64 E)) := by
  have hft : ((alk x y) && (szd u x.len x.len)) = false := by simp [h0]
  rw [hft] at he
  clear hft
  have HSx := Lib.hid hx
  have HSy := Lib.hid hy
  have HSu := Lib.hid hu
  have hne : (E != 0) = true := by simpa using hn
  have HE := Lib.hid he
  have p0 := fun (W : World) (bz : Below w.heap.size w W) => alike_is (HSx.out.on bz) (HSy.out.on bz)
  simp only [h0] at p0
  clear he hn hx hy hu h0
  have Db0 := Blk.new w [.float .f64 a] 32
  have Dx := Blk.new (w.alloc (.cells #[.float .f64 a] 32)) x.L 30
  replace Db0 := Db0.alloc (.cells x.L.toArray 30)
  simp only [World.size_alloc] at Dx
  have Dy := Blk.new ((w.alloc (.cells #[.float .f64 a] 32)).alloc (.cells x.L.toArray 30)) y.L 30
  replace Db0 := Db0.alloc (.cells y.L.toArray 30)
  replace Dx := Dx.alloc (.cells y.L.toArray 30)
  simp only [World.size_alloc] at Dy
  have Du := Blk.new (((w.alloc (.cells #[.float .f64 a] 32)).alloc (.cells x.L.toArray 30)).alloc (.cells y.L.toArray 30)) u.L 30
  replace Db0 := Db0.alloc (.cells u.L.toArray 30)
  replace Dx := Dx.alloc (.cells u.L.toArray 30)
  replace Dy := Dy.alloc (.cells u.L.toArray 30)
  simp only [World.size_alloc] at Du
  have bz := ((((Below.refl _ w).alloc (Nat.le_refl _) (.cells #[.float .f64 a] 32)).alloc (by simp <;> omega) (.cells x.L.toArray 30)).alloc (by simp <;> omega) (.cells y.L.toArray 30)).alloc (by simp <;> omega) (.cells u.L.toArray 30)
  have hsz0 : ((((w.alloc (.cells #[.float .f64 a] 32)).alloc (.cells x.L.toArray 30)).alloc (.cells y.L.toArray 30)).alloc (.cells u.L.toArray 30)).heap.size = w.heap.size + 4 := by simp
  go_enter Try.func41, Try.ntmps41
  go_wp2_with fail
  replace Db0 := Db0.drew
  replace Dx := Dx.drew
  replace Dy := Dy.drew
  replace Du := Du.drew
  replace bz := bz.drew
  refine wp_region_held_drew (S := fun w9 : World => Vbx w9 (w.heap.size + 1) x ∧ Vbx w9 (w.heap.size + 2) y ∧ Vbx w9 (w.heap.size + 3) u) (by kernel_rfl) ⟨Dx, Dy, Du⟩ (fun hS => ?_)
  generalize ((((w.alloc (.cells #[.float .f64 a] 32)).alloc (.cells x.L.toArray 30)).alloc (.cells y.L.toArray 30)).alloc (.cells u.L.toArray 30)).drew = wd at hS Db0 Dx Dy Du  bz ⊢
  refine wpAnyH_take (i := 0) (v := ?v0_60) rfl (by kernel_rfl) (by kernel_rfl) (by kernel_rfl) (fun _ _ _ h => h) (Or.inl ⟨by rfl, ?hy0_60⟩) (by assumption) ?rest0_60
  case hy0_60 => (intro w9 hSw; obtain ⟨m0, m1, m2⟩ := hSw; refine (ld_v (by rfl) (by kernel_rfl) m0).trans ?_; with_reducible rfl)
  try simp only [Act.put, List.setIfInBounds_toArray, List.set_cons_zero, List.set_cons_succ, List.getElem_toArray, List.getElem_cons_zero, List.getElem_cons_succ]
  refine wpAnyH_take (i := 1) (v := ?v1_61) rfl (by kernel_rfl) (by kernel_rfl) (by kernel_rfl) (fun _ _ _ h => h) (Or.inl ⟨by rfl, ?hy1_61⟩) (by assumption) ?rest1_61
  case hy1_61 => (intro w9 hSw; obtain ⟨m0, m1, m2⟩ := hSw; refine (ld_v (by rfl) (by kernel_rfl) m1).trans ?_; with_reducible rfl)
  try simp only [Act.put, List.setIfInBounds_toArray, List.set_cons_zero, List.set_cons_succ, List.getElem_toArray, List.getElem_cons_zero, List.getElem_cons_succ]
  refine wpAnyH_ready (rs := [2]) (by kernel_rfl) (by simp) ?_
  refine AllReadyH.cons rfl (fun K hK => ?_) AllReadyH.nil
  go_simp
  with_reducible refine (p0 _ bz).mono ?_
  rintro e w1 ⟨rfl, hb⟩
  replace Db0 := Db0.on hb
  replace Dx := Dx.on hb
  replace Dy := Dy.on hb
  replace Du := Du.on hb
  replace bz := bz.trans (hb.mono bz.size)
  clear hb
  refine hK.out _ _ ⟨Dx, Dy, Du⟩ (fun hH => ?_)
  clear hK K hS
  have hS := hH
  clear hH
  try simp only [Act.put, List.setIfInBounds_toArray, List.set_cons_zero, List.set_cons_succ, List.getElem_toArray, List.getElem_cons_zero, List.getElem_cons_succ]
  refine wpAnyH_take (i := 3) (v := ?v3_62) rfl (by kernel_rfl) (by kernel_rfl) (by kernel_rfl) (fun _ _ _ h => h) (Or.inl ⟨by rfl, ?hy3_62⟩) (by assumption) ?rest3_62
  case hy3_62 => (intro w9 hSw; clear hSw; go_simp; try with_reducible rfl)
  try simp only [Act.put, List.setIfInBounds_toArray, List.set_cons_zero, List.set_cons_succ, List.getElem_toArray, List.getElem_cons_zero, List.getElem_cons_succ]
  refine wpAnyH_take (i := 4) (v := undef) rfl (by kernel_rfl) (by kernel_rfl) (by kernel_rfl) (fun _ _ _ h => h) (Or.inr ⟨by rfl, rfl⟩) (by assumption) ?_
  try simp only [Act.put, List.setIfInBounds_toArray, List.set_cons_zero, List.set_cons_succ, List.getElem_toArray, List.getElem_cons_zero, List.getElem_cons_succ]
  refine wpAnyH_take (i := 5) (v := undef) rfl (by kernel_rfl) (by kernel_rfl) (by kernel_rfl) (fun _ _ _ h => h) (Or.inr ⟨by rfl, rfl⟩) (by assumption) ?_
  try simp only [Act.put, List.setIfInBounds_toArray, List.set_cons_zero, List.set_cons_succ, List.getElem_toArray, List.getElem_cons_zero, List.getElem_cons_succ]
  refine wpAnyH_take (i := 6) (v := undef) rfl (by kernel_rfl) (by kernel_rfl) (by kernel_rfl) (fun _ _ _ h => h) (Or.inr ⟨by rfl, rfl⟩) (by assumption) ?_
  try simp only [Act.put, List.setIfInBounds_toArray, List.set_cons_zero, List.set_cons_succ, List.getElem_toArray, List.getElem_cons_zero, List.getElem_cons_succ]
  refine wpAnyH_take (i := 7) (v := undef) rfl (by kernel_rfl) (by kernel_rfl) (by kernel_rfl) (fun _ _ _ h => h) (Or.inr ⟨by rfl, rfl⟩) (by assumption) ?_
  try simp only [Act.put, List.setIfInBounds_toArray, List.set_cons_zero, List.set_cons_succ, List.getElem_toArray, List.getElem_cons_zero, List.getElem_cons_succ]
  refine wpAnyH_take (i := 8) (v := undef) rfl (by kernel_rfl) (by kernel_rfl) (by kernel_rfl) (fun _ _ _ h => h) (Or.inr ⟨by rfl, rfl⟩) (by assumption) ?_
  try simp only [Act.put, List.setIfInBounds_toArray, List.set_cons_zero, List.set_cons_succ, List.getElem_toArray, List.getElem_cons_zero, List.getElem_cons_succ]
  refine wpAnyH_take (i := 9) (v := undef) rfl (by kernel_rfl) (by kernel_rfl) (by kernel_rfl) (fun _ _ _ h => h) (Or.inr ⟨by rfl, rfl⟩) (by assumption) ?_
  try simp only [Act.put, List.setIfInBounds_toArray, List.set_cons_zero, List.set_cons_succ, List.getElem_toArray, List.getElem_cons_zero, List.getElem_cons_succ]
  refine wpAnyH_take (i := 10) (v := ?v10_63) rfl (by kernel_rfl) (by kernel_rfl) (by kernel_rfl) (fun _ _ _ h => h) (Or.inl ⟨by rfl, ?hy10_63⟩) (by assumption) ?rest10_63
  case hy10_63 => (intro w9 hSw; clear hSw; go_simp; try with_reducible rfl)
  try simp only [Act.put, List.setIfInBounds_toArray, List.set_cons_zero, List.set_cons_succ, List.getElem_toArray, List.getElem_cons_zero, List.getElem_cons_succ]
  refine wpAnyH_take (i := 11) (v := ?v11_64) rfl (by kernel_rfl) (by kernel_rfl) (by kernel_rfl) (fun _ _ _ h => h) (Or.inl ⟨by rfl, ?hy11_64⟩) (by assumption) ?rest11_64
  case hy11_64 => (intro w9 hSw; clear hSw; go_simp; try with_reducible rfl)
  try simp only [Act.put, List.setIfInBounds_toArray, List.set_cons_zero, List.set_cons_succ, List.getElem_toArray, List.getElem_cons_zero, List.getElem_cons_succ]
  refine wpAnyH_done (by kernel_rfl) ?_ _
  obtain ⟨v0_0, v0_1, v0_2, v0_3, v0_4, v0_5, v0_6, v0_7, v0_8⟩ := Vbx.cells Dx
  obtain ⟨v1_0, v1_1, v1_2, v1_3, v1_4, v1_5, v1_6, v1_7, v1_8⟩ := Vbx.cells Dy
  obtain ⟨v2_0, v2_1, v2_2, v2_3, v2_4, v2_5, v2_6, v2_7, v2_8⟩ := Vbx.cells Du
  have hL : VLs (w1.alloc (.cells #[.pointer x.p, .int .i64 x.f0, .int .i64 x.f1, .int .i64 x.d0, .int .i64 x.d1, .int .i64 x.r0, .int .i64 x.r1, .int .i64 x.R, .int .i64 x.C, .pointer y.p, .int .i64 y.f0, .int .i64 y.f1, .int .i64 y.d0, .int .i64 y.d1, .int .i64 y.r0, .int .i64 y.r1, .int .i64 y.R, .int .i64 y.C, .pointer u.p, .int .i64 u.f0, .int .i64 u.f1, .int .i64 u.d0, .int .i64 u.d1, .int .i64 u.r0, .int .i64 u.r1, .int .i64 u.R, .int .i64 u.C] 30)) ⟨w1.heap.size, 0, none⟩ [x, y, u] := VLs.of (Blk.new w1 ([x, y, u].flatMap Vu.L) 30)
  replace Db0 := Db0.on ((Below.refl _ _).alloc (Nat.le_refl _) ((.cells #[.pointer x.p, .int .i64 x.f0, .int .i64 x.f1, .int .i64 x.d0, .int .i64 x.d1, .int .i64 x.r0, .int .i64 x.r1, .int .i64 x.R, .int .i64 x.C, .pointer y.p, .int .i64 y.f0, .int .i64 y.f1, .int .i64 y.d0, .int .i64 y.d1, .int .i64 y.r0, .int .i64 y.r1, .int .i64 y.R, .int .i64 y.C, .pointer u.p, .int .i64 u.f0, .int .i64 u.f1, .int .i64 u.d0, .int .i64 u.d1, .int .i64 u.r0, .int .i64 u.r1, .int .i64 u.R, .int .i64 u.C] 30)))
  replace Dx := Dx.on ((Below.refl _ _).alloc (Nat.le_refl _) ((.cells #[.pointer x.p, .int .i64 x.f0, .int .i64 x.f1, .int .i64 x.d0, .int .i64 x.d1, .int .i64 x.r0, .int .i64 x.r1, .int .i64 x.R, .int .i64 x.C, .pointer y.p, .int .i64 y.f0, .int .i64 y.f1, .int .i64 y.d0, .int .i64 y.d1, .int .i64 y.r0, .int .i64 y.r1, .int .i64 y.R, .int .i64 y.C, .pointer u.p, .int .i64 u.f0, .int .i64 u.f1, .int .i64 u.d0, .int .i64 u.d1, .int .i64 u.r0, .int .i64 u.r1, .int .i64 u.R, .int .i64 u.C] 30)))
  replace Dy := Dy.on ((Below.refl _ _).alloc (Nat.le_refl _) ((.cells #[.pointer x.p, .int .i64 x.f0, .int .i64 x.f1, .int .i64 x.d0, .int .i64 x.d1, .int .i64 x.r0, .int .i64 x.r1, .int .i64 x.R, .int .i64 x.C, .pointer y.p, .int .i64 y.f0, .int .i64 y.f1, .int .i64 y.d0, .int .i64 y.d1, .int .i64 y.r0, .int .i64 y.r1, .int .i64 y.R, .int .i64 y.C, .pointer u.p, .int .i64 u.f0, .int .i64 u.f1, .int .i64 u.d0, .int .i64 u.d1, .int .i64 u.r0, .int .i64 u.r1, .int .i64 u.R, .int .i64 u.C] 30)))
  replace Du := Du.on ((Below.refl _ _).alloc (Nat.le_refl _) ((.cells #[.pointer x.p, .int .i64 x.f0, .int .i64 x.f1, .int .i64 x.d0, .int .i64 x.d1, .int .i64 x.r0, .int .i64 x.r1, .int .i64 x.R, .int .i64 x.C, .pointer y.p, .int .i64 y.f0, .int .i64 y.f1, .int .i64 y.d0, .int .i64 y.d1, .int .i64 y.r0, .int .i64 y.r1, .int .i64 y.R, .int .i64 y.C, .pointer u.p, .int .i64 u.f0, .int .i64 u.f1, .int .i64 u.d0, .int .i64 u.d1, .int .i64 u.r0, .int .i64 u.r1, .int .i64 u.R, .int .i64 u.C] 30)))
  replace bz := bz.alloc bz.size ((.cells #[.pointer x.p, .int .i64 x.f0, .int .i64 x.f1, .int .i64 x.d0, .int .i64 x.d1, .int .i64 x.r0, .int .i64 x.r1, .int .i64 x.R, .int .i64 x.C, .pointer y.p, .int .i64 y.f0, .int .i64 y.f1, .int .i64 y.d0, .int .i64 y.d1, .int .i64 y.r0, .int .i64 y.r1, .int .i64 y.R, .int .i64 y.C, .pointer u.p, .int .i64 u.f0, .int .i64 u.f1, .int .i64 u.d0, .int .i64 u.d1, .int .i64 u.r0, .int .i64 u.r1, .int .i64 u.R, .int .i64 u.C] 30))
  go_wp2_with fail
  with_reducible refine (refused_is false (vs := [x, y, u]) (n := 3) rfl (by omega) hL (by intro z hz; simp only [List.mem_cons, List.mem_nil_iff, or_false] at hz; rcases hz with rfl | rfl | rfl; exact ⟨_, HSx.out.on bz⟩; exact ⟨_, HSy.out.on bz⟩; exact ⟨_, HSu.out.on bz⟩)).mono ?_
  rintro e w2 ⟨rfl, hb⟩
  clear v0_0 v0_1 v0_2 v0_3 v0_4 v0_5 v0_6 v0_7 v0_8 v1_0 v1_1 v1_2 v1_3 v1_4 v1_5 v1_6 v1_7 v1_8 v2_0 v2_1 v2_2 v2_3 v2_4 v2_5 v2_6 v2_7 v2_8
  replace Db0 := Db0.on hb
  replace Dx := Dx.on hb
  replace Dy := Dy.on hb
  replace Du := Du.on hb
  replace hL := hL.on hb
  replace bz := bz.trans (hb.mono bz.size)
  clear hb hL
  rw [HE.out]
  go_wp2_with fail
  go_ret
  exact ⟨rfl, bz⟩
set_option maxRecDepth 100000 in
set_option maxHeartbeats 8000000 in
theorem Syr2_no1 (hx : Sv w x X) (hy : Sv w y Y) (hu : Sv w u U) {E : Int} (h0 : (alk x y) = true) (he : refE ((alk x y) && (szd u x.len x.len)) [x, y, u] = E) (hn : E ≠ 0) : Calls Try.prog 41 #[.float .f64 a, x.V, y.V, u.V] w (Ans w (.int .i64 E)) := by
  have hft : ((alk x y) && (szd u x.len x.len)) = (szd u x.len x.len) := by simp [h0]
  rw [hft] at he
  clear hft
  obtain ⟨FV, hFV⟩ : ∃ z, (szd u x.len x.len) = z := ⟨_, rfl⟩
  rw [hFV] at he
  have HSx := Lib.hid hx
  have HSy := Lib.hid hy
  have HSu := Lib.hid hu
  have hne : (E != 0) = true := by simpa using hn
  have HE := Lib.hid he
  have p0 := fun (W : World) (bz : Below w.heap.size w W) => alike_is (HSx.out.on bz) (HSy.out.on bz)
  simp only [h0] at p0
  have p3 := fun (W : World) (bz : Below w.heap.size w W) => sized_is u x.len x.len W
  simp only [hFV] at p3
  clear he hn hx hy hu h0 hFV
  have Db0 := Blk.new w [.float .f64 a] 32
  have Dx := Blk.new (w.alloc (.cells #[.float .f64 a] 32)) x.L 30
  replace Db0 := Db0.alloc (.cells x.L.toArray 30)
  simp only [World.size_alloc] at Dx
  have Dy := Blk.new ((w.alloc (.cells #[.float .f64 a] 32)).alloc (.cells x.L.toArray 30)) y.L 30
  replace Db0 := Db0.alloc (.cells y.L.toArray 30)
  replace Dx := Dx.alloc (.cells y.L.toArray 30)
  simp only [World.size_alloc] at Dy
  have Du := Blk.new (((w.alloc (.cells #[.float .f64 a] 32)).alloc (.cells x.L.toArray 30)).alloc (.cells y.L.toArray 30)) u.L 30
  replace Db0 := Db0.alloc (.cells u.L.toArray 30)
  replace Dx := Dx.alloc (.cells u.L.toArray 30)
  replace Dy := Dy.alloc (.cells u.L.toArray 30)
  simp only [World.size_alloc] at Du
  have bz := ((((Below.refl _ w).alloc (Nat.le_refl _) (.cells #[.float .f64 a] 32)).alloc (by simp <;> omega) (.cells x.L.toArray 30)).alloc (by simp <;> omega) (.cells y.L.toArray 30)).alloc (by simp <;> omega) (.cells u.L.toArray 30)
  have hsz0 : ((((w.alloc (.cells #[.float .f64 a] 32)).alloc (.cells x.L.toArray 30)).alloc (.cells y.L.toArray 30)).alloc (.cells u.L.toArray 30)).heap.size = w.heap.size + 4 := by simp
  go_enter Try.func41, Try.ntmps41
  go_wp2_with fail
  replace Db0 := Db0.drew
  replace Dx := Dx.drew
  replace Dy := Dy.drew
  replace Du := Du.drew
  replace bz := bz.drew
  refine wp_region_held_drew (S := fun w9 : World => Vbx w9 (w.heap.size + 1) x ∧ Vbx w9 (w.heap.size + 2) y ∧ Vbx w9 (w.heap.size + 3) u) (by kernel_rfl) ⟨Dx, Dy, Du⟩ (fun hS => ?_)
  generalize ((((w.alloc (.cells #[.float .f64 a] 32)).alloc (.cells x.L.toArray 30)).alloc (.cells y.L.toArray 30)).alloc (.cells u.L.toArray 30)).drew = wd at hS Db0 Dx Dy Du  bz ⊢
  refine wpAnyH_take (i := 0) (v := ?v0_65) rfl (by kernel_rfl) (by kernel_rfl) (by kernel_rfl) (fun _ _ _ h => h) (Or.inl ⟨by rfl, ?hy0_65⟩) (by assumption) ?rest0_65
  case hy0_65 => (intro w9 hSw; obtain ⟨m0, m1, m2⟩ := hSw; refine (ld_v (by rfl) (by kernel_rfl) m0).trans ?_; with_reducible rfl)
  try simp only [Act.put, List.setIfInBounds_toArray, List.set_cons_zero, List.set_cons_succ, List.getElem_toArray, List.getElem_cons_zero, List.getElem_cons_succ]
  refine wpAnyH_take (i := 1) (v := ?v1_66) rfl (by kernel_rfl) (by kernel_rfl) (by kernel_rfl) (fun _ _ _ h => h) (Or.inl ⟨by rfl, ?hy1_66⟩) (by assumption) ?rest1_66
  case hy1_66 => (intro w9 hSw; obtain ⟨m0, m1, m2⟩ := hSw; refine (ld_v (by rfl) (by kernel_rfl) m1).trans ?_; with_reducible rfl)
  try simp only [Act.put, List.setIfInBounds_toArray, List.set_cons_zero, List.set_cons_succ, List.getElem_toArray, List.getElem_cons_zero, List.getElem_cons_succ]
  refine wpAnyH_ready (rs := [2]) (by kernel_rfl) (by simp) ?_
  refine AllReadyH.cons rfl (fun K hK => ?_) AllReadyH.nil
  go_simp
  with_reducible refine (p0 _ bz).mono ?_
  rintro e w1 ⟨rfl, hb⟩
  replace Db0 := Db0.on hb
  replace Dx := Dx.on hb
  replace Dy := Dy.on hb
  replace Du := Du.on hb
  replace bz := bz.trans (hb.mono bz.size)
  clear hb
  refine hK.out _ _ ⟨Dx, Dy, Du⟩ (fun hH => ?_)
  clear hK K hS
  have hS := hH
  clear hH
  try simp only [Act.put, List.setIfInBounds_toArray, List.set_cons_zero, List.set_cons_succ, List.getElem_toArray, List.getElem_cons_zero, List.getElem_cons_succ]
  refine wpAnyH_take (i := 3) (v := ?v3_67) rfl (by kernel_rfl) (by kernel_rfl) (by kernel_rfl) (fun _ _ _ h => h) (Or.inl ⟨by rfl, ?hy3_67⟩) (by assumption) ?rest3_67
  case hy3_67 => (intro w9 hSw; clear hSw; go_simp; try with_reducible rfl)
  try simp only [Act.put, List.setIfInBounds_toArray, List.set_cons_zero, List.set_cons_succ, List.getElem_toArray, List.getElem_cons_zero, List.getElem_cons_succ]
  refine wpAnyH_take (i := 4) (v := ?v4_68) rfl (by kernel_rfl) (by kernel_rfl) (by kernel_rfl) (fun _ _ _ h => h) (Or.inl ⟨by rfl, ?hy4_68⟩) (by assumption) ?rest4_68
  case hy4_68 => (intro w9 hSw; obtain ⟨m0, m1, m2⟩ := hSw; refine (ld_v (by rfl) (by kernel_rfl) m2).trans ?_; with_reducible rfl)
  try simp only [Act.put, List.setIfInBounds_toArray, List.set_cons_zero, List.set_cons_succ, List.getElem_toArray, List.getElem_cons_zero, List.getElem_cons_succ]
  refine wpAnyH_take (i := 5) (v := ?v5_69) rfl (by kernel_rfl) (by kernel_rfl) (by kernel_rfl) (fun _ _ _ h => h) (Or.inl ⟨by rfl, ?hy5_69⟩) (by assumption) ?rest5_69
  case hy5_69 => (intro w9 hSw; obtain ⟨m0, m1, m2⟩ := hSw; refine (ld_v (by rfl) (by kernel_rfl) m0).trans ?_; with_reducible rfl)
  try simp only [Act.put, List.setIfInBounds_toArray, List.set_cons_zero, List.set_cons_succ, List.getElem_toArray, List.getElem_cons_zero, List.getElem_cons_succ]
  refine wpAnyH_take (i := 7) (v := ?v7_70) rfl (by kernel_rfl) (by kernel_rfl) (by kernel_rfl) (fun _ _ _ h => h) (Or.inl ⟨by rfl, ?hy7_70⟩) (by assumption) ?rest7_70
  case hy7_70 => (intro w9 hSw; obtain ⟨m0, m1, m2⟩ := hSw; refine (ld_v (by rfl) (by kernel_rfl) m0).trans ?_; with_reducible rfl)
  try simp only [Act.put, List.setIfInBounds_toArray, List.set_cons_zero, List.set_cons_succ, List.getElem_toArray, List.getElem_cons_zero, List.getElem_cons_succ]
  refine wpAnyH_ready (rs := [6]) (by kernel_rfl) (by simp) ?_
  refine AllReadyH.cons rfl (fun K hK => ?_) AllReadyH.nil
  go_simp
  with_reducible refine (svLen (HSx.out.on bz)).mono ?_
  rintro e w2 ⟨rfl, hb⟩
  replace Db0 := Db0.on hb
  replace Dx := Dx.on hb
  replace Dy := Dy.on hb
  replace Du := Du.on hb
  replace bz := bz.trans (hb.mono bz.size)
  clear hb
  refine hK.out _ _ ⟨Dx, Dy, Du⟩ (fun hH => ?_)
  clear hK K hS
  have hS := hH
  clear hH
  try simp only [Act.put, List.setIfInBounds_toArray, List.set_cons_zero, List.set_cons_succ, List.getElem_toArray, List.getElem_cons_zero, List.getElem_cons_succ]
  refine wpAnyH_ready (rs := [8]) (by kernel_rfl) (by simp) ?_
  refine AllReadyH.cons rfl (fun K hK => ?_) AllReadyH.nil
  go_simp
  with_reducible refine (svLen (HSx.out.on bz)).mono ?_
  rintro e w3 ⟨rfl, hb⟩
  replace Db0 := Db0.on hb
  replace Dx := Dx.on hb
  replace Dy := Dy.on hb
  replace Du := Du.on hb
  replace bz := bz.trans (hb.mono bz.size)
  clear hb
  refine hK.out _ _ ⟨Dx, Dy, Du⟩ (fun hH => ?_)
  clear hK K hS
  have hS := hH
  clear hH
  try simp only [Act.put, List.setIfInBounds_toArray, List.set_cons_zero, List.set_cons_succ, List.getElem_toArray, List.getElem_cons_zero, List.getElem_cons_succ]
  refine wpAnyH_ready (rs := [9]) (by kernel_rfl) (by simp) ?_
  refine AllReadyH.cons rfl (fun K hK => ?_) AllReadyH.nil
  go_simp
  with_reducible refine (p3 _ bz).mono ?_
  rintro e w4 ⟨rfl, hb⟩
  replace Db0 := Db0.on hb
  replace Dx := Dx.on hb
  replace Dy := Dy.on hb
  replace Du := Du.on hb
  replace bz := bz.trans (hb.mono bz.size)
  clear hb
  refine hK.out _ _ ⟨Dx, Dy, Du⟩ (fun hH => ?_)
  clear hK K hS
  have hS := hH
  clear hH
  try simp only [Act.put, List.setIfInBounds_toArray, List.set_cons_zero, List.set_cons_succ, List.getElem_toArray, List.getElem_cons_zero, List.getElem_cons_succ]
  refine wpAnyH_take (i := 10) (v := ?v10_71) rfl (by kernel_rfl) (by kernel_rfl) (by kernel_rfl) (fun _ _ _ h => h) (Or.inl ⟨by rfl, ?hy10_71⟩) (by assumption) ?rest10_71
  case hy10_71 => (intro w9 hSw; clear hSw; go_simp; try with_reducible rfl)
  try simp only [Act.put, List.setIfInBounds_toArray, List.set_cons_zero, List.set_cons_succ, List.getElem_toArray, List.getElem_cons_zero, List.getElem_cons_succ]
  refine wpAnyH_take (i := 11) (v := ?v11_72) rfl (by kernel_rfl) (by kernel_rfl) (by kernel_rfl) (fun _ _ _ h => h) (Or.inl ⟨by rfl, ?hy11_72⟩) (by assumption) ?rest11_72
  case hy11_72 => (intro w9 hSw; clear hSw; go_simp; try with_reducible rfl)
  try simp only [Act.put, List.setIfInBounds_toArray, List.set_cons_zero, List.set_cons_succ, List.getElem_toArray, List.getElem_cons_zero, List.getElem_cons_succ]
  refine wpAnyH_done (by kernel_rfl) ?_ _
  obtain ⟨v0_0, v0_1, v0_2, v0_3, v0_4, v0_5, v0_6, v0_7, v0_8⟩ := Vbx.cells Dx
  obtain ⟨v1_0, v1_1, v1_2, v1_3, v1_4, v1_5, v1_6, v1_7, v1_8⟩ := Vbx.cells Dy
  obtain ⟨v2_0, v2_1, v2_2, v2_3, v2_4, v2_5, v2_6, v2_7, v2_8⟩ := Vbx.cells Du
  have hL : VLs (w4.alloc (.cells #[.pointer x.p, .int .i64 x.f0, .int .i64 x.f1, .int .i64 x.d0, .int .i64 x.d1, .int .i64 x.r0, .int .i64 x.r1, .int .i64 x.R, .int .i64 x.C, .pointer y.p, .int .i64 y.f0, .int .i64 y.f1, .int .i64 y.d0, .int .i64 y.d1, .int .i64 y.r0, .int .i64 y.r1, .int .i64 y.R, .int .i64 y.C, .pointer u.p, .int .i64 u.f0, .int .i64 u.f1, .int .i64 u.d0, .int .i64 u.d1, .int .i64 u.r0, .int .i64 u.r1, .int .i64 u.R, .int .i64 u.C] 30)) ⟨w4.heap.size, 0, none⟩ [x, y, u] := VLs.of (Blk.new w4 ([x, y, u].flatMap Vu.L) 30)
  replace Db0 := Db0.on ((Below.refl _ _).alloc (Nat.le_refl _) ((.cells #[.pointer x.p, .int .i64 x.f0, .int .i64 x.f1, .int .i64 x.d0, .int .i64 x.d1, .int .i64 x.r0, .int .i64 x.r1, .int .i64 x.R, .int .i64 x.C, .pointer y.p, .int .i64 y.f0, .int .i64 y.f1, .int .i64 y.d0, .int .i64 y.d1, .int .i64 y.r0, .int .i64 y.r1, .int .i64 y.R, .int .i64 y.C, .pointer u.p, .int .i64 u.f0, .int .i64 u.f1, .int .i64 u.d0, .int .i64 u.d1, .int .i64 u.r0, .int .i64 u.r1, .int .i64 u.R, .int .i64 u.C] 30)))
  replace Dx := Dx.on ((Below.refl _ _).alloc (Nat.le_refl _) ((.cells #[.pointer x.p, .int .i64 x.f0, .int .i64 x.f1, .int .i64 x.d0, .int .i64 x.d1, .int .i64 x.r0, .int .i64 x.r1, .int .i64 x.R, .int .i64 x.C, .pointer y.p, .int .i64 y.f0, .int .i64 y.f1, .int .i64 y.d0, .int .i64 y.d1, .int .i64 y.r0, .int .i64 y.r1, .int .i64 y.R, .int .i64 y.C, .pointer u.p, .int .i64 u.f0, .int .i64 u.f1, .int .i64 u.d0, .int .i64 u.d1, .int .i64 u.r0, .int .i64 u.r1, .int .i64 u.R, .int .i64 u.C] 30)))
  replace Dy := Dy.on ((Below.refl _ _).alloc (Nat.le_refl _) ((.cells #[.pointer x.p, .int .i64 x.f0, .int .i64 x.f1, .int .i64 x.d0, .int .i64 x.d1, .int .i64 x.r0, .int .i64 x.r1, .int .i64 x.R, .int .i64 x.C, .pointer y.p, .int .i64 y.f0, .int .i64 y.f1, .int .i64 y.d0, .int .i64 y.d1, .int .i64 y.r0, .int .i64 y.r1, .int .i64 y.R, .int .i64 y.C, .pointer u.p, .int .i64 u.f0, .int .i64 u.f1, .int .i64 u.d0, .int .i64 u.d1, .int .i64 u.r0, .int .i64 u.r1, .int .i64 u.R, .int .i64 u.C] 30)))
  replace Du := Du.on ((Below.refl _ _).alloc (Nat.le_refl _) ((.cells #[.pointer x.p, .int .i64 x.f0, .int .i64 x.f1, .int .i64 x.d0, .int .i64 x.d1, .int .i64 x.r0, .int .i64 x.r1, .int .i64 x.R, .int .i64 x.C, .pointer y.p, .int .i64 y.f0, .int .i64 y.f1, .int .i64 y.d0, .int .i64 y.d1, .int .i64 y.r0, .int .i64 y.r1, .int .i64 y.R, .int .i64 y.C, .pointer u.p, .int .i64 u.f0, .int .i64 u.f1, .int .i64 u.d0, .int .i64 u.d1, .int .i64 u.r0, .int .i64 u.r1, .int .i64 u.R, .int .i64 u.C] 30)))
  replace bz := bz.alloc bz.size ((.cells #[.pointer x.p, .int .i64 x.f0, .int .i64 x.f1, .int .i64 x.d0, .int .i64 x.d1, .int .i64 x.r0, .int .i64 x.r1, .int .i64 x.R, .int .i64 x.C, .pointer y.p, .int .i64 y.f0, .int .i64 y.f1, .int .i64 y.d0, .int .i64 y.d1, .int .i64 y.r0, .int .i64 y.r1, .int .i64 y.R, .int .i64 y.C, .pointer u.p, .int .i64 u.f0, .int .i64 u.f1, .int .i64 u.d0, .int .i64 u.d1, .int .i64 u.r0, .int .i64 u.r1, .int .i64 u.R, .int .i64 u.C] 30))
  go_wp2_with fail
  with_reducible refine (refused_is FV (vs := [x, y, u]) (n := 3) rfl (by omega) hL (by intro z hz; simp only [List.mem_cons, List.mem_nil_iff, or_false] at hz; rcases hz with rfl | rfl | rfl; exact ⟨_, HSx.out.on bz⟩; exact ⟨_, HSy.out.on bz⟩; exact ⟨_, HSu.out.on bz⟩)).mono ?_
  rintro e w5 ⟨rfl, hb⟩
  clear v0_0 v0_1 v0_2 v0_3 v0_4 v0_5 v0_6 v0_7 v0_8 v1_0 v1_1 v1_2 v1_3 v1_4 v1_5 v1_6 v1_7 v1_8 v2_0 v2_1 v2_2 v2_3 v2_4 v2_5 v2_6 v2_7 v2_8
  replace Db0 := Db0.on hb
  replace Dx := Dx.on hb
  replace Dy := Dy.on hb
  replace Du := Du.on hb
  replace hL := hL.on hb
  replace bz := bz.trans (hb.mono bz.size)
  clear hb hL
  rw [HE.out]
  go_wp2_with fail
  go_ret
  exact ⟨rfl, bz⟩
theorem Syr2_no (hx : Sv w x X) (hy : Sv w y Y) (hu : Sv w u U) {E : Int} (he : refE ((alk x y) && (szd u x.len x.len)) [x, y, u] = E) (hn : E ≠ 0) : Calls Try.prog 41 #[.float .f64 a, x.V, y.V, u.V] w (Ans w (.int .i64 E)) := by
  cases h0 : (alk x y)
  · exact Syr2_no0 hx hy hu h0 he hn
  · exact Syr2_no1 hx hy hu h0 he hn
end
end Go.Proofs.Ytfelmkkkaphkpaa
namespace Go.Proofs.Ytfelmkkkaphkpaa
open Go.RowKit Go.Bw Go.Sort Go.Shelf
set_option linter.unusedVariables false
set_option linter.unusedSimpArgs false

theorem run_store_fn {P : Program} {w : World} {a : Addr} {m : Mode} (fn : Fn) (first captured : Array Value) : (store a (.func fn first captured) m).run P w = stored P w a (.func fn first captured) m := run_store P w a _ m rfl
attribute [local go_sem] run_store_fn Oper.semAt_some
/-- a list of floats, in blocks from lo to hi -/
def CF (W : World) (lo hi : Nat) (X : List Int) (v : Value) : Prop := ∃ A c, v = .slice A X.length c ∧ OwnF W lo A c X ∧ ∀ a, A = some a → a.block < hi
theorem CF.on {W W' : World} {lo hi : Nat} {X : List Int} {v : Value} (h : CF W lo hi X v) (hb : Below W.heap.size W W') : CF W' lo hi X v := by
  obtain ⟨A, c, e, ho, h3⟩ := h
  exact ⟨A, c, e, ho.on_ hb, h3⟩
/-- a box of one cell -/
def CP (W : World) (lo hi : Nat) (o v : Value) : Prop := v = .pointer (some ⟨lo, 0, none⟩) ∧ Blk W lo [o] ∧ lo < hi
theorem CP.on {W W' : World} {lo hi : Nat} {o v : Value} (h : CP W lo hi o v) (hb : Below W.heap.size W W') : CP W' lo hi o v := ⟨h.1, h.2.1.on hb, h.2.2⟩
theorem set1_grown (W : World) (b : Nat) (x : Value) : W.grownBy (W.setCell ⟨b, 0, none⟩ x) (some b) := setb_grown (World.grownBy.refl W _) 0 x
/-- k pairs of a lower half -/
def PL (k : Nat) : Nat → Nat → Bool := fun a b => decide (b ≤ a ∧ lwT a + b < k)
theorem PL_zero (a b : Nat) : PL 0 a b = false := by unfold PL; simp
theorem PL_next {k i j : Nat} (hi : (tr k).1 = i) (hj : (tr k).2 = j) (a b : Nat) : PL (k + 1) a b = (PL k a b || decide (a = i ∧ b = j)) := by
  unfold PL
  rw [← Bool.decide_or, decide_eq_decide]
  have hn := tr_num k
  rw [hi, hj] at hn
  constructor
  · rintro ⟨h1, h2⟩
    by_cases h3 : lwT a + b < k
    · exact .inl ⟨h1, h3⟩
    · obtain ⟨e1, e2⟩ := tr_inj h1 (show lwT a + b = k by omega)
      exact .inr ⟨e1.trans hi, e2.trans hj⟩
  · rintro (⟨h1, h2⟩ | ⟨rfl, rfl⟩)
    · exact ⟨h1, by omega⟩
    · exact ⟨hn.1, by omega⟩
theorem PL_all {m a b : Nat} (ha : a < m) (hb : b < m) : PL (lwT m) a b = decide (b ≤ a) := by
  unfold PL
  rw [decide_eq_decide]
  exact ⟨fun h => h.1, fun h => ⟨h, lwT_lt ha h⟩⟩
theorem PL_not {k i j : Nat} (hi : (tr k).1 = i) (hj : (tr k).2 = j) : PL k i j = false := by
  unfold PL
  have hn := tr_num k
  rw [hi, hj] at hn
  simp
  omega
theorem alk_parts2 {x y : Vu} (h : alk x y = true) : x.vec = true ∧ y.vec = true ∧ x.len = y.len := by
  unfold alk at h
  simp only [Bool.and_eq_true, beq_iff_eq] at h
  exact ⟨h.1.1, h.1.2, h.2⟩
end Go.Proofs.Ytfelmkkkaphkpaa
namespace Go.Proofs.Ytfelmkkkaphkpaa
open Go.RowKit Go.Bw Go.Sort Go.Shelf
set_option linter.unusedVariables false
set_option linter.unusedSimpArgs false

attribute [local go_sem] run_store_fn Oper.semAt_some
section
variable {w : World} {x y u : Vu} {X Y U : List Int} {K : Int} {B s g cap c n a m : Nat} {l : List Int}
/-- between two rounds -/
def SyI (w : World) (u : Vu) (X Y : List Int) (B s g cap c a m : Nat) (l : List Int) (f : Nat → Nat → Option Nat) (p2 p3 p4 lo0 lo1 c3 c4 Bn : Nat) (A3 A4 : Option Addr) (k : Nat) (lx : List Int) (W : World) : Prop :=
  Wr u c l lx (PL k) f ∧ St W B s g cap c lx ∧ Blk W Bn [.int .i64 (m : Int)] ∧ Blk W w.heap.size [.float .f64 a] ∧ Vbx W (w.heap.size + 3) u ∧ Blk W p2 [.func (.func 85) #[u.V] #[]] ∧
  Blk W p3 [.slice A3 X.length c3] ∧ Blk W p4 [.slice A4 Y.length c4] ∧ OwnF W lo0 A3 c3 X ∧ OwnF W lo1 A4 c4 Y ∧ w.grownBy W (some g)
theorem SyI.ownV {BB k p2 p3 p4 lo0 lo1 c3 c4 Bn : Nat} {A3 A4 : Option Addr} {f : Nat → Nat → Option Nat} {lx : List Int} (hB : w.heap.size ≤ BB) : OwnV BB (SyI w u X Y B s g cap c a m l f p2 p3 p4 lo0 lo1 c3 c4 Bn A3 A4 k lx) := by
  rintro W W' row ⟨h0, h1, h2, h3, h4, h5, h6, h7, h8, h9, h10⟩ hg hr
  exact ⟨h0, h1.ownV hg hr, h2.ownV hg hr, h3.ownV hg hr, h4.ownV hg hr, h5.ownV hg hr, h6.ownV hg hr, h7.ownV hg hr, h8.ownV hg hr, h9.ownV hg hr, grown_ownV h10 hg hr hB⟩
/-- within one -/
def SyX (w : World) (u : Vu) (X Y : List Int) (B s g cap c a m : Nat) (l : List Int) (f : Nat → Nat → Option Nat) (p2 p3 p4 lo0 lo1 c3 c4 Bn : Nat) (A3 A4 : Option Addr) (k : Nat) (lx : List Int) (a' : Act) (W : World) : Prop :=
  SyI w u X Y B s g cap c a m l f p2 p3 p4 lo0 lo1 c3 c4 Bn A3 A4 k lx W ∧ ∃ (X0 X1 X2 X3 X5 X6 X8 X9 X10 X16 X17 X18 X19 X20 X21 X22 X23 X24 X25 X26 X27 X28 X29 X30 X31 X32 X33 X34 X35 X36 X37 X38 X39 X40 X41 X42 X43 X44 X45 X46 X47 X48 X49 X50 X51 X52 X53 X54 X55 X56 X57 X58 X59 X60 X61 X62 X63 X64 X65 X66 X67 X68 X69 X70 X71 X72 X73 X74 X75 X76 X77 X78 X79 X80 : Value), a' = { tmps := #[X0, X1, X2, X3, .pointer (some ⟨w.heap.size, 0, none⟩), X5, X6, .pointer (some ⟨w.heap.size + 3, 0, none⟩), X8, X9, X10, .pointer (some ⟨p2, 0, none⟩), .pointer (some ⟨p3, 0, none⟩), .pointer (some ⟨p4, 0, none⟩), .int .i64 ((tr k).1 : Nat), .int .i64 ((tr k).2 : Nat), X16, X17, X18, X19, X20, X21, X22, X23, X24, X25, X26, X27, X28, X29, X30, X31, X32, X33, X34, X35, X36, X37, X38, X39, X40, X41, X42, X43, X44, X45, X46, X47, X48, X49, X50, X51, X52, X53, X54, X55, X56, X57, X58, X59, X60, X61, X62, X63, X64, X65, X66, X67, X68, X69, X70, X71, X72, X73, X74, X75, X76, X77, X78, X79, X80], defers := [] }
theorem SyX.ownV {BB k p2 p3 p4 lo0 lo1 c3 c4 Bn : Nat} {A3 A4 : Option Addr} {f : Nat → Nat → Option Nat} {lx : List Int} {a' : Act} (hB : w.heap.size ≤ BB) : OwnV BB (SyX w u X Y B s g cap c a m l f p2 p3 p4 lo0 lo1 c3 c4 Bn A3 A4 k lx a') := by
  rintro W W' row ⟨hI, X0, X1, X2, X3, X5, X6, X8, X9, X10, X16, X17, X18, X19, X20, X21, X22, X23, X24, X25, X26, X27, X28, X29, X30, X31, X32, X33, X34, X35, X36, X37, X38, X39, X40, X41, X42, X43, X44, X45, X46, X47, X48, X49, X50, X51, X52, X53, X54, X55, X56, X57, X58, X59, X60, X61, X62, X63, X64, X65, X66, X67, X68, X69, X70, X71, X72, X73, X74, X75, X76, X77, X78, X79, X80, e⟩ hg hr
  exact ⟨SyI.ownV hB W W' row hI hg hr, X0, X1, X2, X3, X5, X6, X8, X9, X10, X16, X17, X18, X19, X20, X21, X22, X23, X24, X25, X26, X27, X28, X29, X30, X31, X32, X33, X34, X35, X36, X37, X38, X39, X40, X41, X42, X43, X44, X45, X46, X47, X48, X49, X50, X51, X52, X53, X54, X55, X56, X57, X58, X59, X60, X61, X62, X63, X64, X65, X66, X67, X68, X69, X70, X71, X72, X73, X74, X75, X76, X77, X78, X79, X80, e⟩
set_option maxRecDepth 100000 in
set_option maxHeartbeats 8000000 in
theorem Syr2_yes (ba : a ≤ 18446744073709551615) (hfu : u.fl c l = U) (hx : Sv w x X) (hy : Sv w y Y) (hu : Sv w u U) (he : refE ((alk x y) && (szd u x.len x.len)) [x, y, u] = 0) (hv : Vk u s c n K) (hs : St w B s g cap c l) (hl : l.length = n) (hj : Inj u c) (hum0 : u.R = m) :
    Calls Try.prog 41 #[.float .f64 a, x.V, y.V, u.V] w (WrA w B s g cap c u l (fun a b => decide (b ≤ a)) (fun i j => aop .add (aop .add (ma U m i j) (aop .mul (aop .mul (af a) (fa (D X i))) (fa (D Y j)))) (aop .mul (aop .mul (af a) (fa (D Y i))) (fa (D X j))))) := by
  have hfit := (refE_some he).1
  have HPN : Hid (u.p ≠ none) := Lib.hid ((refE_some he).2 u (by simp))
  rw [hfit] at he
  have HE := Lib.hid he
  simp only [Bool.and_eq_true] at hfit
  obtain ⟨h0, h1⟩ := hfit
  have e1 := szd_is h1
  have ek := alk_parts2 h0
  have hxl := hx.len
  have hyl := hy.len
  have hlx := len_vec ek.1
  have hly := len_vec ek.2.1
  have hR5 := hu.R
  have hum : u.R = (m : Int) := hum0
  have huc : u.C = (m : Int) := by rw [e1.2, ← e1.1]; exact hum0
  have hxm : X.length ≤ m ∧ m ≤ X.length := by omega
  have hym : Y.length ≤ m ∧ m ≤ Y.length := by omega
  have hm5 : m ≤ 512 := by omega
  have HUM := Lib.hid hum0
  have HUC := Lib.hid huc
  clear e1 ek hxl hyl hlx hly hR5 hum hum0 huc
  have HFU := Lib.hid hfu
  rw [← hfu] at hu
  skip
  obtain ⟨f, hf⟩ : ∃ f : Nat → Nat → Option Nat, (fun i j => aop .add (aop .add (ma U m i j) (aop .mul (aop .mul (af a) (fa (D X i))) (fa (D Y j)))) (aop .mul (aop .mul (af a) (fa (D Y i))) (fa (D X j)))) = f := ⟨_, rfl⟩
  have HF := Lib.hid (show ∀ i j, aop .add (aop .add (ma U m i j) (aop .mul (aop .mul (af a) (fa (D X i))) (fa (D Y j)))) (aop .mul (aop .mul (af a) (fa (D Y i))) (fa (D X j))) = f i j from fun i j => by rw [← hf])
  rw [hf]
  clear hf hfu
  have HSx := Lib.hid hx
  have HSy := Lib.hid hy
  have HSu := Lib.hid hu
  have HST := Lib.hid hs
  have HVK := Lib.hid hv
  have HIJ := Lib.hid hj
  have HLL := Lib.hid hl
  have p0 := fun (W : World) (bz : Below w.heap.size w W) => alike_is (HSx.out.on bz) (HSy.out.on bz)
  simp only [h0] at p0
  have p3 := fun (W : World) (bz : Below w.heap.size w W) => sized_is u x.len x.len W
  simp only [h1] at p3
  clear he hs hv hj hl hx hy hu h0 h1
  have Db0 := Blk.new w [.float .f64 a] 32
  have Dx := Blk.new (w.alloc (.cells #[.float .f64 a] 32)) x.L 30
  replace Db0 := Db0.alloc (.cells x.L.toArray 30)
  simp only [World.size_alloc] at Dx
  have Dy := Blk.new ((w.alloc (.cells #[.float .f64 a] 32)).alloc (.cells x.L.toArray 30)) y.L 30
  replace Db0 := Db0.alloc (.cells y.L.toArray 30)
  replace Dx := Dx.alloc (.cells y.L.toArray 30)
  simp only [World.size_alloc] at Dy
  have Du := Blk.new (((w.alloc (.cells #[.float .f64 a] 32)).alloc (.cells x.L.toArray 30)).alloc (.cells y.L.toArray 30)) u.L 30
  replace Db0 := Db0.alloc (.cells u.L.toArray 30)
  replace Dx := Dx.alloc (.cells u.L.toArray 30)
  replace Dy := Dy.alloc (.cells u.L.toArray 30)
  simp only [World.size_alloc] at Du
  have bz := ((((Below.refl _ w).alloc (Nat.le_refl _) (.cells #[.float .f64 a] 32)).alloc (by simp <;> omega) (.cells x.L.toArray 30)).alloc (by simp <;> omega) (.cells y.L.toArray 30)).alloc (by simp <;> omega) (.cells u.L.toArray 30)
  have hsz0 : ((((w.alloc (.cells #[.float .f64 a] 32)).alloc (.cells x.L.toArray 30)).alloc (.cells y.L.toArray 30)).alloc (.cells u.L.toArray 30)).heap.size = w.heap.size + 4 := by simp
  refine (callsIn_wide (n := 5)).1 ?_
  refine callsIn_of_wp_marks Try.func41 rfl trivial ?_ rfl
  simp only [Try.ntmps41, List.size_toArray, List.length_cons, List.length_nil, Nat.reduceAdd, Nat.reduceSub, Array.replicate_succ, Array.replicate_zero, List.push_toArray, List.append_toArray, List.nil_append, List.cons_append]
  refine wpIn_wide.2 ?_
  go_wp2_with fail
  replace Db0 := Db0.drew
  replace Dx := Dx.drew
  replace Dy := Dy.drew
  replace Du := Du.drew
  replace bz := bz.drew
  refine wp_only ?_
  refine wp_region_held_drew (S := fun w9 : World => Vbx w9 (w.heap.size + 1) x ∧ Vbx w9 (w.heap.size + 2) y ∧ Vbx w9 (w.heap.size + 3) u) (by kernel_rfl) ⟨Dx, Dy, Du⟩ (fun hS => ?_)
  generalize ((((w.alloc (.cells #[.float .f64 a] 32)).alloc (.cells x.L.toArray 30)).alloc (.cells y.L.toArray 30)).alloc (.cells u.L.toArray 30)).drew = wd at hS Db0 Dx Dy Du  bz ⊢
  refine wpAnyH_take (i := 0) (v := ?v0_1) rfl (by kernel_rfl) (by kernel_rfl) (by kernel_rfl) (fun _ _ _ h => h) (Or.inl ⟨by rfl, ?hy0_1⟩) (by assumption) ?rest0_1
  case hy0_1 => (intro w9 hSw; obtain ⟨m0, m1, m2⟩ := hSw; refine (ld_v (by rfl) (by kernel_rfl) m0).trans ?_; with_reducible rfl)
  try simp only [Act.put, List.setIfInBounds_toArray, List.set_cons_zero, List.set_cons_succ, List.getElem_toArray, List.getElem_cons_zero, List.getElem_cons_succ]
  refine wpAnyH_take (i := 1) (v := ?v1_2) rfl (by kernel_rfl) (by kernel_rfl) (by kernel_rfl) (fun _ _ _ h => h) (Or.inl ⟨by rfl, ?hy1_2⟩) (by assumption) ?rest1_2
  case hy1_2 => (intro w9 hSw; obtain ⟨m0, m1, m2⟩ := hSw; refine (ld_v (by rfl) (by kernel_rfl) m1).trans ?_; with_reducible rfl)
  try simp only [Act.put, List.setIfInBounds_toArray, List.set_cons_zero, List.set_cons_succ, List.getElem_toArray, List.getElem_cons_zero, List.getElem_cons_succ]
  refine wpAnyH_ready (rs := [2]) (by kernel_rfl) (by simp) ?_
  refine AllReadyH.cons rfl (fun K hK => ?_) AllReadyH.nil
  go_simp
  with_reducible refine (p0 _ bz).mono ?_
  rintro e w1 ⟨rfl, hb⟩
  replace Db0 := Db0.on hb
  replace Dx := Dx.on hb
  replace Dy := Dy.on hb
  replace Du := Du.on hb
  replace bz := bz.trans (hb.mono bz.size)
  clear hb
  clear hS; refine hK.out _ _ ⟨Dx, Dy, Du⟩ (fun hS => ?_); clear hK K
  try simp only [Act.put, List.setIfInBounds_toArray, List.set_cons_zero, List.set_cons_succ, List.getElem_toArray, List.getElem_cons_zero, List.getElem_cons_succ]
  refine wpAnyH_take (i := 3) (v := ?v3_3) rfl (by kernel_rfl) (by kernel_rfl) (by kernel_rfl) (fun _ _ _ h => h) (Or.inl ⟨by rfl, ?hy3_3⟩) (by assumption) ?rest3_3
  case hy3_3 => (intro w9 hSw; clear hSw; go_simp; try with_reducible rfl)
  try simp only [Act.put, List.setIfInBounds_toArray, List.set_cons_zero, List.set_cons_succ, List.getElem_toArray, List.getElem_cons_zero, List.getElem_cons_succ]
  refine wpAnyH_take (i := 4) (v := ?v4_4) rfl (by kernel_rfl) (by kernel_rfl) (by kernel_rfl) (fun _ _ _ h => h) (Or.inl ⟨by rfl, ?hy4_4⟩) (by assumption) ?rest4_4
  case hy4_4 => (intro w9 hSw; obtain ⟨m0, m1, m2⟩ := hSw; refine (ld_v (by rfl) (by kernel_rfl) m2).trans ?_; with_reducible rfl)
  try simp only [Act.put, List.setIfInBounds_toArray, List.set_cons_zero, List.set_cons_succ, List.getElem_toArray, List.getElem_cons_zero, List.getElem_cons_succ]
  refine wpAnyH_take (i := 5) (v := ?v5_5) rfl (by kernel_rfl) (by kernel_rfl) (by kernel_rfl) (fun _ _ _ h => h) (Or.inl ⟨by rfl, ?hy5_5⟩) (by assumption) ?rest5_5
  case hy5_5 => (intro w9 hSw; obtain ⟨m0, m1, m2⟩ := hSw; refine (ld_v (by rfl) (by kernel_rfl) m0).trans ?_; with_reducible rfl)
  try simp only [Act.put, List.setIfInBounds_toArray, List.set_cons_zero, List.set_cons_succ, List.getElem_toArray, List.getElem_cons_zero, List.getElem_cons_succ]
  refine wpAnyH_take (i := 7) (v := ?v7_6) rfl (by kernel_rfl) (by kernel_rfl) (by kernel_rfl) (fun _ _ _ h => h) (Or.inl ⟨by rfl, ?hy7_6⟩) (by assumption) ?rest7_6
  case hy7_6 => (intro w9 hSw; obtain ⟨m0, m1, m2⟩ := hSw; refine (ld_v (by rfl) (by kernel_rfl) m0).trans ?_; with_reducible rfl)
  try simp only [Act.put, List.setIfInBounds_toArray, List.set_cons_zero, List.set_cons_succ, List.getElem_toArray, List.getElem_cons_zero, List.getElem_cons_succ]
  refine wpAnyH_ready (rs := [6]) (by kernel_rfl) (by simp) ?_
  refine AllReadyH.cons rfl (fun K hK => ?_) AllReadyH.nil
  go_simp
  with_reducible refine (svLen (HSx.out.on bz)).mono ?_
  rintro e w2 ⟨rfl, hb⟩
  replace Db0 := Db0.on hb
  replace Dx := Dx.on hb
  replace Dy := Dy.on hb
  replace Du := Du.on hb
  replace bz := bz.trans (hb.mono bz.size)
  clear hb
  clear hS; refine hK.out _ _ ⟨Dx, Dy, Du⟩ (fun hS => ?_); clear hK K
  try simp only [Act.put, List.setIfInBounds_toArray, List.set_cons_zero, List.set_cons_succ, List.getElem_toArray, List.getElem_cons_zero, List.getElem_cons_succ]
  refine wpAnyH_ready (rs := [8]) (by kernel_rfl) (by simp) ?_
  refine AllReadyH.cons rfl (fun K hK => ?_) AllReadyH.nil
  go_simp
  with_reducible refine (svLen (HSx.out.on bz)).mono ?_
  rintro e w3 ⟨rfl, hb⟩
  replace Db0 := Db0.on hb
  replace Dx := Dx.on hb
  replace Dy := Dy.on hb
  replace Du := Du.on hb
  replace bz := bz.trans (hb.mono bz.size)
  clear hb
  clear hS; refine hK.out _ _ ⟨Dx, Dy, Du⟩ (fun hS => ?_); clear hK K
  try simp only [Act.put, List.setIfInBounds_toArray, List.set_cons_zero, List.set_cons_succ, List.getElem_toArray, List.getElem_cons_zero, List.getElem_cons_succ]
  refine wpAnyH_ready (rs := [9]) (by kernel_rfl) (by simp) ?_
  refine AllReadyH.cons rfl (fun K hK => ?_) AllReadyH.nil
  go_simp
  with_reducible refine (p3 _ bz).mono ?_
  rintro e w4 ⟨rfl, hb⟩
  replace Db0 := Db0.on hb
  replace Dx := Dx.on hb
  replace Dy := Dy.on hb
  replace Du := Du.on hb
  replace bz := bz.trans (hb.mono bz.size)
  clear hb
  clear hS; refine hK.out _ _ ⟨Dx, Dy, Du⟩ (fun hS => ?_); clear hK K
  try simp only [Act.put, List.setIfInBounds_toArray, List.set_cons_zero, List.set_cons_succ, List.getElem_toArray, List.getElem_cons_zero, List.getElem_cons_succ]
  refine wpAnyH_take (i := 10) (v := ?v10_7) rfl (by kernel_rfl) (by kernel_rfl) (by kernel_rfl) (fun _ _ _ h => h) (Or.inl ⟨by rfl, ?hy10_7⟩) (by assumption) ?rest10_7
  case hy10_7 => (intro w9 hSw; clear hSw; go_simp; try with_reducible rfl)
  try simp only [Act.put, List.setIfInBounds_toArray, List.set_cons_zero, List.set_cons_succ, List.getElem_toArray, List.getElem_cons_zero, List.getElem_cons_succ]
  refine wpAnyH_take (i := 11) (v := ?v11_8) rfl (by kernel_rfl) (by kernel_rfl) (by kernel_rfl) (fun _ _ _ h => h) (Or.inl ⟨by rfl, ?hy11_8⟩) (by assumption) ?rest11_8
  case hy11_8 => (intro w9 hSw; clear hSw; go_simp; try with_reducible rfl)
  try simp only [Act.put, List.setIfInBounds_toArray, List.set_cons_zero, List.set_cons_succ, List.getElem_toArray, List.getElem_cons_zero, List.getElem_cons_succ]
  refine wpAnyH_done (by kernel_rfl) ?_ _
  simp only [onlyN]
  obtain ⟨v0_0, v0_1, v0_2, v0_3, v0_4, v0_5, v0_6, v0_7, v0_8⟩ := Vbx.cells Dx
  obtain ⟨v1_0, v1_1, v1_2, v1_3, v1_4, v1_5, v1_6, v1_7, v1_8⟩ := Vbx.cells Dy
  obtain ⟨v2_0, v2_1, v2_2, v2_3, v2_4, v2_5, v2_6, v2_7, v2_8⟩ := Vbx.cells Du
  have hL : VLs (w4.alloc (.cells #[.pointer x.p, .int .i64 x.f0, .int .i64 x.f1, .int .i64 x.d0, .int .i64 x.d1, .int .i64 x.r0, .int .i64 x.r1, .int .i64 x.R, .int .i64 x.C, .pointer y.p, .int .i64 y.f0, .int .i64 y.f1, .int .i64 y.d0, .int .i64 y.d1, .int .i64 y.r0, .int .i64 y.r1, .int .i64 y.R, .int .i64 y.C, .pointer u.p, .int .i64 u.f0, .int .i64 u.f1, .int .i64 u.d0, .int .i64 u.d1, .int .i64 u.r0, .int .i64 u.r1, .int .i64 u.R, .int .i64 u.C] 30)) ⟨w4.heap.size, 0, none⟩ [x, y, u] := VLs.of (Blk.new w4 ([x, y, u].flatMap Vu.L) 30)
  have hbA := (Below.refl _ w4).alloc (Nat.le_refl _) ((.cells #[.pointer x.p, .int .i64 x.f0, .int .i64 x.f1, .int .i64 x.d0, .int .i64 x.d1, .int .i64 x.r0, .int .i64 x.r1, .int .i64 x.R, .int .i64 x.C, .pointer y.p, .int .i64 y.f0, .int .i64 y.f1, .int .i64 y.d0, .int .i64 y.d1, .int .i64 y.r0, .int .i64 y.r1, .int .i64 y.R, .int .i64 y.C, .pointer u.p, .int .i64 u.f0, .int .i64 u.f1, .int .i64 u.d0, .int .i64 u.d1, .int .i64 u.r0, .int .i64 u.r1, .int .i64 u.R, .int .i64 u.C] 30))
  replace Db0 := Db0.on hbA
  replace Dx := Dx.on hbA
  replace Dy := Dy.on hbA
  replace Du := Du.on hbA
  clear hbA
  replace bz := bz.alloc bz.size ((.cells #[.pointer x.p, .int .i64 x.f0, .int .i64 x.f1, .int .i64 x.d0, .int .i64 x.d1, .int .i64 x.r0, .int .i64 x.r1, .int .i64 x.R, .int .i64 x.C, .pointer y.p, .int .i64 y.f0, .int .i64 y.f1, .int .i64 y.d0, .int .i64 y.d1, .int .i64 y.r0, .int .i64 y.r1, .int .i64 y.R, .int .i64 y.C, .pointer u.p, .int .i64 u.f0, .int .i64 u.f1, .int .i64 u.d0, .int .i64 u.d1, .int .i64 u.r0, .int .i64 u.r1, .int .i64 u.R, .int .i64 u.C] 30))
  go_wp2_with fail
  with_reducible refine (refused_is true (vs := [x, y, u]) (n := 3) rfl (by omega) hL (by intro z hz; simp only [List.mem_cons, List.mem_nil_iff, or_false] at hz; rcases hz with rfl | rfl | rfl; exact ⟨_, HSx.out.on bz⟩; exact ⟨_, HSy.out.on bz⟩; exact ⟨_, HSu.out.on bz⟩)).mono ?_
  rintro e w5 ⟨rfl, hb⟩
  clear v0_0 v0_1 v0_2 v0_3 v0_4 v0_5 v0_6 v0_7 v0_8 v1_0 v1_1 v1_2 v1_3 v1_4 v1_5 v1_6 v1_7 v1_8 v2_0 v2_1 v2_2 v2_3 v2_4 v2_5 v2_6 v2_7 v2_8
  replace Db0 := Db0.on hb
  replace Dx := Dx.on hb
  replace Dy := Dy.on hb
  replace Du := Du.on hb
  replace hL := hL.on hb
  replace bz := bz.trans (hb.mono bz.size)
  clear hb hL
  rw [HE.out]
  go_wp2_with fail
  replace Db0 := Db0.drew
  replace Dx := Dx.drew
  replace Dy := Dy.drew
  replace Du := Du.drew
  replace bz := bz.drew
  refine wp_only ?_
  refine wp_region_held_drew (S := fun w9 : World => Vbx w9 (w.heap.size + 1) x ∧ Vbx w9 (w.heap.size + 2) y ∧ Vbx w9 (w.heap.size + 3) u) (by kernel_rfl) ⟨Dx, Dy, Du⟩ (fun hS => ?_)
  have hwl := Du.lt
  generalize w5.drew = wf at hS hwl Db0 Dx Dy Du bz ⊢
  refine wpAnyH_take (i := 0) (v := ?v0_9) rfl (by kernel_rfl) (by kernel_rfl) (by kernel_rfl) (fun _ _ _ h => h) (Or.inl ⟨by rfl, ?hy0_9⟩) (by assumption) ?rest0_9
  case hy0_9 => (intro w9 hSw; obtain ⟨m0, m1, m2⟩ := hSw; refine (ld_v (by rfl) (by kernel_rfl) m2).trans ?_; with_reducible rfl)
  try simp only [Act.put, List.setIfInBounds_toArray, List.set_cons_zero, List.set_cons_succ, List.getElem_toArray, List.getElem_cons_zero, List.getElem_cons_succ]
  refine wpAnyH_take (i := 1) (v := ?v1_10) rfl (by kernel_rfl) (by kernel_rfl) (by kernel_rfl) (fun _ _ _ h => h) (Or.inl ⟨by rfl, ?hy1_10⟩) (by assumption) ?rest1_10
  case hy1_10 => (intro w9 hSw; clear hSw; go_simp; try with_reducible rfl)
  try simp only [Act.put, List.setIfInBounds_toArray, List.set_cons_zero, List.set_cons_succ, List.getElem_toArray, List.getElem_cons_zero, List.getElem_cons_succ]
  refine wpAnyH_take (i := 2) (v := ?v2_11) rfl (by kernel_rfl) (by kernel_rfl) (by kernel_rfl) (fun _ _ _ h => h) (Or.inl ⟨by rfl, ?hy2_11⟩) (by assumption) ?rest2_11
  case hy2_11 => (intro w9 hSw; obtain ⟨m0, m1, m2⟩ := hSw; refine (ld_v (by rfl) (by kernel_rfl) m0).trans ?_; with_reducible rfl)
  try simp only [Act.put, List.setIfInBounds_toArray, List.set_cons_zero, List.set_cons_succ, List.getElem_toArray, List.getElem_cons_zero, List.getElem_cons_succ]
  refine wpAnyH_take (i := 4) (v := ?v4_12) rfl (by kernel_rfl) (by kernel_rfl) (by kernel_rfl) (fun _ _ _ h => h) (Or.inl ⟨by rfl, ?hy4_12⟩) (by assumption) ?rest4_12
  case hy4_12 => (intro w9 hSw; obtain ⟨m0, m1, m2⟩ := hSw; refine (ld_v (by rfl) (by kernel_rfl) m1).trans ?_; with_reducible rfl)
  try simp only [Act.put, List.setIfInBounds_toArray, List.set_cons_zero, List.set_cons_succ, List.getElem_toArray, List.getElem_cons_zero, List.getElem_cons_succ]
  obtain ⟨I, hI⟩ : ∃ I : Array Value → List Bool → Act → World → Prop, I = (fun T bs a9 W => ∃ (lo hi : Nat → Nat) (v0 v1 v2 v3 v4 : Value), a9 = { tmps := (((((T.setIfInBounds 40 v0).setIfInBounds 42 v1).setIfInBounds 11 v2).setIfInBounds 12 v3).setIfInBounds 13 v4), defers := [] } ∧ Pol wf.heap.size W bs lo hi ∧ (bs.getD 0 false = true → CF W (lo 0) (hi 0) X v0) ∧ (bs.getD 1 false = true → CF W (lo 1) (hi 1) Y v1) ∧ (bs.getD 2 false = true → CP W (lo 2) (hi 2) .nilFunc v2) ∧ (bs.getD 3 false = true → CP W (lo 3) (hi 3) (.slice none 0 0) v3) ∧ (bs.getD 4 false = true → CP W (lo 4) (hi 4) (.slice none 0 0) v4) ∧ Vbx W (w.heap.size + 1) x ∧ Vbx W (w.heap.size + 2) y ∧ Vbx W (w.heap.size + 3) u ∧ Blk W w.heap.size [.float .f64 a] ∧ Below w.heap.size w W ∧ wf.heap.size ≤ W.heap.size) := ⟨_, rfl⟩
  have HI := Lib.hid hI
  clear hI
  refine wpAnyH_freeT (is := [3, 5, 6, 7, 8]) (L := fun bs => #[true, true, true, bs.getD 0 false, true, bs.getD 1 false, bs.getD 2 false, bs.getD 3 false, bs.getD 4 false, false, false, false]) (F := 3) (fun bs => bs.getD 0 false || !(bs.getD 1 false)) I (by kernel_rfl) ?step ?fin 5 [false, false, false, false, false] rfl rfl rfl ?beg hS
  case beg =>
    rw [HI.out]
    exact ⟨fun _ => 0, fun _ => 0, undef, undef, undef, undef, undef, by kernel_rfl, Pol.start (by intro k; rcases k with _ | _ | _ | _ | _ | k <;> simp), by simp, by simp, by simp, by simp, by simp, Dx, Dy, Du, Db0, bz, Nat.le_refl _⟩
  case step =>
    intro k hk bs a9 W hl hb hok hI hS
    obtain ⟨b0, b1, b2, b3, b4, rfl⟩ := bools5 bs hl
    rw [HI.out] at hI
    obtain ⟨lo, hi, v0, v1, v2, v3, v4, rfl, hP, f0, f1, f2, f3, f4, Dx, Dy, Du, Db0, bz, hsz⟩ := hI
    clear hS
    rcases k with _ | _ | _ | _ | _ | k
    · skip
      refine ⟨3, _, rfl, rfl, fun K hK => ?_⟩
      try simp only [Act.put, List.setIfInBounds_toArray, List.set_cons_zero, List.set_cons_succ, List.getElem_toArray, List.getElem_cons_zero, List.getElem_cons_succ]
      go_simp
      with_reducible refine (floats_is (HSx.out.on bz)).mono ?_
      rintro e w1 ⟨A, cA, rfl, ho, hb1⟩
      refine hK.out _ _ ⟨Dx.on hb1, Dy.on hb1, Du.on hb1⟩ ?_
      try simp only [Act.put, List.setIfInBounds_toArray, List.set_cons_zero, List.set_cons_succ, List.getElem_toArray, List.getElem_cons_zero, List.getElem_cons_succ]
      rw [HI.out]
      exact ⟨_, _, .slice A X.length cA, v1, v2, v3, v4, by kernel_rfl, hP.step 0 hb1.size hsz, fun _ => ⟨A, cA, rfl, ho, fun a e => (ho.gt e).2⟩, fun h => (f1 h).on hb1, fun h => (f2 h).on hb1, fun h => (f3 h).on hb1, fun h => (f4 h).on hb1, Dx.on hb1, Dy.on hb1, Du.on hb1, Db0.on hb1, bz.trans (hb1.mono bz.size), Nat.le_trans hsz hb1.size⟩
    · skip
      refine ⟨5, _, rfl, rfl, fun K hK => ?_⟩
      try simp only [Act.put, List.setIfInBounds_toArray, List.set_cons_zero, List.set_cons_succ, List.getElem_toArray, List.getElem_cons_zero, List.getElem_cons_succ]
      go_simp
      with_reducible refine (floats_is (HSy.out.on bz)).mono ?_
      rintro e w1 ⟨A, cA, rfl, ho, hb1⟩
      refine hK.out _ _ ⟨Dx.on hb1, Dy.on hb1, Du.on hb1⟩ ?_
      try simp only [Act.put, List.setIfInBounds_toArray, List.set_cons_zero, List.set_cons_succ, List.getElem_toArray, List.getElem_cons_zero, List.getElem_cons_succ]
      rw [HI.out]
      exact ⟨_, _, v0, .slice A Y.length cA, v2, v3, v4, by kernel_rfl, hP.step 1 hb1.size hsz, fun h => (f0 h).on hb1, fun _ => ⟨A, cA, rfl, ho, fun a e => (ho.gt e).2⟩, fun h => (f2 h).on hb1, fun h => (f3 h).on hb1, fun h => (f4 h).on hb1, Dx.on hb1, Dy.on hb1, Du.on hb1, Db0.on hb1, bz.trans (hb1.mono bz.size), Nat.le_trans hsz hb1.size⟩
    · skip
      refine ⟨6, _, rfl, rfl, fun K hK => ?_⟩
      try simp only [Act.put, List.setIfInBounds_toArray, List.set_cons_zero, List.set_cons_succ, List.getElem_toArray, List.getElem_cons_zero, List.getElem_cons_succ]
      go_simp
      have hb1 := (Below.refl _ W).alloc (Nat.le_refl _) (.cells #[.nilFunc] 96)
      refine hK.out _ _ ⟨Dx.on hb1, Dy.on hb1, Du.on hb1⟩ ?_
      try simp only [Act.put, List.setIfInBounds_toArray, List.set_cons_zero, List.set_cons_succ, List.getElem_toArray, List.getElem_cons_zero, List.getElem_cons_succ]
      rw [HI.out]
      exact ⟨_, _, v0, v1, .pointer (some ⟨W.heap.size, 0, none⟩), v3, v4, by kernel_rfl, hP.step 2 hb1.size hsz, fun h => (f0 h).on hb1, fun h => (f1 h).on hb1, fun _ => ⟨rfl, Blk.new W [.nilFunc] 96, by simp [upN]⟩, fun h => (f3 h).on hb1, fun h => (f4 h).on hb1, Dx.on hb1, Dy.on hb1, Du.on hb1, Db0.on hb1, bz.trans (hb1.mono bz.size), Nat.le_trans hsz hb1.size⟩
    · skip
      refine ⟨7, _, rfl, rfl, fun K hK => ?_⟩
      try simp only [Act.put, List.setIfInBounds_toArray, List.set_cons_zero, List.set_cons_succ, List.getElem_toArray, List.getElem_cons_zero, List.getElem_cons_succ]
      go_simp
      have hb1 := (Below.refl _ W).alloc (Nat.le_refl _) (.cells #[.slice none 0 0] 22)
      refine hK.out _ _ ⟨Dx.on hb1, Dy.on hb1, Du.on hb1⟩ ?_
      try simp only [Act.put, List.setIfInBounds_toArray, List.set_cons_zero, List.set_cons_succ, List.getElem_toArray, List.getElem_cons_zero, List.getElem_cons_succ]
      rw [HI.out]
      exact ⟨_, _, v0, v1, v2, .pointer (some ⟨W.heap.size, 0, none⟩), v4, by kernel_rfl, hP.step 3 hb1.size hsz, fun h => (f0 h).on hb1, fun h => (f1 h).on hb1, fun h => (f2 h).on hb1, fun _ => ⟨rfl, Blk.new W [.slice none 0 0] 22, by simp [upN]⟩, fun h => (f4 h).on hb1, Dx.on hb1, Dy.on hb1, Du.on hb1, Db0.on hb1, bz.trans (hb1.mono bz.size), Nat.le_trans hsz hb1.size⟩
    · skip
      refine ⟨8, _, rfl, rfl, fun K hK => ?_⟩
      try simp only [Act.put, List.setIfInBounds_toArray, List.set_cons_zero, List.set_cons_succ, List.getElem_toArray, List.getElem_cons_zero, List.getElem_cons_succ]
      go_simp
      have hb1 := (Below.refl _ W).alloc (Nat.le_refl _) (.cells #[.slice none 0 0] 22)
      refine hK.out _ _ ⟨Dx.on hb1, Dy.on hb1, Du.on hb1⟩ ?_
      try simp only [Act.put, List.setIfInBounds_toArray, List.set_cons_zero, List.set_cons_succ, List.getElem_toArray, List.getElem_cons_zero, List.getElem_cons_succ]
      rw [HI.out]
      exact ⟨_, _, v0, v1, v2, v3, .pointer (some ⟨W.heap.size, 0, none⟩), by kernel_rfl, hP.step 4 hb1.size hsz, fun h => (f0 h).on hb1, fun h => (f1 h).on hb1, fun h => (f2 h).on hb1, fun h => (f3 h).on hb1, fun _ => ⟨rfl, Blk.new W [.slice none 0 0] 22, by simp [upN]⟩, Dx.on hb1, Dy.on hb1, Du.on hb1, Db0.on hb1, bz.trans (hb1.mono bz.size), Nat.le_trans hsz hb1.size⟩
    · simp at hk; omega
  case fin =>
    intro a9 W hI hS
    rw [HI.out] at hI
    obtain ⟨lo, hi, v0, v1, v2, v3, v4, rfl, hP, f0, f1, f2, f3, f4, Dx, Dy, Du, Db0, bz, hsz⟩ := hI
    clear hS
    try simp only [Act.put, List.setIfInBounds_toArray, List.set_cons_zero, List.set_cons_succ, List.getElem_toArray, List.getElem_cons_zero, List.getElem_cons_succ]
    obtain ⟨A3, c3, rfl, ho3, hh3⟩ := f0 rfl
    obtain ⟨A4, c4, rfl, ho4, hh4⟩ := f1 rfl
    obtain ⟨rfl, D2, l2⟩ := f2 rfl
    obtain ⟨rfl, D3, l3⟩ := f3 rfl
    obtain ⟨rfl, D4, l4⟩ := f4 rfl
    have r0 := (hP.rng 0 rfl).1
    have r1 := (hP.rng 1 rfl).1
    have r2 := (hP.rng 2 rfl).1
    have r3 := (hP.rng 3 rfl).1
    have r4 := (hP.rng 4 rfl).1
    have q3 : ∀ a, A3 = some a → a.block ≠ lo 2 ∧ a.block ≠ lo 3 ∧ a.block ≠ lo 4 := fun a e => by
      have h1 := hh3 a e
      have h2 := (ho3.gt e).1
      have k2 := hP.ap 0 2 (by decide) rfl rfl
      have k3 := hP.ap 0 3 (by decide) rfl rfl
      have k4 := hP.ap 0 4 (by decide) rfl rfl
      omega
    have q4 : ∀ a, A4 = some a → a.block ≠ lo 2 ∧ a.block ≠ lo 3 ∧ a.block ≠ lo 4 := fun a e => by
      have h1 := hh4 a e
      have h2 := (ho4.gt e).1
      have k2 := hP.ap 1 2 (by decide) rfl rfl
      have k3 := hP.ap 1 3 (by decide) rfl rfl
      have k4 := hP.ap 1 4 (by decide) rfl rfl
      omega
    have q0 : lo 2 ≠ lo 3 ∧ lo 2 ≠ lo 4 ∧ lo 3 ≠ lo 4 := by
      have k2 := hP.ap 2 3 (by decide) rfl rfl
      have k3 := hP.ap 2 4 (by decide) rfl rfl
      have k4 := hP.ap 3 4 (by decide) rfl rfl
      omega
    have hgw := HST.out.gt.2
    clear hP f0 f1 f2 f3 f4 hh3 hh4 l2 l3 l4
    generalize lo 2 = p2 at *
    generalize lo 3 = p3 at *
    generalize lo 4 = p4 at *
    generalize lo 0 = lo0 at *
    generalize lo 1 = lo1 at *
    have z2 : w.heap.size + 3 < p2 ∧ w.heap.size + 3 < p3 ∧ w.heap.size + 3 < p4 := by omega
    have cS := Blk.cell D2 0 rfl
    have fS := Blk.free D2 0
    refine wpAnyH_ready (rs := [9]) (by kernel_rfl) (by simp) ?_
    refine AllReadyH.cons rfl (fun K hK => ?_) AllReadyH.nil
    go_simp
    have hgS := set1_grown W p2 (.func (.func 85) #[u.V] #[])
    clear cS fS
    replace D2 : Blk _ p2 [.func (.func 85) #[u.V] #[]] := Blk.set_ D2 0 (.func (.func 85) #[u.V] #[])
    replace Dx := Dx.grown hgS (by simp <;> omega)
    replace Dy := Dy.grown hgS (by simp <;> omega)
    replace Du := Du.grown hgS (by simp <;> omega)
    replace Db0 := Db0.grown hgS (by simp <;> omega)
    replace D3 := D3.grown hgS (by simp <;> omega)
    replace D4 := D4.grown hgS (by simp <;> omega)
    replace ho3 := ho3.grown_ hgS (fun a e => by have := q3 a e; simp <;> omega)
    replace ho4 := ho4.grown_ hgS (fun a e => by have := q4 a e; simp <;> omega)
    replace bz := bz.grown hgS bz.size (fun k e => by cases e; omega)
    generalize World.setCell W ⟨p2, 0, none⟩ (.func (.func 85) #[u.V] #[]) = W2 at Dx Dy Du Db0 D2 D3 D4 ho3 ho4 bz ⊢
    clear hgS
    refine hK.out _ _ ⟨Dx, Dy, Du⟩ (fun hS => ?_)
    clear hK K
    try simp only [Act.put, List.setIfInBounds_toArray, List.set_cons_zero, List.set_cons_succ, List.getElem_toArray, List.getElem_cons_zero, List.getElem_cons_succ]
    clear hS
    have cS := Blk.cell D3 0 rfl
    have fS := Blk.free D3 0
    refine wpAnyH_ready (rs := [10]) (by kernel_rfl) (by simp) ?_
    refine AllReadyH.cons rfl (fun K hK => ?_) AllReadyH.nil
    go_simp
    have hgS := set1_grown W2 p3 (.slice A3 X.length c3)
    clear cS fS
    replace D3 : Blk _ p3 [.slice A3 X.length c3] := Blk.set_ D3 0 (.slice A3 X.length c3)
    replace Dx := Dx.grown hgS (by simp <;> omega)
    replace Dy := Dy.grown hgS (by simp <;> omega)
    replace Du := Du.grown hgS (by simp <;> omega)
    replace Db0 := Db0.grown hgS (by simp <;> omega)
    replace D2 := D2.grown hgS (by simp <;> omega)
    replace D4 := D4.grown hgS (by simp <;> omega)
    replace ho3 := ho3.grown_ hgS (fun a e => by have := q3 a e; simp <;> omega)
    replace ho4 := ho4.grown_ hgS (fun a e => by have := q4 a e; simp <;> omega)
    replace bz := bz.grown hgS bz.size (fun k e => by cases e; omega)
    generalize World.setCell W2 ⟨p3, 0, none⟩ (.slice A3 X.length c3) = W3 at Dx Dy Du Db0 D2 D3 D4 ho3 ho4 bz ⊢
    clear hgS
    refine hK.out _ _ ⟨Dx, Dy, Du⟩ (fun hS => ?_)
    clear hK K
    try simp only [Act.put, List.setIfInBounds_toArray, List.set_cons_zero, List.set_cons_succ, List.getElem_toArray, List.getElem_cons_zero, List.getElem_cons_succ]
    clear hS
    have cS := Blk.cell D4 0 rfl
    have fS := Blk.free D4 0
    refine wpAnyH_ready (rs := [11]) (by kernel_rfl) (by simp) ?_
    refine AllReadyH.cons rfl (fun K hK => ?_) AllReadyH.nil
    go_simp
    have hgS := set1_grown W3 p4 (.slice A4 Y.length c4)
    clear cS fS
    replace D4 : Blk _ p4 [.slice A4 Y.length c4] := Blk.set_ D4 0 (.slice A4 Y.length c4)
    replace Dx := Dx.grown hgS (by simp <;> omega)
    replace Dy := Dy.grown hgS (by simp <;> omega)
    replace Du := Du.grown hgS (by simp <;> omega)
    replace Db0 := Db0.grown hgS (by simp <;> omega)
    replace D2 := D2.grown hgS (by simp <;> omega)
    replace D3 := D3.grown hgS (by simp <;> omega)
    replace ho3 := ho3.grown_ hgS (fun a e => by have := q3 a e; simp <;> omega)
    replace ho4 := ho4.grown_ hgS (fun a e => by have := q4 a e; simp <;> omega)
    replace bz := bz.grown hgS bz.size (fun k e => by cases e; omega)
    generalize World.setCell W3 ⟨p4, 0, none⟩ (.slice A4 Y.length c4) = W4 at Dx Dy Du Db0 D2 D3 D4 ho3 ho4 bz ⊢
    clear hgS
    refine hK.out _ _ ⟨Dx, Dy, Du⟩ (fun hS => ?_)
    clear hK K
    try simp only [Act.put, List.setIfInBounds_toArray, List.set_cons_zero, List.set_cons_succ, List.getElem_toArray, List.getElem_cons_zero, List.getElem_cons_succ]
    clear hS
    refine wpAnyH_done (by kernel_rfl) ?_ _
    simp only [onlyN]
    clear Dx Dy
    obtain ⟨cDu_0, cDu_1, cDu_2, cDu_3, cDu_4, cDu_5, cDu_6, cDu_7, cDu_8⟩ := Vbx.cells Du
    go_wp2_with fail
    with_reducible refine (Rows_any u _).mono ?_
    rintro e w6 ⟨rfl, hb⟩
    clear cDu_0 cDu_1 cDu_2 cDu_3 cDu_4 cDu_5 cDu_6 cDu_7 cDu_8
    replace Du := Du.on hb
    replace Db0 := Db0.on hb
    replace D2 := D2.on hb
    replace D3 := D3.on hb
    replace D4 := D4.on hb
    replace ho3 := ho3.on_ hb
    replace ho4 := ho4.on_ hb
    replace bz := bz.trans (hb.mono bz.size)
    clear hb
    go_wp2_with fail
    rw [HUM.out]
    with_reducible refine (lower_any _ _).mono ?_
    rintro e w9 ⟨rfl, rfl⟩
    have DN := Blk.new w6 [.int .i64 (m : Int)] 3
    have bz6 := bz.size
    have hbA := (Below.refl _ w6).alloc (Nat.le_refl _) (.cells #[.int .i64 (m : Int)] 3)
    replace Du := Du.on hbA
    replace Db0 := Db0.on hbA
    replace D2 := D2.on hbA
    replace D3 := D3.on hbA
    replace D4 := D4.on hbA
    replace ho3 := ho3.alloc_ (.cells #[.int .i64 (m : Int)] 3)
    replace ho4 := ho4.alloc_ (.cells #[.int .i64 (m : Int)] 3)
    clear hbA
    replace bz := bz.alloc bz.size (.cells #[.int .i64 (m : Int)] 3)
    obtain ⟨BN, hBN⟩ : ∃ H, w6.heap.size = H := ⟨_, rfl⟩
    rw [hBN] at DN bz6
    go_wp2_with fail
    try rw [hBN]
    refine (wpIn_wide (n := 5)).1 ?_
    obtain ⟨W0, hW0⟩ : ∃ W0, w6.alloc (.cells #[.int .i64 (m : Int)] 3) = W0 := ⟨_, rfl⟩
    rw [hW0] at Du Db0 D2 D3 D4 ho3 ho4 DN bz ⊢
    clear hW0 hBN
    have hBB := bz.size
    have h0 : SyI w u X Y B s g cap c a m l f p2 p3 p4 lo0 lo1 c3 c4 BN A3 A4 0 l W0 := ⟨Wr.start u c l f (fun a b _ => PL_zero a b), HST.out.on bz, DN, Db0, Du, D2, D3, D4, ho3, ho4, grown_below bz (some g)⟩
    clear DN Db0 Du D2 D3 D4 ho3 ho4 bz HI I hsz
    refine rangeFunc_V (by omega) (gf := 106) (lb := #[.pointer (some ⟨BN, 0, none⟩)]) rfl (enters_of Try.func106 (by kernel_rfl) rfl)
      (low_seq (Bn := BN) (by omega) hm5) (fun _ _ => rfl)
      (SyI w u X Y B s g cap c a m l f p2 p3 p4 lo0 lo1 c3 c4 BN A3 A4) (fun _ => False) (fun k lx W h => h.2.2.1) (fun _ _ => SyI.ownV hBB) (fun _ _ _ h _ _ => h) h0
      (SyX w u X Y B s g cap c a m l f p2 p3 p4 lo0 lo1 c3 c4 BN A3 A4) (fun _ _ _ => SyX.ownV hBB) ?assign ?body ?done ?stop
    case assign =>
      intro lp k lx W K hI hK
      unfold encT
      gi_wp2
      exact hK _ _ (keepsFrom_below (Below.refl _ W)) ⟨hI, _, _, _, _, _, _, _, _, _, _, _, _, _, _, _, _, _, _, _, _, _, _, _, _, _, _, _, _, _, _, _, _, _, _, _, _, _, _, _, _, _, _, _, _, _, _, _, _, _, _, _, _, _, _, _, _, _, _, _, _, _, _, _, _, _, _, _, _, _, _, _, _, _, _, rfl⟩
    case done =>
      rintro D lx W hD ⟨h0, h1, h2, h3, h4, h5, h6, h7, h8, h9, h10⟩ hK
      go_wp2_with fail
      refine ⟨by simp, .inl ⟨_, _, rfl, run_takeDeferred hK, ?_⟩⟩
      refine ⟨_, results_tmp rfl _ _ _, lx, rfl, h1.ownV (grownBy_putObj' _ D (.deferred none)) (noCells_put hK rfl), grown_ownV h10 (grownBy_putObj' _ D (.deferred none)) (noCells_put hK rfl) (Nat.le_trans hBB hD), h0.congr (fun i j hh => ?_)⟩
      have hh9 := (has_iff _ _ _).1 hh
      rw [HUM.out, HUC.out] at hh9
      exact PL_all (by omega) (by omega)
    case stop => exact fun D W _ h _ => h.elim
    case body =>
      rintro lp k lx a9 W hlp ⟨⟨h0, h1, h2, h3, h4, h5, h6, h7, h8, h9, h10⟩, X0, X1, X2, X3, X5, X6, X8, X9, X10, X16, X17, X18, X19, X20, X21, X22, X23, X24, X25, X26, X27, X28, X29, X30, X31, X32, X33, X34, X35, X36, X37, X38, X39, X40, X41, X42, X43, X44, X45, X46, X47, X48, X49, X50, X51, X52, X53, X54, X55, X56, X57, X58, X59, X60, X61, X62, X63, X64, X65, X66, X67, X68, X69, X70, X71, X72, X73, X74, X75, X76, X77, X78, X79, X80, rfl⟩ hk
      obtain ⟨i, hi⟩ : ∃ i, (tr k).1 = i := ⟨_, rfl⟩
      obtain ⟨j, hj⟩ : ∃ j, (tr k).2 = j := ⟨_, rfl⟩
      have hn := tr_num k
      have him := tr_lt hk
      rw [hi, hj] at hn
      rw [hi] at him
      rw [hi, hj]
      have hjm : j < m := by omega
      have hh : u.has (i : Int) (j : Int) = true := (has_iff _ _ _).2 (by rw [HUM.out, HUC.out]; omega)
      have hlx : lx.length = n := h0.len.trans HLL.out
      have hQ := Lib.hid (fun a b => PL_next hi hj a b)
      obtain ⟨V, hV⟩ : ∃ V, (u.at_ c lx i j).toNat = V := ⟨_, rfl⟩
      have hAV : Hid (af V = ma U m i j) := Lib.hid (by rw [← hV]; show fa (u.at_ c lx i j) = _; rw [h0.old i j hh (PL_not hi hj), ← HFU.out]; unfold ma; rw [fl_at HUM.out HUC.out him hjm])
      have bV : V ≤ 18446744073709551615 := by
        rw [← hV]; unfold Vu.at_; rw [hh, if_pos rfl]
        have := h1.wd.at_ (u.ix c i j).toNat
        omega
      have pat := fun W (h : St W B s g cap c lx) => At_any (w := W) h (by rw [hlx]; exact HVK.out) i j
      rw [hV] at pat
      have HW0 := Lib.hid h0
      have WX := HSx.out.wd
      have WY := HSy.out.wd
      have hX := h8.fl WX
      have hY := h9.fl WY
      obtain ⟨ad3, hA3, _, _⟩ := hX.at_ (k := i) (by omega)
      obtain ⟨ad4, hA4, _, _⟩ := hY.at_ (k := i) (by omega)
      subst hA3
      subst hA4
      obtain ⟨lxi, uxi⟩ := hX.2.2.at_ i
      obtain ⟨Vxi, exi⟩ : ∃ V, (D X i).toNat = V := ⟨_, rfl⟩
      have bxi : Vxi ≤ 18446744073709551615 := by omega
      have HVxi : Hid (af Vxi = fa (D X i)) := Lib.hid (by rw [← exi]; rfl)
      have Exi := Lib.hid exi
      clear lxi uxi exi
      obtain ⟨lyj, uyj⟩ := hY.2.2.at_ j
      obtain ⟨Vyj, eyj⟩ : ∃ V, (D Y j).toNat = V := ⟨_, rfl⟩
      have byj : Vyj ≤ 18446744073709551615 := by omega
      have HVyj : Hid (af Vyj = fa (D Y j)) := Lib.hid (by rw [← eyj]; rfl)
      have Eyj := Lib.hid eyj
      clear lyj uyj eyj
      obtain ⟨lyi, uyi⟩ := hY.2.2.at_ i
      obtain ⟨Vyi, eyi⟩ : ∃ V, (D Y i).toNat = V := ⟨_, rfl⟩
      have byi : Vyi ≤ 18446744073709551615 := by omega
      have HVyi : Hid (af Vyi = fa (D Y i)) := Lib.hid (by rw [← eyi]; rfl)
      have Eyi := Lib.hid eyi
      clear lyi uyi eyi
      obtain ⟨lxj, uxj⟩ := hX.2.2.at_ j
      obtain ⟨Vxj, exj⟩ : ∃ V, (D X j).toNat = V := ⟨_, rfl⟩
      have bxj : Vxj ≤ 18446744073709551615 := by omega
      have HVxj : Hid (af Vxj = fa (D X j)) := Lib.hid (by rw [← exj]; rfl)
      have Exj := Lib.hid exj
      clear lxj uxj exj
      have i0 : (0 : Int) ≤ i := by omega
      have j0 : (0 : Int) ≤ j := by omega
      have ix : (i : Int) < X.length := by omega
      have iy : (i : Int) < Y.length := by omega
      have jx : (j : Int) < X.length := by omega
      have jy : (j : Int) < Y.length := by omega
      have inx : i < X.length := by omega
      have iny : i < Y.length := by omega
      have jnx : j < X.length := by omega
      have jny : j < Y.length := by omega
      have bz : Below W.heap.size W W := Below.refl _ W
      clear hi hj hn hV h0 hX hY
      gi_wp2
      have hbd := (Below.refl W.heap.size W).drew
      replace h1 := h1.on hbd
      replace h2 := h2.on hbd
      replace h3 := h3.on hbd
      replace h4 := h4.on hbd
      replace h5 := h5.on hbd
      replace h6 := h6.on hbd
      replace h7 := h7.on hbd
      replace h8 := h8.on_ hbd
      replace h9 := h9.on_ hbd
      replace bz := bz.trans (hbd.mono bz.size)
      clear hbd
      refine wpIn_region_S (S := fun w9 : World => Vbx w9 (w.heap.size + 3) u ∧ Blk w9 w.heap.size [.float .f64 a] ∧ Blk w9 p2 [.func (.func 85) #[u.V] #[]] ∧ Blk w9 p3 [.slice (some ad3) X.length c3] ∧ Blk w9 p4 [.slice (some ad4) Y.length c4] ∧ FL w9 (some ad3) X.length c3 X ∧ FL w9 (some ad4) Y.length c4 Y) (by kernel_rfl) (by kernel_rfl) ⟨h4, h3, h5, h6, h7, h8.fl WX, h9.fl WY⟩ (fun hS => ?_)
      refine wpAnyS_take (i := 0) (v := ?v0_13) rfl (by kernel_rfl) (by kernel_rfl) (by kernel_rfl) (fun _ _ _ h => h) (Or.inl ⟨by rfl, ?hy0_13⟩) (by assumption) ?rest0_13
      case hy0_13 => (intro w9 hSw; obtain ⟨m0, m1, m2, m3, m4, m5, m6⟩ := hSw; refine (ld_v (by rfl) (by kernel_rfl) m0).trans ?_; with_reducible rfl)
      try simp only [Act.put, List.setIfInBounds_toArray, List.set_cons_zero, List.set_cons_succ, List.getElem_toArray, List.getElem_cons_zero, List.getElem_cons_succ]
      refine wpAnyS_take (i := 1) (v := ?v1_14) rfl (by kernel_rfl) (by kernel_rfl) (by kernel_rfl) (fun _ _ _ h => h) (Or.inl ⟨by rfl, ?hy1_14⟩) (by assumption) ?rest1_14
      case hy1_14 => (intro w9 hSw; clear hSw; go_simp; try with_reducible rfl)
      try simp only [Act.put, List.setIfInBounds_toArray, List.set_cons_zero, List.set_cons_succ, List.getElem_toArray, List.getElem_cons_zero, List.getElem_cons_succ]
      refine wpAnyS_take (i := 2) (v := ?v2_15) rfl (by kernel_rfl) (by kernel_rfl) (by kernel_rfl) (fun _ _ _ h => h) (Or.inl ⟨by rfl, ?hy2_15⟩) (by assumption) ?rest2_15
      case hy2_15 => (intro w9 hSw; clear hSw; go_simp; try with_reducible rfl)
      try simp only [Act.put, List.setIfInBounds_toArray, List.set_cons_zero, List.set_cons_succ, List.getElem_toArray, List.getElem_cons_zero, List.getElem_cons_succ]
      refine wpAnyS_take (i := 4) (v := ?v4_16) rfl (by kernel_rfl) (by kernel_rfl) (by kernel_rfl) (fun _ _ _ h => h) (Or.inl ⟨by rfl, ?hy4_16⟩) (by assumption) ?rest4_16
      case hy4_16 => (intro w9 hSw; obtain ⟨m0, m1, m2, m3, m4, m5, m6⟩ := hSw; have c0 := Blk.cell m1 0 rfl; go_simp; try with_reducible rfl)
      try simp only [Act.put, List.setIfInBounds_toArray, List.set_cons_zero, List.set_cons_succ, List.getElem_toArray, List.getElem_cons_zero, List.getElem_cons_succ]
      refine wpAnyS_take (i := 5) (v := ?v5_17) rfl (by kernel_rfl) (by kernel_rfl) (by kernel_rfl) (fun _ _ _ h => h) (Or.inl ⟨by rfl, ?hy5_17⟩) (by assumption) ?rest5_17
      case hy5_17 => (intro w9 hSw; obtain ⟨m0, m1, m2, m3, m4, m5, m6⟩ := hSw; have c0 := Blk.cell m3 0 rfl; go_simp; try with_reducible rfl)
      try simp only [Act.put, List.setIfInBounds_toArray, List.set_cons_zero, List.set_cons_succ, List.getElem_toArray, List.getElem_cons_zero, List.getElem_cons_succ]
      refine wpAnyS_take (i := 6) (v := ?v6_18) rfl (by kernel_rfl) (by kernel_rfl) (by kernel_rfl) (fun _ _ _ h => h) (Or.inl ⟨by rfl, ?hy6_18⟩) (by assumption) ?rest6_18
      case hy6_18 => (intro w9 hSw; clear hSw; go_simp; try with_reducible rfl)
      try simp only [Act.put, List.setIfInBounds_toArray, List.set_cons_zero, List.set_cons_succ, List.getElem_toArray, List.getElem_cons_zero, List.getElem_cons_succ]
      refine wpAnyS_take (i := 7) (v := ?v7_19) rfl (by kernel_rfl) (by kernel_rfl) (by kernel_rfl) (fun _ _ _ h => h) (Or.inl ⟨by rfl, ?hy7_19⟩) (by assumption) ?rest7_19
      case hy7_19 => (intro w9 hSw; clear hSw; go_simp; try with_reducible rfl)
      try simp only [Act.put, List.setIfInBounds_toArray, List.set_cons_zero, List.set_cons_succ, List.getElem_toArray, List.getElem_cons_zero, List.getElem_cons_succ]
      refine wpAnyS_take (i := 8) (v := ?v8_20) rfl (by kernel_rfl) (by kernel_rfl) (by kernel_rfl) (fun _ _ _ h => h) (Or.inl ⟨by rfl, ?hy8_20⟩) (by assumption) ?rest8_20
      case hy8_20 => (intro w9 hSw; obtain ⟨m0, m1, m2, m3, m4, m5, m6⟩ := hSw; have c0 := FL.at_ad m5 (k := i) inx; rw [Exi.out] at c0; go_simp; try with_reducible rfl)
      try simp only [Act.put, List.setIfInBounds_toArray, List.set_cons_zero, List.set_cons_succ, List.getElem_toArray, List.getElem_cons_zero, List.getElem_cons_succ]
      refine wpAnyS_take (i := 10) (v := ?v10_21) rfl (by kernel_rfl) (by kernel_rfl) (by kernel_rfl) (fun _ _ _ h => h) (Or.inl ⟨by rfl, ?hy10_21⟩) (by assumption) ?rest10_21
      case hy10_21 => (intro w9 hSw; obtain ⟨m0, m1, m2, m3, m4, m5, m6⟩ := hSw; have c0 := Blk.cell m4 0 rfl; go_simp; try with_reducible rfl)
      try simp only [Act.put, List.setIfInBounds_toArray, List.set_cons_zero, List.set_cons_succ, List.getElem_toArray, List.getElem_cons_zero, List.getElem_cons_succ]
      refine wpAnyS_take (i := 11) (v := ?v11_22) rfl (by kernel_rfl) (by kernel_rfl) (by kernel_rfl) (fun _ _ _ h => h) (Or.inl ⟨by rfl, ?hy11_22⟩) (by assumption) ?rest11_22
      case hy11_22 => (intro w9 hSw; clear hSw; go_simp; try with_reducible rfl)
      try simp only [Act.put, List.setIfInBounds_toArray, List.set_cons_zero, List.set_cons_succ, List.getElem_toArray, List.getElem_cons_zero, List.getElem_cons_succ]
      refine wpAnyS_take (i := 12) (v := ?v12_23) rfl (by kernel_rfl) (by kernel_rfl) (by kernel_rfl) (fun _ _ _ h => h) (Or.inl ⟨by rfl, ?hy12_23⟩) (by assumption) ?rest12_23
      case hy12_23 => (intro w9 hSw; clear hSw; go_simp; try with_reducible rfl)
      try simp only [Act.put, List.setIfInBounds_toArray, List.set_cons_zero, List.set_cons_succ, List.getElem_toArray, List.getElem_cons_zero, List.getElem_cons_succ]
      refine wpAnyS_take (i := 13) (v := ?v13_24) rfl (by kernel_rfl) (by kernel_rfl) (by kernel_rfl) (fun _ _ _ h => h) (Or.inl ⟨by rfl, ?hy13_24⟩) (by assumption) ?rest13_24
      case hy13_24 => (intro w9 hSw; obtain ⟨m0, m1, m2, m3, m4, m5, m6⟩ := hSw; have c0 := FL.at_ad m6 (k := j) jny; rw [Eyj.out] at c0; go_simp; try with_reducible rfl)
      try simp only [Act.put, List.setIfInBounds_toArray, List.set_cons_zero, List.set_cons_succ, List.getElem_toArray, List.getElem_cons_zero, List.getElem_cons_succ]
      refine wpAnyS_ready (rs := [3, 9]) (by kernel_rfl) (by simp) ?_
      refine (AllReadyS.cons rfl (fun K hK => ?_) (AllReadyS.cons rfl (fun K hK => ?_) AllReadyS.nil))
      · go_simp
        with_reducible refine (pat _ h1).mono ?_
        rintro e w7 ⟨rfl, hb⟩
        replace h1 := h1.on hb
        replace h2 := h2.on hb
        replace h3 := h3.on hb
        replace h4 := h4.on hb
        replace h5 := h5.on hb
        replace h6 := h6.on hb
        replace h7 := h7.on hb
        replace h8 := h8.on_ hb
        replace h9 := h9.on_ hb
        replace bz := bz.trans (hb.mono bz.size)
        clear hb
        clear hS; refine hK.out _ _ ⟨h4, h3, h5, h6, h7, h8.fl WX, h9.fl WY⟩ (fun hS => ?_); clear hK K
        try simp only [Act.put, List.setIfInBounds_toArray, List.set_cons_zero, List.set_cons_succ, List.getElem_toArray, List.getElem_cons_zero, List.getElem_cons_succ]
        refine wpAnyS_ready (rs := [9]) (by kernel_rfl) (by simp) ?_
        refine AllReadyS.cons rfl (fun K hK => ?_) AllReadyS.nil
        refine step_arith .mul (.inr (.inr (.inl rfl))) rfl _ _ _ _ a Vxi rfl rfl rfl ba bxi ?_
        intro rp1 w8 hb hp1 bp1 hdr
        have Hp1 := Lib.hid hp1
        clear hp1 hdr
        replace h1 := h1.on hb
        replace h2 := h2.on hb
        replace h3 := h3.on hb
        replace h4 := h4.on hb
        replace h5 := h5.on hb
        replace h6 := h6.on hb
        replace h7 := h7.on hb
        replace h8 := h8.on_ hb
        replace h9 := h9.on_ hb
        replace bz := bz.trans (hb.mono bz.size)
        clear hb
        clear hS; refine hK.out _ _ ⟨h4, h3, h5, h6, h7, h8.fl WX, h9.fl WY⟩ (fun hS => ?_); clear hK K
        try simp only [Act.put, List.setIfInBounds_toArray, List.set_cons_zero, List.set_cons_succ, List.getElem_toArray, List.getElem_cons_zero, List.getElem_cons_succ]
        refine wpAnyS_ready (rs := [14]) (by kernel_rfl) (by simp) ?_
        refine AllReadyS.cons rfl (fun K hK => ?_) AllReadyS.nil
        refine step_arith .mul (.inr (.inr (.inl rfl))) rfl _ _ _ _ rp1 Vyj rfl rfl rfl bp1 byj ?_
        intro rp2 w9 hb hp2 bp2 hdr
        have Hp2 := Lib.hid hp2
        clear hp2 hdr
        replace h1 := h1.on hb
        replace h2 := h2.on hb
        replace h3 := h3.on hb
        replace h4 := h4.on hb
        replace h5 := h5.on hb
        replace h6 := h6.on hb
        replace h7 := h7.on hb
        replace h8 := h8.on_ hb
        replace h9 := h9.on_ hb
        replace bz := bz.trans (hb.mono bz.size)
        clear hb
        clear hS; refine hK.out _ _ ⟨h4, h3, h5, h6, h7, h8.fl WX, h9.fl WY⟩ (fun hS => ?_); clear hK K
        try simp only [Act.put, List.setIfInBounds_toArray, List.set_cons_zero, List.set_cons_succ, List.getElem_toArray, List.getElem_cons_zero, List.getElem_cons_succ]
        refine wpAnyS_ready (rs := [15]) (by kernel_rfl) (by simp) ?_
        refine AllReadyS.cons rfl (fun K hK => ?_) AllReadyS.nil
        refine step_arith .add (.inl rfl) rfl _ _ _ _ V rp2 rfl rfl rfl bV bp2 ?_
        intro rp3 w10 hb hp3 bp3 hdr
        have Hp3 := Lib.hid hp3
        clear hp3 hdr
        replace h1 := h1.on hb
        replace h2 := h2.on hb
        replace h3 := h3.on hb
        replace h4 := h4.on hb
        replace h5 := h5.on hb
        replace h6 := h6.on hb
        replace h7 := h7.on hb
        replace h8 := h8.on_ hb
        replace h9 := h9.on_ hb
        replace bz := bz.trans (hb.mono bz.size)
        clear hb
        clear hS; refine hK.out _ _ ⟨h4, h3, h5, h6, h7, h8.fl WX, h9.fl WY⟩ (fun hS => ?_); clear hK K
        try simp only [Act.put, List.setIfInBounds_toArray, List.set_cons_zero, List.set_cons_succ, List.getElem_toArray, List.getElem_cons_zero, List.getElem_cons_succ]
        refine wpAnyS_take (i := 16) (v := ?v16_25) rfl (by kernel_rfl) (by kernel_rfl) (by kernel_rfl) (fun _ _ _ h => h) (Or.inl ⟨by rfl, ?hy16_25⟩) (by assumption) ?rest16_25
        case hy16_25 => (intro w9 hSw; clear hSw; go_simp; try with_reducible rfl)
        try simp only [Act.put, List.setIfInBounds_toArray, List.set_cons_zero, List.set_cons_succ, List.getElem_toArray, List.getElem_cons_zero, List.getElem_cons_succ]
        refine wpAnyS_done (by kernel_rfl) ?_ _
        clear hS
        gi_wp2
        have hbd := (Below.refl w10.heap.size w10).drew
        replace h1 := h1.on hbd
        replace h2 := h2.on hbd
        replace h3 := h3.on hbd
        replace h4 := h4.on hbd
        replace h5 := h5.on hbd
        replace h6 := h6.on hbd
        replace h7 := h7.on hbd
        replace h8 := h8.on_ hbd
        replace h9 := h9.on_ hbd
        replace bz := bz.trans (hbd.mono bz.size)
        clear hbd
        refine wpIn_region_S (S := fun w9 : World => Vbx w9 (w.heap.size + 3) u ∧ Blk w9 w.heap.size [.float .f64 a] ∧ Blk w9 p2 [.func (.func 85) #[u.V] #[]] ∧ Blk w9 p3 [.slice (some ad3) X.length c3] ∧ Blk w9 p4 [.slice (some ad4) Y.length c4] ∧ FL w9 (some ad3) X.length c3 X ∧ FL w9 (some ad4) Y.length c4 Y) (by kernel_rfl) (by kernel_rfl) ⟨h4, h3, h5, h6, h7, h8.fl WX, h9.fl WY⟩ (fun hS => ?_)
        refine wpAnyS_take (i := 0) (v := ?v0_26) rfl (by kernel_rfl) (by kernel_rfl) (by kernel_rfl) (fun _ _ _ h => h) (Or.inl ⟨by rfl, ?hy0_26⟩) (by assumption) ?rest0_26
        case hy0_26 => (intro w9 hSw; obtain ⟨m0, m1, m2, m3, m4, m5, m6⟩ := hSw; have c0 := Blk.cell m2 0 rfl; go_simp; try with_reducible rfl)
        try simp only [Act.put, List.setIfInBounds_toArray, List.set_cons_zero, List.set_cons_succ, List.getElem_toArray, List.getElem_cons_zero, List.getElem_cons_succ]
        refine wpAnyS_take (i := 1) (v := ?v1_27) rfl (by kernel_rfl) (by kernel_rfl) (by kernel_rfl) (fun _ _ _ h => h) (Or.inl ⟨by rfl, ?hy1_27⟩) (by assumption) ?rest1_27
        case hy1_27 => (intro w9 hSw; clear hSw; go_simp; try with_reducible rfl)
        try simp only [Act.put, List.setIfInBounds_toArray, List.set_cons_zero, List.set_cons_succ, List.getElem_toArray, List.getElem_cons_zero, List.getElem_cons_succ]
        refine wpAnyS_take (i := 2) (v := ?v2_28) rfl (by kernel_rfl) (by kernel_rfl) (by kernel_rfl) (fun _ _ _ h => h) (Or.inl ⟨by rfl, ?hy2_28⟩) (by assumption) ?rest2_28
        case hy2_28 => (intro w9 hSw; clear hSw; go_simp; try with_reducible rfl)
        try simp only [Act.put, List.setIfInBounds_toArray, List.set_cons_zero, List.set_cons_succ, List.getElem_toArray, List.getElem_cons_zero, List.getElem_cons_succ]
        refine wpAnyS_take (i := 3) (v := ?v3_29) rfl (by kernel_rfl) (by kernel_rfl) (by kernel_rfl) (fun _ _ _ h => h) (Or.inl ⟨by rfl, ?hy3_29⟩) (by assumption) ?rest3_29
        case hy3_29 => (intro w9 hSw; clear hSw; go_simp; try with_reducible rfl)
        try simp only [Act.put, List.setIfInBounds_toArray, List.set_cons_zero, List.set_cons_succ, List.getElem_toArray, List.getElem_cons_zero, List.getElem_cons_succ]
        refine wpAnyS_take (i := 4) (v := ?v4_30) rfl (by kernel_rfl) (by kernel_rfl) (by kernel_rfl) (fun _ _ _ h => h) (Or.inl ⟨by rfl, ?hy4_30⟩) (by assumption) ?rest4_30
        case hy4_30 => (intro w9 hSw; obtain ⟨m0, m1, m2, m3, m4, m5, m6⟩ := hSw; have c0 := Blk.cell m1 0 rfl; go_simp; try with_reducible rfl)
        try simp only [Act.put, List.setIfInBounds_toArray, List.set_cons_zero, List.set_cons_succ, List.getElem_toArray, List.getElem_cons_zero, List.getElem_cons_succ]
        refine wpAnyS_take (i := 5) (v := ?v5_31) rfl (by kernel_rfl) (by kernel_rfl) (by kernel_rfl) (fun _ _ _ h => h) (Or.inl ⟨by rfl, ?hy5_31⟩) (by assumption) ?rest5_31
        case hy5_31 => (intro w9 hSw; obtain ⟨m0, m1, m2, m3, m4, m5, m6⟩ := hSw; have c0 := Blk.cell m4 0 rfl; go_simp; try with_reducible rfl)
        try simp only [Act.put, List.setIfInBounds_toArray, List.set_cons_zero, List.set_cons_succ, List.getElem_toArray, List.getElem_cons_zero, List.getElem_cons_succ]
        refine wpAnyS_take (i := 6) (v := ?v6_32) rfl (by kernel_rfl) (by kernel_rfl) (by kernel_rfl) (fun _ _ _ h => h) (Or.inl ⟨by rfl, ?hy6_32⟩) (by assumption) ?rest6_32
        case hy6_32 => (intro w9 hSw; clear hSw; go_simp; try with_reducible rfl)
        try simp only [Act.put, List.setIfInBounds_toArray, List.set_cons_zero, List.set_cons_succ, List.getElem_toArray, List.getElem_cons_zero, List.getElem_cons_succ]
        refine wpAnyS_take (i := 7) (v := ?v7_33) rfl (by kernel_rfl) (by kernel_rfl) (by kernel_rfl) (fun _ _ _ h => h) (Or.inl ⟨by rfl, ?hy7_33⟩) (by assumption) ?rest7_33
        case hy7_33 => (intro w9 hSw; clear hSw; go_simp; try with_reducible rfl)
        try simp only [Act.put, List.setIfInBounds_toArray, List.set_cons_zero, List.set_cons_succ, List.getElem_toArray, List.getElem_cons_zero, List.getElem_cons_succ]
        refine wpAnyS_take (i := 8) (v := ?v8_34) rfl (by kernel_rfl) (by kernel_rfl) (by kernel_rfl) (fun _ _ _ h => h) (Or.inl ⟨by rfl, ?hy8_34⟩) (by assumption) ?rest8_34
        case hy8_34 => (intro w9 hSw; obtain ⟨m0, m1, m2, m3, m4, m5, m6⟩ := hSw; have c0 := FL.at_ad m6 (k := i) iny; rw [Eyi.out] at c0; go_simp; try with_reducible rfl)
        try simp only [Act.put, List.setIfInBounds_toArray, List.set_cons_zero, List.set_cons_succ, List.getElem_toArray, List.getElem_cons_zero, List.getElem_cons_succ]
        refine wpAnyS_take (i := 10) (v := ?v10_35) rfl (by kernel_rfl) (by kernel_rfl) (by kernel_rfl) (fun _ _ _ h => h) (Or.inl ⟨by rfl, ?hy10_35⟩) (by assumption) ?rest10_35
        case hy10_35 => (intro w9 hSw; obtain ⟨m0, m1, m2, m3, m4, m5, m6⟩ := hSw; have c0 := Blk.cell m3 0 rfl; go_simp; try with_reducible rfl)
        try simp only [Act.put, List.setIfInBounds_toArray, List.set_cons_zero, List.set_cons_succ, List.getElem_toArray, List.getElem_cons_zero, List.getElem_cons_succ]
        refine wpAnyS_take (i := 11) (v := ?v11_36) rfl (by kernel_rfl) (by kernel_rfl) (by kernel_rfl) (fun _ _ _ h => h) (Or.inl ⟨by rfl, ?hy11_36⟩) (by assumption) ?rest11_36
        case hy11_36 => (intro w9 hSw; clear hSw; go_simp; try with_reducible rfl)
        try simp only [Act.put, List.setIfInBounds_toArray, List.set_cons_zero, List.set_cons_succ, List.getElem_toArray, List.getElem_cons_zero, List.getElem_cons_succ]
        refine wpAnyS_take (i := 12) (v := ?v12_37) rfl (by kernel_rfl) (by kernel_rfl) (by kernel_rfl) (fun _ _ _ h => h) (Or.inl ⟨by rfl, ?hy12_37⟩) (by assumption) ?rest12_37
        case hy12_37 => (intro w9 hSw; clear hSw; go_simp; try with_reducible rfl)
        try simp only [Act.put, List.setIfInBounds_toArray, List.set_cons_zero, List.set_cons_succ, List.getElem_toArray, List.getElem_cons_zero, List.getElem_cons_succ]
        refine wpAnyS_take (i := 13) (v := ?v13_38) rfl (by kernel_rfl) (by kernel_rfl) (by kernel_rfl) (fun _ _ _ h => h) (Or.inl ⟨by rfl, ?hy13_38⟩) (by assumption) ?rest13_38
        case hy13_38 => (intro w9 hSw; obtain ⟨m0, m1, m2, m3, m4, m5, m6⟩ := hSw; have c0 := FL.at_ad m5 (k := j) jnx; rw [Exj.out] at c0; go_simp; try with_reducible rfl)
        try simp only [Act.put, List.setIfInBounds_toArray, List.set_cons_zero, List.set_cons_succ, List.getElem_toArray, List.getElem_cons_zero, List.getElem_cons_succ]
        refine wpAnyS_ready (rs := [9]) (by kernel_rfl) (by simp) ?_
        refine AllReadyS.cons rfl (fun K hK => ?_) AllReadyS.nil
        refine step_arith .mul (.inr (.inr (.inl rfl))) rfl _ _ _ _ a Vyi rfl rfl rfl ba byi ?_
        intro rp4 w11 hb hp4 bp4 hdr
        have Hp4 := Lib.hid hp4
        clear hp4 hdr
        replace h1 := h1.on hb
        replace h2 := h2.on hb
        replace h3 := h3.on hb
        replace h4 := h4.on hb
        replace h5 := h5.on hb
        replace h6 := h6.on hb
        replace h7 := h7.on hb
        replace h8 := h8.on_ hb
        replace h9 := h9.on_ hb
        replace bz := bz.trans (hb.mono bz.size)
        clear hb
        clear hS; refine hK.out _ _ ⟨h4, h3, h5, h6, h7, h8.fl WX, h9.fl WY⟩ (fun hS => ?_); clear hK K
        try simp only [Act.put, List.setIfInBounds_toArray, List.set_cons_zero, List.set_cons_succ, List.getElem_toArray, List.getElem_cons_zero, List.getElem_cons_succ]
        refine wpAnyS_ready (rs := [14]) (by kernel_rfl) (by simp) ?_
        refine AllReadyS.cons rfl (fun K hK => ?_) AllReadyS.nil
        refine step_arith .mul (.inr (.inr (.inl rfl))) rfl _ _ _ _ rp4 Vxj rfl rfl rfl bp4 bxj ?_
        intro rp5 w12 hb hp5 bp5 hdr
        have Hp5 := Lib.hid hp5
        clear hp5 hdr
        replace h1 := h1.on hb
        replace h2 := h2.on hb
        replace h3 := h3.on hb
        replace h4 := h4.on hb
        replace h5 := h5.on hb
        replace h6 := h6.on hb
        replace h7 := h7.on hb
        replace h8 := h8.on_ hb
        replace h9 := h9.on_ hb
        replace bz := bz.trans (hb.mono bz.size)
        clear hb
        clear hS; refine hK.out _ _ ⟨h4, h3, h5, h6, h7, h8.fl WX, h9.fl WY⟩ (fun hS => ?_); clear hK K
        try simp only [Act.put, List.setIfInBounds_toArray, List.set_cons_zero, List.set_cons_succ, List.getElem_toArray, List.getElem_cons_zero, List.getElem_cons_succ]
        refine wpAnyS_ready (rs := [15]) (by kernel_rfl) (by simp) ?_
        refine AllReadyS.cons rfl (fun K hK => ?_) AllReadyS.nil
        refine step_arith .add (.inl rfl) rfl _ _ _ _ rp3 rp5 rfl rfl rfl bp3 bp5 ?_
        intro rp6 w13 hb hp6 bp6 hdr
        have Hp6 := Lib.hid hp6
        clear hp6 hdr
        replace h1 := h1.on hb
        replace h2 := h2.on hb
        replace h3 := h3.on hb
        replace h4 := h4.on hb
        replace h5 := h5.on hb
        replace h6 := h6.on hb
        replace h7 := h7.on hb
        replace h8 := h8.on_ hb
        replace h9 := h9.on_ hb
        replace bz := bz.trans (hb.mono bz.size)
        clear hb
        clear hS; refine hK.out _ _ ⟨h4, h3, h5, h6, h7, h8.fl WX, h9.fl WY⟩ (fun hS => ?_); clear hK K
        try simp only [Act.put, List.setIfInBounds_toArray, List.set_cons_zero, List.set_cons_succ, List.getElem_toArray, List.getElem_cons_zero, List.getElem_cons_succ]
        refine wpAnyS_ready (rs := [16]) (by kernel_rfl) (by simp) ?_
        refine AllReadyS.cons rfl (fun K hK => ?_) AllReadyS.nil
        go_simp
        have HR : af rp6 = f i j := by rw [Hp6.out, Hp5.out, Hp4.out, Hp3.out, Hp2.out, Hp1.out, hAV.out, HVxi.out, HVyj.out, HVyi.out, HVxj.out]; exact HF.out i j
        have pp := set_wr (w := w13) HW0.out HVK.out HIJ.out HLL.out h1 hh (r := rp6) (Q := PL (k + 1)) HR bp6 (fun a b _ => hQ.out a b)
        with_reducible refine pp.mono ?_
        rintro e w40 ⟨u5, lx2, rfl, hs2, hg2, hW2⟩
        replace h2 := h2.grown hg2 (by simp <;> omega)
        replace h3 := h3.grown hg2 (by simp <;> omega)
        replace h4 := h4.grown hg2 (by simp <;> omega)
        replace h5 := h5.grown hg2 (by simp <;> omega)
        replace h6 := h6.grown hg2 (by simp <;> omega)
        replace h7 := h7.grown hg2 (by simp <;> omega)
        replace h8 := h8.far hg2 (by omega)
        replace h9 := h9.far hg2 (by omega)
        have hkf := (keepsFrom_below (B := W0.heap.size) bz).trans (KeepsFrom.of_grownBy hg2 (fun j e => by injection e with e; omega))
        have hgr := grown_trans (grown_on h10 bz) hg2
        clear hS; refine hK.out _ _ ⟨h4, h3, h5, h6, h7, h8.fl WX, h9.fl WY⟩ (fun hS => ?_); clear hK K
        try simp only [Act.put, List.setIfInBounds_toArray, List.set_cons_zero, List.set_cons_succ, List.getElem_toArray, List.getElem_cons_zero, List.getElem_cons_succ]
        refine wpAnyS_done (by kernel_rfl) ?_ _
        skip
        exact ⟨hkf, lx2, hW2, hs2, h2, h3, h4, h5, h6, h7, h8, h9, hgr⟩
      refine step_arith .mul (.inr (.inr (.inl rfl))) rfl _ _ _ _ a Vxi rfl rfl rfl ba bxi ?_
      intro rp1 w7 hb hp1 bp1 hdr
      have Hp1 := Lib.hid hp1
      clear hp1 hdr
      replace h1 := h1.on hb
      replace h2 := h2.on hb
      replace h3 := h3.on hb
      replace h4 := h4.on hb
      replace h5 := h5.on hb
      replace h6 := h6.on hb
      replace h7 := h7.on hb
      replace h8 := h8.on_ hb
      replace h9 := h9.on_ hb
      replace bz := bz.trans (hb.mono bz.size)
      clear hb
      clear hS; refine hK.out _ _ ⟨h4, h3, h5, h6, h7, h8.fl WX, h9.fl WY⟩ (fun hS => ?_); clear hK K
      try simp only [Act.put, List.setIfInBounds_toArray, List.set_cons_zero, List.set_cons_succ, List.getElem_toArray, List.getElem_cons_zero, List.getElem_cons_succ]
      refine wpAnyS_ready (rs := [3, 14]) (by kernel_rfl) (by simp) ?_
      refine (AllReadyS.cons rfl (fun K hK => ?_) (AllReadyS.cons rfl (fun K hK => ?_) AllReadyS.nil))
      · go_simp
        with_reducible refine (pat _ h1).mono ?_
        rintro e w8 ⟨rfl, hb⟩
        replace h1 := h1.on hb
        replace h2 := h2.on hb
        replace h3 := h3.on hb
        replace h4 := h4.on hb
        replace h5 := h5.on hb
        replace h6 := h6.on hb
        replace h7 := h7.on hb
        replace h8 := h8.on_ hb
        replace h9 := h9.on_ hb
        replace bz := bz.trans (hb.mono bz.size)
        clear hb
        clear hS; refine hK.out _ _ ⟨h4, h3, h5, h6, h7, h8.fl WX, h9.fl WY⟩ (fun hS => ?_); clear hK K
        try simp only [Act.put, List.setIfInBounds_toArray, List.set_cons_zero, List.set_cons_succ, List.getElem_toArray, List.getElem_cons_zero, List.getElem_cons_succ]
        refine wpAnyS_ready (rs := [14]) (by kernel_rfl) (by simp) ?_
        refine AllReadyS.cons rfl (fun K hK => ?_) AllReadyS.nil
        refine step_arith .mul (.inr (.inr (.inl rfl))) rfl _ _ _ _ rp1 Vyj rfl rfl rfl bp1 byj ?_
        intro rp2 w9 hb hp2 bp2 hdr
        have Hp2 := Lib.hid hp2
        clear hp2 hdr
        replace h1 := h1.on hb
        replace h2 := h2.on hb
        replace h3 := h3.on hb
        replace h4 := h4.on hb
        replace h5 := h5.on hb
        replace h6 := h6.on hb
        replace h7 := h7.on hb
        replace h8 := h8.on_ hb
        replace h9 := h9.on_ hb
        replace bz := bz.trans (hb.mono bz.size)
        clear hb
        clear hS; refine hK.out _ _ ⟨h4, h3, h5, h6, h7, h8.fl WX, h9.fl WY⟩ (fun hS => ?_); clear hK K
        try simp only [Act.put, List.setIfInBounds_toArray, List.set_cons_zero, List.set_cons_succ, List.getElem_toArray, List.getElem_cons_zero, List.getElem_cons_succ]
        refine wpAnyS_ready (rs := [15]) (by kernel_rfl) (by simp) ?_
        refine AllReadyS.cons rfl (fun K hK => ?_) AllReadyS.nil
        refine step_arith .add (.inl rfl) rfl _ _ _ _ V rp2 rfl rfl rfl bV bp2 ?_
        intro rp3 w10 hb hp3 bp3 hdr
        have Hp3 := Lib.hid hp3
        clear hp3 hdr
        replace h1 := h1.on hb
        replace h2 := h2.on hb
        replace h3 := h3.on hb
        replace h4 := h4.on hb
        replace h5 := h5.on hb
        replace h6 := h6.on hb
        replace h7 := h7.on hb
        replace h8 := h8.on_ hb
        replace h9 := h9.on_ hb
        replace bz := bz.trans (hb.mono bz.size)
        clear hb
        clear hS; refine hK.out _ _ ⟨h4, h3, h5, h6, h7, h8.fl WX, h9.fl WY⟩ (fun hS => ?_); clear hK K
        try simp only [Act.put, List.setIfInBounds_toArray, List.set_cons_zero, List.set_cons_succ, List.getElem_toArray, List.getElem_cons_zero, List.getElem_cons_succ]
        refine wpAnyS_take (i := 16) (v := ?v16_39) rfl (by kernel_rfl) (by kernel_rfl) (by kernel_rfl) (fun _ _ _ h => h) (Or.inl ⟨by rfl, ?hy16_39⟩) (by assumption) ?rest16_39
        case hy16_39 => (intro w9 hSw; clear hSw; go_simp; try with_reducible rfl)
        try simp only [Act.put, List.setIfInBounds_toArray, List.set_cons_zero, List.set_cons_succ, List.getElem_toArray, List.getElem_cons_zero, List.getElem_cons_succ]
        refine wpAnyS_done (by kernel_rfl) ?_ _
        clear hS
        gi_wp2
        have hbd := (Below.refl w10.heap.size w10).drew
        replace h1 := h1.on hbd
        replace h2 := h2.on hbd
        replace h3 := h3.on hbd
        replace h4 := h4.on hbd
        replace h5 := h5.on hbd
        replace h6 := h6.on hbd
        replace h7 := h7.on hbd
        replace h8 := h8.on_ hbd
        replace h9 := h9.on_ hbd
        replace bz := bz.trans (hbd.mono bz.size)
        clear hbd
        refine wpIn_region_S (S := fun w9 : World => Vbx w9 (w.heap.size + 3) u ∧ Blk w9 w.heap.size [.float .f64 a] ∧ Blk w9 p2 [.func (.func 85) #[u.V] #[]] ∧ Blk w9 p3 [.slice (some ad3) X.length c3] ∧ Blk w9 p4 [.slice (some ad4) Y.length c4] ∧ FL w9 (some ad3) X.length c3 X ∧ FL w9 (some ad4) Y.length c4 Y) (by kernel_rfl) (by kernel_rfl) ⟨h4, h3, h5, h6, h7, h8.fl WX, h9.fl WY⟩ (fun hS => ?_)
        refine wpAnyS_take (i := 0) (v := ?v0_40) rfl (by kernel_rfl) (by kernel_rfl) (by kernel_rfl) (fun _ _ _ h => h) (Or.inl ⟨by rfl, ?hy0_40⟩) (by assumption) ?rest0_40
        case hy0_40 => (intro w9 hSw; obtain ⟨m0, m1, m2, m3, m4, m5, m6⟩ := hSw; have c0 := Blk.cell m2 0 rfl; go_simp; try with_reducible rfl)
        try simp only [Act.put, List.setIfInBounds_toArray, List.set_cons_zero, List.set_cons_succ, List.getElem_toArray, List.getElem_cons_zero, List.getElem_cons_succ]
        refine wpAnyS_take (i := 1) (v := ?v1_41) rfl (by kernel_rfl) (by kernel_rfl) (by kernel_rfl) (fun _ _ _ h => h) (Or.inl ⟨by rfl, ?hy1_41⟩) (by assumption) ?rest1_41
        case hy1_41 => (intro w9 hSw; clear hSw; go_simp; try with_reducible rfl)
        try simp only [Act.put, List.setIfInBounds_toArray, List.set_cons_zero, List.set_cons_succ, List.getElem_toArray, List.getElem_cons_zero, List.getElem_cons_succ]
        refine wpAnyS_take (i := 2) (v := ?v2_42) rfl (by kernel_rfl) (by kernel_rfl) (by kernel_rfl) (fun _ _ _ h => h) (Or.inl ⟨by rfl, ?hy2_42⟩) (by assumption) ?rest2_42
        case hy2_42 => (intro w9 hSw; clear hSw; go_simp; try with_reducible rfl)
        try simp only [Act.put, List.setIfInBounds_toArray, List.set_cons_zero, List.set_cons_succ, List.getElem_toArray, List.getElem_cons_zero, List.getElem_cons_succ]
        refine wpAnyS_take (i := 3) (v := ?v3_43) rfl (by kernel_rfl) (by kernel_rfl) (by kernel_rfl) (fun _ _ _ h => h) (Or.inl ⟨by rfl, ?hy3_43⟩) (by assumption) ?rest3_43
        case hy3_43 => (intro w9 hSw; clear hSw; go_simp; try with_reducible rfl)
        try simp only [Act.put, List.setIfInBounds_toArray, List.set_cons_zero, List.set_cons_succ, List.getElem_toArray, List.getElem_cons_zero, List.getElem_cons_succ]
        refine wpAnyS_take (i := 4) (v := ?v4_44) rfl (by kernel_rfl) (by kernel_rfl) (by kernel_rfl) (fun _ _ _ h => h) (Or.inl ⟨by rfl, ?hy4_44⟩) (by assumption) ?rest4_44
        case hy4_44 => (intro w9 hSw; obtain ⟨m0, m1, m2, m3, m4, m5, m6⟩ := hSw; have c0 := Blk.cell m1 0 rfl; go_simp; try with_reducible rfl)
        try simp only [Act.put, List.setIfInBounds_toArray, List.set_cons_zero, List.set_cons_succ, List.getElem_toArray, List.getElem_cons_zero, List.getElem_cons_succ]
        refine wpAnyS_take (i := 5) (v := ?v5_45) rfl (by kernel_rfl) (by kernel_rfl) (by kernel_rfl) (fun _ _ _ h => h) (Or.inl ⟨by rfl, ?hy5_45⟩) (by assumption) ?rest5_45
        case hy5_45 => (intro w9 hSw; obtain ⟨m0, m1, m2, m3, m4, m5, m6⟩ := hSw; have c0 := Blk.cell m4 0 rfl; go_simp; try with_reducible rfl)
        try simp only [Act.put, List.setIfInBounds_toArray, List.set_cons_zero, List.set_cons_succ, List.getElem_toArray, List.getElem_cons_zero, List.getElem_cons_succ]
        refine wpAnyS_take (i := 6) (v := ?v6_46) rfl (by kernel_rfl) (by kernel_rfl) (by kernel_rfl) (fun _ _ _ h => h) (Or.inl ⟨by rfl, ?hy6_46⟩) (by assumption) ?rest6_46
        case hy6_46 => (intro w9 hSw; clear hSw; go_simp; try with_reducible rfl)
        try simp only [Act.put, List.setIfInBounds_toArray, List.set_cons_zero, List.set_cons_succ, List.getElem_toArray, List.getElem_cons_zero, List.getElem_cons_succ]
        refine wpAnyS_take (i := 7) (v := ?v7_47) rfl (by kernel_rfl) (by kernel_rfl) (by kernel_rfl) (fun _ _ _ h => h) (Or.inl ⟨by rfl, ?hy7_47⟩) (by assumption) ?rest7_47
        case hy7_47 => (intro w9 hSw; clear hSw; go_simp; try with_reducible rfl)
        try simp only [Act.put, List.setIfInBounds_toArray, List.set_cons_zero, List.set_cons_succ, List.getElem_toArray, List.getElem_cons_zero, List.getElem_cons_succ]
        refine wpAnyS_take (i := 8) (v := ?v8_48) rfl (by kernel_rfl) (by kernel_rfl) (by kernel_rfl) (fun _ _ _ h => h) (Or.inl ⟨by rfl, ?hy8_48⟩) (by assumption) ?rest8_48
        case hy8_48 => (intro w9 hSw; obtain ⟨m0, m1, m2, m3, m4, m5, m6⟩ := hSw; have c0 := FL.at_ad m6 (k := i) iny; rw [Eyi.out] at c0; go_simp; try with_reducible rfl)
        try simp only [Act.put, List.setIfInBounds_toArray, List.set_cons_zero, List.set_cons_succ, List.getElem_toArray, List.getElem_cons_zero, List.getElem_cons_succ]
        refine wpAnyS_take (i := 10) (v := ?v10_49) rfl (by kernel_rfl) (by kernel_rfl) (by kernel_rfl) (fun _ _ _ h => h) (Or.inl ⟨by rfl, ?hy10_49⟩) (by assumption) ?rest10_49
        case hy10_49 => (intro w9 hSw; obtain ⟨m0, m1, m2, m3, m4, m5, m6⟩ := hSw; have c0 := Blk.cell m3 0 rfl; go_simp; try with_reducible rfl)
        try simp only [Act.put, List.setIfInBounds_toArray, List.set_cons_zero, List.set_cons_succ, List.getElem_toArray, List.getElem_cons_zero, List.getElem_cons_succ]
        refine wpAnyS_take (i := 11) (v := ?v11_50) rfl (by kernel_rfl) (by kernel_rfl) (by kernel_rfl) (fun _ _ _ h => h) (Or.inl ⟨by rfl, ?hy11_50⟩) (by assumption) ?rest11_50
        case hy11_50 => (intro w9 hSw; clear hSw; go_simp; try with_reducible rfl)
        try simp only [Act.put, List.setIfInBounds_toArray, List.set_cons_zero, List.set_cons_succ, List.getElem_toArray, List.getElem_cons_zero, List.getElem_cons_succ]
        refine wpAnyS_take (i := 12) (v := ?v12_51) rfl (by kernel_rfl) (by kernel_rfl) (by kernel_rfl) (fun _ _ _ h => h) (Or.inl ⟨by rfl, ?hy12_51⟩) (by assumption) ?rest12_51
        case hy12_51 => (intro w9 hSw; clear hSw; go_simp; try with_reducible rfl)
        try simp only [Act.put, List.setIfInBounds_toArray, List.set_cons_zero, List.set_cons_succ, List.getElem_toArray, List.getElem_cons_zero, List.getElem_cons_succ]
        refine wpAnyS_take (i := 13) (v := ?v13_52) rfl (by kernel_rfl) (by kernel_rfl) (by kernel_rfl) (fun _ _ _ h => h) (Or.inl ⟨by rfl, ?hy13_52⟩) (by assumption) ?rest13_52
        case hy13_52 => (intro w9 hSw; obtain ⟨m0, m1, m2, m3, m4, m5, m6⟩ := hSw; have c0 := FL.at_ad m5 (k := j) jnx; rw [Exj.out] at c0; go_simp; try with_reducible rfl)
        try simp only [Act.put, List.setIfInBounds_toArray, List.set_cons_zero, List.set_cons_succ, List.getElem_toArray, List.getElem_cons_zero, List.getElem_cons_succ]
        refine wpAnyS_ready (rs := [9]) (by kernel_rfl) (by simp) ?_
        refine AllReadyS.cons rfl (fun K hK => ?_) AllReadyS.nil
        refine step_arith .mul (.inr (.inr (.inl rfl))) rfl _ _ _ _ a Vyi rfl rfl rfl ba byi ?_
        intro rp4 w11 hb hp4 bp4 hdr
        have Hp4 := Lib.hid hp4
        clear hp4 hdr
        replace h1 := h1.on hb
        replace h2 := h2.on hb
        replace h3 := h3.on hb
        replace h4 := h4.on hb
        replace h5 := h5.on hb
        replace h6 := h6.on hb
        replace h7 := h7.on hb
        replace h8 := h8.on_ hb
        replace h9 := h9.on_ hb
        replace bz := bz.trans (hb.mono bz.size)
        clear hb
        clear hS; refine hK.out _ _ ⟨h4, h3, h5, h6, h7, h8.fl WX, h9.fl WY⟩ (fun hS => ?_); clear hK K
        try simp only [Act.put, List.setIfInBounds_toArray, List.set_cons_zero, List.set_cons_succ, List.getElem_toArray, List.getElem_cons_zero, List.getElem_cons_succ]
        refine wpAnyS_ready (rs := [14]) (by kernel_rfl) (by simp) ?_
        refine AllReadyS.cons rfl (fun K hK => ?_) AllReadyS.nil
        refine step_arith .mul (.inr (.inr (.inl rfl))) rfl _ _ _ _ rp4 Vxj rfl rfl rfl bp4 bxj ?_
        intro rp5 w12 hb hp5 bp5 hdr
        have Hp5 := Lib.hid hp5
        clear hp5 hdr
        replace h1 := h1.on hb
        replace h2 := h2.on hb
        replace h3 := h3.on hb
        replace h4 := h4.on hb
        replace h5 := h5.on hb
        replace h6 := h6.on hb
        replace h7 := h7.on hb
        replace h8 := h8.on_ hb
        replace h9 := h9.on_ hb
        replace bz := bz.trans (hb.mono bz.size)
        clear hb
        clear hS; refine hK.out _ _ ⟨h4, h3, h5, h6, h7, h8.fl WX, h9.fl WY⟩ (fun hS => ?_); clear hK K
        try simp only [Act.put, List.setIfInBounds_toArray, List.set_cons_zero, List.set_cons_succ, List.getElem_toArray, List.getElem_cons_zero, List.getElem_cons_succ]
        refine wpAnyS_ready (rs := [15]) (by kernel_rfl) (by simp) ?_
        refine AllReadyS.cons rfl (fun K hK => ?_) AllReadyS.nil
        refine step_arith .add (.inl rfl) rfl _ _ _ _ rp3 rp5 rfl rfl rfl bp3 bp5 ?_
        intro rp6 w13 hb hp6 bp6 hdr
        have Hp6 := Lib.hid hp6
        clear hp6 hdr
        replace h1 := h1.on hb
        replace h2 := h2.on hb
        replace h3 := h3.on hb
        replace h4 := h4.on hb
        replace h5 := h5.on hb
        replace h6 := h6.on hb
        replace h7 := h7.on hb
        replace h8 := h8.on_ hb
        replace h9 := h9.on_ hb
        replace bz := bz.trans (hb.mono bz.size)
        clear hb
        clear hS; refine hK.out _ _ ⟨h4, h3, h5, h6, h7, h8.fl WX, h9.fl WY⟩ (fun hS => ?_); clear hK K
        try simp only [Act.put, List.setIfInBounds_toArray, List.set_cons_zero, List.set_cons_succ, List.getElem_toArray, List.getElem_cons_zero, List.getElem_cons_succ]
        refine wpAnyS_ready (rs := [16]) (by kernel_rfl) (by simp) ?_
        refine AllReadyS.cons rfl (fun K hK => ?_) AllReadyS.nil
        go_simp
        have HR : af rp6 = f i j := by rw [Hp6.out, Hp5.out, Hp4.out, Hp3.out, Hp2.out, Hp1.out, hAV.out, HVxi.out, HVyj.out, HVyi.out, HVxj.out]; exact HF.out i j
        have pp := set_wr (w := w13) HW0.out HVK.out HIJ.out HLL.out h1 hh (r := rp6) (Q := PL (k + 1)) HR bp6 (fun a b _ => hQ.out a b)
        with_reducible refine pp.mono ?_
        rintro e w40 ⟨u5, lx2, rfl, hs2, hg2, hW2⟩
        replace h2 := h2.grown hg2 (by simp <;> omega)
        replace h3 := h3.grown hg2 (by simp <;> omega)
        replace h4 := h4.grown hg2 (by simp <;> omega)
        replace h5 := h5.grown hg2 (by simp <;> omega)
        replace h6 := h6.grown hg2 (by simp <;> omega)
        replace h7 := h7.grown hg2 (by simp <;> omega)
        replace h8 := h8.far hg2 (by omega)
        replace h9 := h9.far hg2 (by omega)
        have hkf := (keepsFrom_below (B := W0.heap.size) bz).trans (KeepsFrom.of_grownBy hg2 (fun j e => by injection e with e; omega))
        have hgr := grown_trans (grown_on h10 bz) hg2
        clear hS; refine hK.out _ _ ⟨h4, h3, h5, h6, h7, h8.fl WX, h9.fl WY⟩ (fun hS => ?_); clear hK K
        try simp only [Act.put, List.setIfInBounds_toArray, List.set_cons_zero, List.set_cons_succ, List.getElem_toArray, List.getElem_cons_zero, List.getElem_cons_succ]
        refine wpAnyS_done (by kernel_rfl) ?_ _
        skip
        exact ⟨hkf, lx2, hW2, hs2, h2, h3, h4, h5, h6, h7, h8, h9, hgr⟩
      refine step_arith .mul (.inr (.inr (.inl rfl))) rfl _ _ _ _ rp1 Vyj rfl rfl rfl bp1 byj ?_
      intro rp2 w8 hb hp2 bp2 hdr
      have Hp2 := Lib.hid hp2
      clear hp2 hdr
      replace h1 := h1.on hb
      replace h2 := h2.on hb
      replace h3 := h3.on hb
      replace h4 := h4.on hb
      replace h5 := h5.on hb
      replace h6 := h6.on hb
      replace h7 := h7.on hb
      replace h8 := h8.on_ hb
      replace h9 := h9.on_ hb
      replace bz := bz.trans (hb.mono bz.size)
      clear hb
      clear hS; refine hK.out _ _ ⟨h4, h3, h5, h6, h7, h8.fl WX, h9.fl WY⟩ (fun hS => ?_); clear hK K
      try simp only [Act.put, List.setIfInBounds_toArray, List.set_cons_zero, List.set_cons_succ, List.getElem_toArray, List.getElem_cons_zero, List.getElem_cons_succ]
      refine wpAnyS_ready (rs := [3]) (by kernel_rfl) (by simp) ?_
      refine AllReadyS.cons rfl (fun K hK => ?_) AllReadyS.nil
      go_simp
      with_reducible refine (pat _ h1).mono ?_
      rintro e w9 ⟨rfl, hb⟩
      replace h1 := h1.on hb
      replace h2 := h2.on hb
      replace h3 := h3.on hb
      replace h4 := h4.on hb
      replace h5 := h5.on hb
      replace h6 := h6.on hb
      replace h7 := h7.on hb
      replace h8 := h8.on_ hb
      replace h9 := h9.on_ hb
      replace bz := bz.trans (hb.mono bz.size)
      clear hb
      clear hS; refine hK.out _ _ ⟨h4, h3, h5, h6, h7, h8.fl WX, h9.fl WY⟩ (fun hS => ?_); clear hK K
      try simp only [Act.put, List.setIfInBounds_toArray, List.set_cons_zero, List.set_cons_succ, List.getElem_toArray, List.getElem_cons_zero, List.getElem_cons_succ]
      refine wpAnyS_ready (rs := [15]) (by kernel_rfl) (by simp) ?_
      refine AllReadyS.cons rfl (fun K hK => ?_) AllReadyS.nil
      refine step_arith .add (.inl rfl) rfl _ _ _ _ V rp2 rfl rfl rfl bV bp2 ?_
      intro rp3 w10 hb hp3 bp3 hdr
      have Hp3 := Lib.hid hp3
      clear hp3 hdr
      replace h1 := h1.on hb
      replace h2 := h2.on hb
      replace h3 := h3.on hb
      replace h4 := h4.on hb
      replace h5 := h5.on hb
      replace h6 := h6.on hb
      replace h7 := h7.on hb
      replace h8 := h8.on_ hb
      replace h9 := h9.on_ hb
      replace bz := bz.trans (hb.mono bz.size)
      clear hb
      clear hS; refine hK.out _ _ ⟨h4, h3, h5, h6, h7, h8.fl WX, h9.fl WY⟩ (fun hS => ?_); clear hK K
      try simp only [Act.put, List.setIfInBounds_toArray, List.set_cons_zero, List.set_cons_succ, List.getElem_toArray, List.getElem_cons_zero, List.getElem_cons_succ]
      refine wpAnyS_take (i := 16) (v := ?v16_53) rfl (by kernel_rfl) (by kernel_rfl) (by kernel_rfl) (fun _ _ _ h => h) (Or.inl ⟨by rfl, ?hy16_53⟩) (by assumption) ?rest16_53
      case hy16_53 => (intro w9 hSw; clear hSw; go_simp; try with_reducible rfl)
      try simp only [Act.put, List.setIfInBounds_toArray, List.set_cons_zero, List.set_cons_succ, List.getElem_toArray, List.getElem_cons_zero, List.getElem_cons_succ]
      refine wpAnyS_done (by kernel_rfl) ?_ _
      clear hS
      gi_wp2
      have hbd := (Below.refl w10.heap.size w10).drew
      replace h1 := h1.on hbd
      replace h2 := h2.on hbd
      replace h3 := h3.on hbd
      replace h4 := h4.on hbd
      replace h5 := h5.on hbd
      replace h6 := h6.on hbd
      replace h7 := h7.on hbd
      replace h8 := h8.on_ hbd
      replace h9 := h9.on_ hbd
      replace bz := bz.trans (hbd.mono bz.size)
      clear hbd
      refine wpIn_region_S (S := fun w9 : World => Vbx w9 (w.heap.size + 3) u ∧ Blk w9 w.heap.size [.float .f64 a] ∧ Blk w9 p2 [.func (.func 85) #[u.V] #[]] ∧ Blk w9 p3 [.slice (some ad3) X.length c3] ∧ Blk w9 p4 [.slice (some ad4) Y.length c4] ∧ FL w9 (some ad3) X.length c3 X ∧ FL w9 (some ad4) Y.length c4 Y) (by kernel_rfl) (by kernel_rfl) ⟨h4, h3, h5, h6, h7, h8.fl WX, h9.fl WY⟩ (fun hS => ?_)
      refine wpAnyS_take (i := 0) (v := ?v0_54) rfl (by kernel_rfl) (by kernel_rfl) (by kernel_rfl) (fun _ _ _ h => h) (Or.inl ⟨by rfl, ?hy0_54⟩) (by assumption) ?rest0_54
      case hy0_54 => (intro w9 hSw; obtain ⟨m0, m1, m2, m3, m4, m5, m6⟩ := hSw; have c0 := Blk.cell m2 0 rfl; go_simp; try with_reducible rfl)
      try simp only [Act.put, List.setIfInBounds_toArray, List.set_cons_zero, List.set_cons_succ, List.getElem_toArray, List.getElem_cons_zero, List.getElem_cons_succ]
      refine wpAnyS_take (i := 1) (v := ?v1_55) rfl (by kernel_rfl) (by kernel_rfl) (by kernel_rfl) (fun _ _ _ h => h) (Or.inl ⟨by rfl, ?hy1_55⟩) (by assumption) ?rest1_55
      case hy1_55 => (intro w9 hSw; clear hSw; go_simp; try with_reducible rfl)
      try simp only [Act.put, List.setIfInBounds_toArray, List.set_cons_zero, List.set_cons_succ, List.getElem_toArray, List.getElem_cons_zero, List.getElem_cons_succ]
      refine wpAnyS_take (i := 2) (v := ?v2_56) rfl (by kernel_rfl) (by kernel_rfl) (by kernel_rfl) (fun _ _ _ h => h) (Or.inl ⟨by rfl, ?hy2_56⟩) (by assumption) ?rest2_56
      case hy2_56 => (intro w9 hSw; clear hSw; go_simp; try with_reducible rfl)
      try simp only [Act.put, List.setIfInBounds_toArray, List.set_cons_zero, List.set_cons_succ, List.getElem_toArray, List.getElem_cons_zero, List.getElem_cons_succ]
      refine wpAnyS_take (i := 3) (v := ?v3_57) rfl (by kernel_rfl) (by kernel_rfl) (by kernel_rfl) (fun _ _ _ h => h) (Or.inl ⟨by rfl, ?hy3_57⟩) (by assumption) ?rest3_57
      case hy3_57 => (intro w9 hSw; clear hSw; go_simp; try with_reducible rfl)
      try simp only [Act.put, List.setIfInBounds_toArray, List.set_cons_zero, List.set_cons_succ, List.getElem_toArray, List.getElem_cons_zero, List.getElem_cons_succ]
      refine wpAnyS_take (i := 4) (v := ?v4_58) rfl (by kernel_rfl) (by kernel_rfl) (by kernel_rfl) (fun _ _ _ h => h) (Or.inl ⟨by rfl, ?hy4_58⟩) (by assumption) ?rest4_58
      case hy4_58 => (intro w9 hSw; obtain ⟨m0, m1, m2, m3, m4, m5, m6⟩ := hSw; have c0 := Blk.cell m1 0 rfl; go_simp; try with_reducible rfl)
      try simp only [Act.put, List.setIfInBounds_toArray, List.set_cons_zero, List.set_cons_succ, List.getElem_toArray, List.getElem_cons_zero, List.getElem_cons_succ]
      refine wpAnyS_take (i := 5) (v := ?v5_59) rfl (by kernel_rfl) (by kernel_rfl) (by kernel_rfl) (fun _ _ _ h => h) (Or.inl ⟨by rfl, ?hy5_59⟩) (by assumption) ?rest5_59
      case hy5_59 => (intro w9 hSw; obtain ⟨m0, m1, m2, m3, m4, m5, m6⟩ := hSw; have c0 := Blk.cell m4 0 rfl; go_simp; try with_reducible rfl)
      try simp only [Act.put, List.setIfInBounds_toArray, List.set_cons_zero, List.set_cons_succ, List.getElem_toArray, List.getElem_cons_zero, List.getElem_cons_succ]
      refine wpAnyS_take (i := 6) (v := ?v6_60) rfl (by kernel_rfl) (by kernel_rfl) (by kernel_rfl) (fun _ _ _ h => h) (Or.inl ⟨by rfl, ?hy6_60⟩) (by assumption) ?rest6_60
      case hy6_60 => (intro w9 hSw; clear hSw; go_simp; try with_reducible rfl)
      try simp only [Act.put, List.setIfInBounds_toArray, List.set_cons_zero, List.set_cons_succ, List.getElem_toArray, List.getElem_cons_zero, List.getElem_cons_succ]
      refine wpAnyS_take (i := 7) (v := ?v7_61) rfl (by kernel_rfl) (by kernel_rfl) (by kernel_rfl) (fun _ _ _ h => h) (Or.inl ⟨by rfl, ?hy7_61⟩) (by assumption) ?rest7_61
      case hy7_61 => (intro w9 hSw; clear hSw; go_simp; try with_reducible rfl)
      try simp only [Act.put, List.setIfInBounds_toArray, List.set_cons_zero, List.set_cons_succ, List.getElem_toArray, List.getElem_cons_zero, List.getElem_cons_succ]
      refine wpAnyS_take (i := 8) (v := ?v8_62) rfl (by kernel_rfl) (by kernel_rfl) (by kernel_rfl) (fun _ _ _ h => h) (Or.inl ⟨by rfl, ?hy8_62⟩) (by assumption) ?rest8_62
      case hy8_62 => (intro w9 hSw; obtain ⟨m0, m1, m2, m3, m4, m5, m6⟩ := hSw; have c0 := FL.at_ad m6 (k := i) iny; rw [Eyi.out] at c0; go_simp; try with_reducible rfl)
      try simp only [Act.put, List.setIfInBounds_toArray, List.set_cons_zero, List.set_cons_succ, List.getElem_toArray, List.getElem_cons_zero, List.getElem_cons_succ]
      refine wpAnyS_take (i := 10) (v := ?v10_63) rfl (by kernel_rfl) (by kernel_rfl) (by kernel_rfl) (fun _ _ _ h => h) (Or.inl ⟨by rfl, ?hy10_63⟩) (by assumption) ?rest10_63
      case hy10_63 => (intro w9 hSw; obtain ⟨m0, m1, m2, m3, m4, m5, m6⟩ := hSw; have c0 := Blk.cell m3 0 rfl; go_simp; try with_reducible rfl)
      try simp only [Act.put, List.setIfInBounds_toArray, List.set_cons_zero, List.set_cons_succ, List.getElem_toArray, List.getElem_cons_zero, List.getElem_cons_succ]
      refine wpAnyS_take (i := 11) (v := ?v11_64) rfl (by kernel_rfl) (by kernel_rfl) (by kernel_rfl) (fun _ _ _ h => h) (Or.inl ⟨by rfl, ?hy11_64⟩) (by assumption) ?rest11_64
      case hy11_64 => (intro w9 hSw; clear hSw; go_simp; try with_reducible rfl)
      try simp only [Act.put, List.setIfInBounds_toArray, List.set_cons_zero, List.set_cons_succ, List.getElem_toArray, List.getElem_cons_zero, List.getElem_cons_succ]
      refine wpAnyS_take (i := 12) (v := ?v12_65) rfl (by kernel_rfl) (by kernel_rfl) (by kernel_rfl) (fun _ _ _ h => h) (Or.inl ⟨by rfl, ?hy12_65⟩) (by assumption) ?rest12_65
      case hy12_65 => (intro w9 hSw; clear hSw; go_simp; try with_reducible rfl)
      try simp only [Act.put, List.setIfInBounds_toArray, List.set_cons_zero, List.set_cons_succ, List.getElem_toArray, List.getElem_cons_zero, List.getElem_cons_succ]
      refine wpAnyS_take (i := 13) (v := ?v13_66) rfl (by kernel_rfl) (by kernel_rfl) (by kernel_rfl) (fun _ _ _ h => h) (Or.inl ⟨by rfl, ?hy13_66⟩) (by assumption) ?rest13_66
      case hy13_66 => (intro w9 hSw; obtain ⟨m0, m1, m2, m3, m4, m5, m6⟩ := hSw; have c0 := FL.at_ad m5 (k := j) jnx; rw [Exj.out] at c0; go_simp; try with_reducible rfl)
      try simp only [Act.put, List.setIfInBounds_toArray, List.set_cons_zero, List.set_cons_succ, List.getElem_toArray, List.getElem_cons_zero, List.getElem_cons_succ]
      refine wpAnyS_ready (rs := [9]) (by kernel_rfl) (by simp) ?_
      refine AllReadyS.cons rfl (fun K hK => ?_) AllReadyS.nil
      refine step_arith .mul (.inr (.inr (.inl rfl))) rfl _ _ _ _ a Vyi rfl rfl rfl ba byi ?_
      intro rp4 w11 hb hp4 bp4 hdr
      have Hp4 := Lib.hid hp4
      clear hp4 hdr
      replace h1 := h1.on hb
      replace h2 := h2.on hb
      replace h3 := h3.on hb
      replace h4 := h4.on hb
      replace h5 := h5.on hb
      replace h6 := h6.on hb
      replace h7 := h7.on hb
      replace h8 := h8.on_ hb
      replace h9 := h9.on_ hb
      replace bz := bz.trans (hb.mono bz.size)
      clear hb
      clear hS; refine hK.out _ _ ⟨h4, h3, h5, h6, h7, h8.fl WX, h9.fl WY⟩ (fun hS => ?_); clear hK K
      try simp only [Act.put, List.setIfInBounds_toArray, List.set_cons_zero, List.set_cons_succ, List.getElem_toArray, List.getElem_cons_zero, List.getElem_cons_succ]
      refine wpAnyS_ready (rs := [14]) (by kernel_rfl) (by simp) ?_
      refine AllReadyS.cons rfl (fun K hK => ?_) AllReadyS.nil
      refine step_arith .mul (.inr (.inr (.inl rfl))) rfl _ _ _ _ rp4 Vxj rfl rfl rfl bp4 bxj ?_
      intro rp5 w12 hb hp5 bp5 hdr
      have Hp5 := Lib.hid hp5
      clear hp5 hdr
      replace h1 := h1.on hb
      replace h2 := h2.on hb
      replace h3 := h3.on hb
      replace h4 := h4.on hb
      replace h5 := h5.on hb
      replace h6 := h6.on hb
      replace h7 := h7.on hb
      replace h8 := h8.on_ hb
      replace h9 := h9.on_ hb
      replace bz := bz.trans (hb.mono bz.size)
      clear hb
      clear hS; refine hK.out _ _ ⟨h4, h3, h5, h6, h7, h8.fl WX, h9.fl WY⟩ (fun hS => ?_); clear hK K
      try simp only [Act.put, List.setIfInBounds_toArray, List.set_cons_zero, List.set_cons_succ, List.getElem_toArray, List.getElem_cons_zero, List.getElem_cons_succ]
      refine wpAnyS_ready (rs := [15]) (by kernel_rfl) (by simp) ?_
      refine AllReadyS.cons rfl (fun K hK => ?_) AllReadyS.nil
      refine step_arith .add (.inl rfl) rfl _ _ _ _ rp3 rp5 rfl rfl rfl bp3 bp5 ?_
      intro rp6 w13 hb hp6 bp6 hdr
      have Hp6 := Lib.hid hp6
      clear hp6 hdr
      replace h1 := h1.on hb
      replace h2 := h2.on hb
      replace h3 := h3.on hb
      replace h4 := h4.on hb
      replace h5 := h5.on hb
      replace h6 := h6.on hb
      replace h7 := h7.on hb
      replace h8 := h8.on_ hb
      replace h9 := h9.on_ hb
      replace bz := bz.trans (hb.mono bz.size)
      clear hb
      clear hS; refine hK.out _ _ ⟨h4, h3, h5, h6, h7, h8.fl WX, h9.fl WY⟩ (fun hS => ?_); clear hK K
      try simp only [Act.put, List.setIfInBounds_toArray, List.set_cons_zero, List.set_cons_succ, List.getElem_toArray, List.getElem_cons_zero, List.getElem_cons_succ]
      refine wpAnyS_ready (rs := [16]) (by kernel_rfl) (by simp) ?_
      refine AllReadyS.cons rfl (fun K hK => ?_) AllReadyS.nil
      go_simp
      have HR : af rp6 = f i j := by rw [Hp6.out, Hp5.out, Hp4.out, Hp3.out, Hp2.out, Hp1.out, hAV.out, HVxi.out, HVyj.out, HVyi.out, HVxj.out]; exact HF.out i j
      have pp := set_wr (w := w13) HW0.out HVK.out HIJ.out HLL.out h1 hh (r := rp6) (Q := PL (k + 1)) HR bp6 (fun a b _ => hQ.out a b)
      with_reducible refine pp.mono ?_
      rintro e w40 ⟨u5, lx2, rfl, hs2, hg2, hW2⟩
      replace h2 := h2.grown hg2 (by simp <;> omega)
      replace h3 := h3.grown hg2 (by simp <;> omega)
      replace h4 := h4.grown hg2 (by simp <;> omega)
      replace h5 := h5.grown hg2 (by simp <;> omega)
      replace h6 := h6.grown hg2 (by simp <;> omega)
      replace h7 := h7.grown hg2 (by simp <;> omega)
      replace h8 := h8.far hg2 (by omega)
      replace h9 := h9.far hg2 (by omega)
      have hkf := (keepsFrom_below (B := W0.heap.size) bz).trans (KeepsFrom.of_grownBy hg2 (fun j e => by injection e with e; omega))
      have hgr := grown_trans (grown_on h10 bz) hg2
      clear hS; refine hK.out _ _ ⟨h4, h3, h5, h6, h7, h8.fl WX, h9.fl WY⟩ (fun hS => ?_); clear hK K
      try simp only [Act.put, List.setIfInBounds_toArray, List.set_cons_zero, List.set_cons_succ, List.getElem_toArray, List.getElem_cons_zero, List.getElem_cons_succ]
      refine wpAnyS_done (by kernel_rfl) ?_ _
      skip
      exact ⟨hkf, lx2, hW2, hs2, h2, h3, h4, h5, h6, h7, h8, h9, hgr⟩
end
end Go.Proofs.Ytfelmkkkaphkpaa
namespace Go.Proofs.Ytfelmkkkaphkpaa
open Go.RowKit Go.Bw Go.Sort Go.Shelf
set_option linter.unusedVariables false
set_option linter.unusedSimpArgs false

section
variable {w : World} {B B2 B3 : Nat} {U X Y : Vu} {s g cap c s2 g2 cap2 c2 s3 g3 cap3 c3 a b : Nat} {l l2 l3 : List Int} {RU CU RX CX RY CY : Int} {LU LX LY : List Int}
theorem syr2_fit (hU : Ov w B U s g cap c l RU CU LU) (hX : Ov w B2 X s2 g2 cap2 c2 l2 RX CX LX) (hY : Ov w B3 Y s3 g3 cap3 c3 l3 RY CY LY) {nx ny : Nat} (ex : LX.length = nx) (ey : LY.length = ny) : (alk X Y && szd U X.len X.len) = (vecM RX CX && vecM RY CY && (RU == CU) && !(RU != (nx : Int)) && !(CU != (ny : Int))) := by
  unfold alk
  rw [hX.isvec, hY.isvec]
  cases h1 : vecM RX CX
  · simp
  · cases h2 : vecM RY CY
    · simp
    · rw [hY.lenv h2, hX.lenv h1, ex, ey]
      unfold szd
      rw [hU.R, hU.C, Bool.eq_iff_iff]
      simp only [bne, Bool.not_not, Bool.and_eq_true, beq_iff_eq, Bool.true_and, true_and, and_true]
      omega
theorem syr2_no (hU : Ov w B U s g cap c l RU CU LU) (hX : Ov w B2 X s2 g2 cap2 c2 l2 RX CX LX) (hY : Ov w B3 Y s3 g3 cap3 c3 l3 RY CY LY) {nx ny : Nat} (ex : LX.length = nx) (ey : LY.length = ny) (hf : (vecM RX CX && vecM RY CY && (RU == CU) && !(RU != (nx : Int)) && !(CU != (ny : Int))) = false) :
    Calls Try.prog 41 #[.float .f64 a, X.V, Y.V, U.V] w (Ans w (.int .i64 8)) :=
  Syr2_no hX.sv hY.sv hU.sv (refE_8 (by rw [syr2_fit hU hX hY ex ey]; exact hf) (mem3 hX.ne hY.ne hU.ne)) (by omega)
theorem syr2_yes (ba : a ≤ 18446744073709551615) (hU : Ov w B U s g cap c l RU CU LU) (hX : Ov w B2 X s2 g2 cap2 c2 l2 RX CX LX) (hY : Ov w B3 Y s3 g3 cap3 c3 l3 RY CY LY) {m : Nat} (hm : RU = m) (hq : CU = m) {nx ny nu : Nat} (ex : LX.length = nx) (ey : LY.length = ny) (eu : LU.length = nu) (hf : (vecM RX CX && vecM RY CY && (RU == CU) && !(RU != (nx : Int)) && !(CU != (ny : Int))) = true) :
    Calls Try.prog 41 #[.float .f64 a, X.V, Y.V, U.V] w (OvK w B U s g cap c RU CU nu (tg (fun a b => decide (b ≤ a)) (fun i j => aop .add (aop .add (ma LU m i j) (aop .mul (aop .mul (af a) (fa (D LX i))) (fa (D LY j)))) (aop .mul (aop .mul (af a) (fa (D LY i))) (fa (D LX j)))) LU m)) := by
  refine (Syr2_yes (m := m) ba hU.fl hX.sv hY.sv hU.sv (refE_ok (by rw [syr2_fit hU hX hY ex ey]; exact hf) (mem3 hX.ne hY.ne hU.ne)) hU.vk hU.st rfl hU.inj (hU.R.trans hm)).mono ?_
  intro e w1 h
  exact ovk hU h hq eu (fun k hk => rfl)
end
set_option maxRecDepth 100000 in
set_option maxHeartbeats 8000000 in
theorem KernelsSyr2_big1 {w : World} {RX CX : Int} {AX : Option Addr} {nX cX : Nat} {LX : List Int} {RY CY : Int} {AY : Option Addr} {nY cY : Nat} {LY : List Int} {RU CU : Int} {AU : Option Addr} {nU cU : Nat} {LU : List Int} {a : Nat} {turned : Bool} (ba : a ≤ 18446744073709551615) (hX : FL w AX nX cX LX) (hY : FL w AY nY cY LY) (hU : FL w AU nU cU LU) (bU : bigM RU CU nU = true) : Calls Try.prog 8 #[.float .f64 a, mV RX CX AX nX cX, mV RY CY AY nY cY, mV RU CU AU nU cU, .bool turned] w (Ans w (.bool true)) := by
  have pbU := fun W => big_any RU CU AU nU cU hU.max W
  rw [bU] at pbU
  clear bU
  have DX := Blk.new w [.int .i64 RX, .int .i64 CX, .slice AX nX cX] 24
  have DY := Blk.new (w.alloc (.cells #[.int .i64 RX, .int .i64 CX, .slice AX nX cX] 24)) [.int .i64 RY, .int .i64 CY, .slice AY nY cY] 24
  replace DX := DX.alloc (.cells #[.int .i64 RY, .int .i64 CY, .slice AY nY cY] 24)
  simp only [World.size_alloc] at DY
  have DU := Blk.new ((w.alloc (.cells #[.int .i64 RX, .int .i64 CX, .slice AX nX cX] 24)).alloc (.cells #[.int .i64 RY, .int .i64 CY, .slice AY nY cY] 24)) [.int .i64 RU, .int .i64 CU, .slice AU nU cU] 24
  replace DX := DX.alloc (.cells #[.int .i64 RU, .int .i64 CU, .slice AU nU cU] 24)
  replace DY := DY.alloc (.cells #[.int .i64 RU, .int .i64 CU, .slice AU nU cU] 24)
  simp only [World.size_alloc] at DU
  have bz := (((Below.refl _ w).alloc (Nat.le_refl _) (.cells #[.int .i64 RX, .int .i64 CX, .slice AX nX cX] 24)).alloc (by simp <;> omega) (.cells #[.int .i64 RY, .int .i64 CY, .slice AY nY cY] 24)).alloc (by simp <;> omega) (.cells #[.int .i64 RU, .int .i64 CU, .slice AU nU cU] 24)
  have hsz0 : (((w.alloc (.cells #[.int .i64 RX, .int .i64 CX, .slice AX nX cX] 24)).alloc (.cells #[.int .i64 RY, .int .i64 CY, .slice AY nY cY] 24)).alloc (.cells #[.int .i64 RU, .int .i64 CU, .slice AU nU cU] 24)).heap.size = w.heap.size + 3 := by simp
  have hFX := hX.lo.on bz
  clear hX
  have hFY := hY.lo.on bz
  clear hY
  have hFU := hU.lo.on bz
  clear hU
  go_enter Try.func8, Try.ntmps8
  obtain ⟨kX_0, kX_1, kX_2, kX_3, kX_4, kX_5⟩ := Mbx.cells DX
  obtain ⟨kY_0, kY_1, kY_2, kY_3, kY_4, kY_5⟩ := Mbx.cells DY
  obtain ⟨kU_0, kU_1, kU_2, kU_3, kU_4, kU_5⟩ := Mbx.cells DU
  go_wp2_with fail
  with_reducible refine (pbU _).mono ?_
  rintro e w1 ⟨rfl, hb⟩
  clear kX_0 kX_1 kX_2 kX_3 kX_4 kX_5 kY_0 kY_1 kY_2 kY_3 kY_4 kY_5 kU_0 kU_1 kU_2 kU_3 kU_4 kU_5
  replace DX := DX.on hb
  replace DY := DY.on hb
  replace DU := DU.on hb
  replace hFX := hFX.on hb
  replace hFY := hFY.on hb
  replace hFU := hFU.on hb
  replace bz := bz.trans (hb.mono bz.size)
  clear hb
  go_wp2_with fail
  with_reducible refine (known_any _).mono ?_
  rintro e w2 ⟨rfl, hb⟩
  replace DX := DX.on hb
  replace DY := DY.on hb
  replace DU := DU.on hb
  replace hFX := hFX.on hb
  replace hFY := hFY.on hb
  replace hFU := hFU.on hb
  replace bz := bz.trans (hb.mono bz.size)
  clear hb
  go_wp2_with fail
  go_ret
  exact ⟨rfl, bz⟩
set_option maxRecDepth 100000 in
set_option maxHeartbeats 8000000 in
theorem KernelsSyr2_big2 {w : World} {RX CX : Int} {AX : Option Addr} {nX cX : Nat} {LX : List Int} {RY CY : Int} {AY : Option Addr} {nY cY : Nat} {LY : List Int} {RU CU : Int} {AU : Option Addr} {nU cU : Nat} {LU : List Int} {a : Nat} {turned : Bool} (ba : a ≤ 18446744073709551615) (hX : FL w AX nX cX LX) (hY : FL w AY nY cY LY) (hU : FL w AU nU cU LU) (bU : bigM RU CU nU = false) (bX : bigM RX CX nX = true) : Calls Try.prog 8 #[.float .f64 a, mV RX CX AX nX cX, mV RY CY AY nY cY, mV RU CU AU nU cU, .bool turned] w (Ans w (.bool true)) := by
  have pbU := fun W => big_any RU CU AU nU cU hU.max W
  rw [bU] at pbU
  clear bU
  have pbX := fun W => big_any RX CX AX nX cX hX.max W
  rw [bX] at pbX
  clear bX
  have DX := Blk.new w [.int .i64 RX, .int .i64 CX, .slice AX nX cX] 24
  have DY := Blk.new (w.alloc (.cells #[.int .i64 RX, .int .i64 CX, .slice AX nX cX] 24)) [.int .i64 RY, .int .i64 CY, .slice AY nY cY] 24
  replace DX := DX.alloc (.cells #[.int .i64 RY, .int .i64 CY, .slice AY nY cY] 24)
  simp only [World.size_alloc] at DY
  have DU := Blk.new ((w.alloc (.cells #[.int .i64 RX, .int .i64 CX, .slice AX nX cX] 24)).alloc (.cells #[.int .i64 RY, .int .i64 CY, .slice AY nY cY] 24)) [.int .i64 RU, .int .i64 CU, .slice AU nU cU] 24
  replace DX := DX.alloc (.cells #[.int .i64 RU, .int .i64 CU, .slice AU nU cU] 24)
  replace DY := DY.alloc (.cells #[.int .i64 RU, .int .i64 CU, .slice AU nU cU] 24)
  simp only [World.size_alloc] at DU
  have bz := (((Below.refl _ w).alloc (Nat.le_refl _) (.cells #[.int .i64 RX, .int .i64 CX, .slice AX nX cX] 24)).alloc (by simp <;> omega) (.cells #[.int .i64 RY, .int .i64 CY, .slice AY nY cY] 24)).alloc (by simp <;> omega) (.cells #[.int .i64 RU, .int .i64 CU, .slice AU nU cU] 24)
  have hsz0 : (((w.alloc (.cells #[.int .i64 RX, .int .i64 CX, .slice AX nX cX] 24)).alloc (.cells #[.int .i64 RY, .int .i64 CY, .slice AY nY cY] 24)).alloc (.cells #[.int .i64 RU, .int .i64 CU, .slice AU nU cU] 24)).heap.size = w.heap.size + 3 := by simp
  have hFX := hX.lo.on bz
  clear hX
  have hFY := hY.lo.on bz
  clear hY
  have hFU := hU.lo.on bz
  clear hU
  go_enter Try.func8, Try.ntmps8
  obtain ⟨kX_0, kX_1, kX_2, kX_3, kX_4, kX_5⟩ := Mbx.cells DX
  obtain ⟨kY_0, kY_1, kY_2, kY_3, kY_4, kY_5⟩ := Mbx.cells DY
  obtain ⟨kU_0, kU_1, kU_2, kU_3, kU_4, kU_5⟩ := Mbx.cells DU
  go_wp2_with fail
  with_reducible refine (pbU _).mono ?_
  rintro e w1 ⟨rfl, hb⟩
  clear kX_0 kX_1 kX_2 kX_3 kX_4 kX_5 kY_0 kY_1 kY_2 kY_3 kY_4 kY_5 kU_0 kU_1 kU_2 kU_3 kU_4 kU_5
  replace DX := DX.on hb
  replace DY := DY.on hb
  replace DU := DU.on hb
  replace hFX := hFX.on hb
  replace hFY := hFY.on hb
  replace hFU := hFU.on hb
  replace bz := bz.trans (hb.mono bz.size)
  clear hb
  obtain ⟨kX_0, kX_1, kX_2, kX_3, kX_4, kX_5⟩ := Mbx.cells DX
  obtain ⟨kY_0, kY_1, kY_2, kY_3, kY_4, kY_5⟩ := Mbx.cells DY
  obtain ⟨kU_0, kU_1, kU_2, kU_3, kU_4, kU_5⟩ := Mbx.cells DU
  go_wp2_with fail
  with_reducible refine (pbX _).mono ?_
  rintro e w2 ⟨rfl, hb⟩
  clear kX_0 kX_1 kX_2 kX_3 kX_4 kX_5 kY_0 kY_1 kY_2 kY_3 kY_4 kY_5 kU_0 kU_1 kU_2 kU_3 kU_4 kU_5
  replace DX := DX.on hb
  replace DY := DY.on hb
  replace DU := DU.on hb
  replace hFX := hFX.on hb
  replace hFY := hFY.on hb
  replace hFU := hFU.on hb
  replace bz := bz.trans (hb.mono bz.size)
  clear hb
  go_wp2_with fail
  with_reducible refine (known_any _).mono ?_
  rintro e w3 ⟨rfl, hb⟩
  replace DX := DX.on hb
  replace DY := DY.on hb
  replace DU := DU.on hb
  replace hFX := hFX.on hb
  replace hFY := hFY.on hb
  replace hFU := hFU.on hb
  replace bz := bz.trans (hb.mono bz.size)
  clear hb
  go_wp2_with fail
  go_ret
  exact ⟨rfl, bz⟩
set_option maxRecDepth 100000 in
set_option maxHeartbeats 8000000 in
theorem KernelsSyr2_big3 {w : World} {RX CX : Int} {AX : Option Addr} {nX cX : Nat} {LX : List Int} {RY CY : Int} {AY : Option Addr} {nY cY : Nat} {LY : List Int} {RU CU : Int} {AU : Option Addr} {nU cU : Nat} {LU : List Int} {a : Nat} {turned : Bool} (ba : a ≤ 18446744073709551615) (hX : FL w AX nX cX LX) (hY : FL w AY nY cY LY) (hU : FL w AU nU cU LU) (bU : bigM RU CU nU = false) (bX : bigM RX CX nX = false) (bY : bigM RY CY nY = true) : Calls Try.prog 8 #[.float .f64 a, mV RX CX AX nX cX, mV RY CY AY nY cY, mV RU CU AU nU cU, .bool turned] w (Ans w (.bool true)) := by
  have pbU := fun W => big_any RU CU AU nU cU hU.max W
  rw [bU] at pbU
  clear bU
  have pbX := fun W => big_any RX CX AX nX cX hX.max W
  rw [bX] at pbX
  clear bX
  have pbY := fun W => big_any RY CY AY nY cY hY.max W
  rw [bY] at pbY
  clear bY
  have DX := Blk.new w [.int .i64 RX, .int .i64 CX, .slice AX nX cX] 24
  have DY := Blk.new (w.alloc (.cells #[.int .i64 RX, .int .i64 CX, .slice AX nX cX] 24)) [.int .i64 RY, .int .i64 CY, .slice AY nY cY] 24
  replace DX := DX.alloc (.cells #[.int .i64 RY, .int .i64 CY, .slice AY nY cY] 24)
  simp only [World.size_alloc] at DY
  have DU := Blk.new ((w.alloc (.cells #[.int .i64 RX, .int .i64 CX, .slice AX nX cX] 24)).alloc (.cells #[.int .i64 RY, .int .i64 CY, .slice AY nY cY] 24)) [.int .i64 RU, .int .i64 CU, .slice AU nU cU] 24
  replace DX := DX.alloc (.cells #[.int .i64 RU, .int .i64 CU, .slice AU nU cU] 24)
  replace DY := DY.alloc (.cells #[.int .i64 RU, .int .i64 CU, .slice AU nU cU] 24)
  simp only [World.size_alloc] at DU
  have bz := (((Below.refl _ w).alloc (Nat.le_refl _) (.cells #[.int .i64 RX, .int .i64 CX, .slice AX nX cX] 24)).alloc (by simp <;> omega) (.cells #[.int .i64 RY, .int .i64 CY, .slice AY nY cY] 24)).alloc (by simp <;> omega) (.cells #[.int .i64 RU, .int .i64 CU, .slice AU nU cU] 24)
  have hsz0 : (((w.alloc (.cells #[.int .i64 RX, .int .i64 CX, .slice AX nX cX] 24)).alloc (.cells #[.int .i64 RY, .int .i64 CY, .slice AY nY cY] 24)).alloc (.cells #[.int .i64 RU, .int .i64 CU, .slice AU nU cU] 24)).heap.size = w.heap.size + 3 := by simp
  have hFX := hX.lo.on bz
  clear hX
  have hFY := hY.lo.on bz
  clear hY
  have hFU := hU.lo.on bz
  clear hU
  go_enter Try.func8, Try.ntmps8
  obtain ⟨kX_0, kX_1, kX_2, kX_3, kX_4, kX_5⟩ := Mbx.cells DX
  obtain ⟨kY_0, kY_1, kY_2, kY_3, kY_4, kY_5⟩ := Mbx.cells DY
  obtain ⟨kU_0, kU_1, kU_2, kU_3, kU_4, kU_5⟩ := Mbx.cells DU
  go_wp2_with fail
  with_reducible refine (pbU _).mono ?_
  rintro e w1 ⟨rfl, hb⟩
  clear kX_0 kX_1 kX_2 kX_3 kX_4 kX_5 kY_0 kY_1 kY_2 kY_3 kY_4 kY_5 kU_0 kU_1 kU_2 kU_3 kU_4 kU_5
  replace DX := DX.on hb
  replace DY := DY.on hb
  replace DU := DU.on hb
  replace hFX := hFX.on hb
  replace hFY := hFY.on hb
  replace hFU := hFU.on hb
  replace bz := bz.trans (hb.mono bz.size)
  clear hb
  obtain ⟨kX_0, kX_1, kX_2, kX_3, kX_4, kX_5⟩ := Mbx.cells DX
  obtain ⟨kY_0, kY_1, kY_2, kY_3, kY_4, kY_5⟩ := Mbx.cells DY
  obtain ⟨kU_0, kU_1, kU_2, kU_3, kU_4, kU_5⟩ := Mbx.cells DU
  go_wp2_with fail
  with_reducible refine (pbX _).mono ?_
  rintro e w2 ⟨rfl, hb⟩
  clear kX_0 kX_1 kX_2 kX_3 kX_4 kX_5 kY_0 kY_1 kY_2 kY_3 kY_4 kY_5 kU_0 kU_1 kU_2 kU_3 kU_4 kU_5
  replace DX := DX.on hb
  replace DY := DY.on hb
  replace DU := DU.on hb
  replace hFX := hFX.on hb
  replace hFY := hFY.on hb
  replace hFU := hFU.on hb
  replace bz := bz.trans (hb.mono bz.size)
  clear hb
  obtain ⟨kX_0, kX_1, kX_2, kX_3, kX_4, kX_5⟩ := Mbx.cells DX
  obtain ⟨kY_0, kY_1, kY_2, kY_3, kY_4, kY_5⟩ := Mbx.cells DY
  obtain ⟨kU_0, kU_1, kU_2, kU_3, kU_4, kU_5⟩ := Mbx.cells DU
  go_wp2_with fail
  with_reducible refine (pbY _).mono ?_
  rintro e w3 ⟨rfl, hb⟩
  clear kX_0 kX_1 kX_2 kX_3 kX_4 kX_5 kY_0 kY_1 kY_2 kY_3 kY_4 kY_5 kU_0 kU_1 kU_2 kU_3 kU_4 kU_5
  replace DX := DX.on hb
  replace DY := DY.on hb
  replace DU := DU.on hb
  replace hFX := hFX.on hb
  replace hFY := hFY.on hb
  replace hFU := hFU.on hb
  replace bz := bz.trans (hb.mono bz.size)
  clear hb
  go_wp2_with fail
  with_reducible refine (known_any _).mono ?_
  rintro e w4 ⟨rfl, hb⟩
  replace DX := DX.on hb
  replace DY := DY.on hb
  replace DU := DU.on hb
  replace hFX := hFX.on hb
  replace hFY := hFY.on hb
  replace hFU := hFU.on hb
  replace bz := bz.trans (hb.mono bz.size)
  clear hb
  go_wp2_with fail
  go_ret
  exact ⟨rfl, bz⟩
set_option maxRecDepth 100000 in
set_option maxHeartbeats 8000000 in
theorem KernelsSyr2_no {w : World} {RX CX : Int} {AX : Option Addr} {nX cX : Nat} {LX : List Int} {RY CY : Int} {AY : Option Addr} {nY cY : Nat} {LY : List Int} {RU CU : Int} {AU : Option Addr} {nU cU : Nat} {LU : List Int} {a : Nat} {turned : Bool} (ba : a ≤ 18446744073709551615) (hX : FL w AX nX cX LX) (hY : FL w AY nY cY LY) (hU : FL w AU nU cU LU) (bU : bigM RU CU nU = false) (bX : bigM RX CX nX = false) (bY : bigM RY CY nY = false) (hf : (vecM RX CX && vecM RY CY && (RU == CU) && !(RU != (nX : Int)) && !(CU != (nY : Int))) = false) : Calls Try.prog 8 #[.float .f64 a, mV RX CX AX nX cX, mV RY CY AY nY cY, mV RU CU AU nU cU, .bool turned] w (Ans w (.bool true)) := by
  have pbU := fun W => big_any RU CU AU nU cU hU.max W
  rw [bU] at pbU
  obtain ⟨zU, eU, uU⟩ := big_is bU
  have HSU := Lib.hid (And.intro zU eU)
  clear bU zU eU
  have pbX := fun W => big_any RX CX AX nX cX hX.max W
  rw [bX] at pbX
  obtain ⟨zX, eX, uX⟩ := big_is bX
  have HSX := Lib.hid (And.intro zX eX)
  clear bX zX eX
  have pbY := fun W => big_any RY CY AY nY cY hY.max W
  rw [bY] at pbY
  obtain ⟨zY, eY, uY⟩ := big_is bY
  have HSY := Lib.hid (And.intro zY eY)
  clear bY zY eY
  have EX := Lib.hid hX.1
  have mxX := hX.max
  have EY := Lib.hid hY.1
  have mxY := hY.max
  have EU := Lib.hid hU.1
  have mxU := hU.max
  have HFT := Lib.hid hf
  clear hf
  have DX := Blk.new w [.int .i64 RX, .int .i64 CX, .slice AX nX cX] 24
  have DY := Blk.new (w.alloc (.cells #[.int .i64 RX, .int .i64 CX, .slice AX nX cX] 24)) [.int .i64 RY, .int .i64 CY, .slice AY nY cY] 24
  replace DX := DX.alloc (.cells #[.int .i64 RY, .int .i64 CY, .slice AY nY cY] 24)
  simp only [World.size_alloc] at DY
  have DU := Blk.new ((w.alloc (.cells #[.int .i64 RX, .int .i64 CX, .slice AX nX cX] 24)).alloc (.cells #[.int .i64 RY, .int .i64 CY, .slice AY nY cY] 24)) [.int .i64 RU, .int .i64 CU, .slice AU nU cU] 24
  replace DX := DX.alloc (.cells #[.int .i64 RU, .int .i64 CU, .slice AU nU cU] 24)
  replace DY := DY.alloc (.cells #[.int .i64 RU, .int .i64 CU, .slice AU nU cU] 24)
  simp only [World.size_alloc] at DU
  have bz := (((Below.refl _ w).alloc (Nat.le_refl _) (.cells #[.int .i64 RX, .int .i64 CX, .slice AX nX cX] 24)).alloc (by simp <;> omega) (.cells #[.int .i64 RY, .int .i64 CY, .slice AY nY cY] 24)).alloc (by simp <;> omega) (.cells #[.int .i64 RU, .int .i64 CU, .slice AU nU cU] 24)
  have hsz0 : (((w.alloc (.cells #[.int .i64 RX, .int .i64 CX, .slice AX nX cX] 24)).alloc (.cells #[.int .i64 RY, .int .i64 CY, .slice AY nY cY] 24)).alloc (.cells #[.int .i64 RU, .int .i64 CU, .slice AU nU cU] 24)).heap.size = w.heap.size + 3 := by simp
  have hFX := hX.lo.on bz
  clear hX
  have hFY := hY.lo.on bz
  clear hY
  have hFU := hU.lo.on bz
  clear hU
  go_enter Try.func8, Try.ntmps8
  obtain ⟨kX_0, kX_1, kX_2, kX_3, kX_4, kX_5⟩ := Mbx.cells DX
  obtain ⟨kY_0, kY_1, kY_2, kY_3, kY_4, kY_5⟩ := Mbx.cells DY
  obtain ⟨kU_0, kU_1, kU_2, kU_3, kU_4, kU_5⟩ := Mbx.cells DU
  go_wp2_with fail
  with_reducible refine (pbU _).mono ?_
  rintro e w1 ⟨rfl, hb⟩
  clear kX_0 kX_1 kX_2 kX_3 kX_4 kX_5 kY_0 kY_1 kY_2 kY_3 kY_4 kY_5 kU_0 kU_1 kU_2 kU_3 kU_4 kU_5
  replace DX := DX.on hb
  replace DY := DY.on hb
  replace DU := DU.on hb
  replace hFX := hFX.on hb
  replace hFY := hFY.on hb
  replace hFU := hFU.on hb
  replace bz := bz.trans (hb.mono bz.size)
  clear hb
  obtain ⟨kX_0, kX_1, kX_2, kX_3, kX_4, kX_5⟩ := Mbx.cells DX
  obtain ⟨kY_0, kY_1, kY_2, kY_3, kY_4, kY_5⟩ := Mbx.cells DY
  obtain ⟨kU_0, kU_1, kU_2, kU_3, kU_4, kU_5⟩ := Mbx.cells DU
  go_wp2_with fail
  with_reducible refine (pbX _).mono ?_
  rintro e w2 ⟨rfl, hb⟩
  clear kX_0 kX_1 kX_2 kX_3 kX_4 kX_5 kY_0 kY_1 kY_2 kY_3 kY_4 kY_5 kU_0 kU_1 kU_2 kU_3 kU_4 kU_5
  replace DX := DX.on hb
  replace DY := DY.on hb
  replace DU := DU.on hb
  replace hFX := hFX.on hb
  replace hFY := hFY.on hb
  replace hFU := hFU.on hb
  replace bz := bz.trans (hb.mono bz.size)
  clear hb
  obtain ⟨kX_0, kX_1, kX_2, kX_3, kX_4, kX_5⟩ := Mbx.cells DX
  obtain ⟨kY_0, kY_1, kY_2, kY_3, kY_4, kY_5⟩ := Mbx.cells DY
  obtain ⟨kU_0, kU_1, kU_2, kU_3, kU_4, kU_5⟩ := Mbx.cells DU
  go_wp2_with fail
  with_reducible refine (pbY _).mono ?_
  rintro e w3 ⟨rfl, hb⟩
  clear kX_0 kX_1 kX_2 kX_3 kX_4 kX_5 kY_0 kY_1 kY_2 kY_3 kY_4 kY_5 kU_0 kU_1 kU_2 kU_3 kU_4 kU_5
  replace DX := DX.on hb
  replace DY := DY.on hb
  replace DU := DU.on hb
  replace hFX := hFX.on hb
  replace hFY := hFY.on hb
  replace hFU := hFU.on hb
  replace bz := bz.trans (hb.mono bz.size)
  clear hb
  obtain ⟨kX_0, kX_1, kX_2, kX_3, kX_4, kX_5⟩ := Mbx.cells DX
  obtain ⟨kY_0, kY_1, kY_2, kY_3, kY_4, kY_5⟩ := Mbx.cells DY
  obtain ⟨kU_0, kU_1, kU_2, kU_3, kU_4, kU_5⟩ := Mbx.cells DU
  have hszw : w.heap.size + 3 ≤ w3.heap.size := by have := DU.lt; omega
  go_wp2_with fail
  with_reducible refine (of_any turned hFU.fl HSU.out.1 HSU.out.2).mono ?_
  rintro e w4 ⟨VU, sVU, gVU, capVU, cVU, lVU, rfl, hVU, hb⟩
  clear kX_0 kX_1 kX_2 kX_3 kX_4 kX_5 kY_0 kY_1 kY_2 kY_3 kY_4 kY_5 kU_0 kU_1 kU_2 kU_3 kU_4 kU_5
  replace DX := DX.on hb
  replace DY := DY.on hb
  replace DU := DU.on hb
  replace hFX := hFX.on hb
  replace hFY := hFY.on hb
  replace hFU := hFU.on hb
  replace bz := bz.trans (hb.mono bz.size)
  clear hb
  have hgy : w.heap.size + 3 ≤ gVU ∧ w.heap.size + 3 ≤ sVU := by have h1 := hVU.st.lo; have h2 := hVU.st.gt.1; omega
  have hlt := And.intro hVU.st.lt hVU.st.gt.2
  have DVU := Blk.new w4 (VU).L 30
  obtain ⟨HDVU, eHDVU⟩ : ∃ H, w4.heap.size = H := ⟨_, rfl⟩
  rw [eHDVU] at DVU
  have hbA := (Below.refl _ w4).alloc (Nat.le_refl _) (.cells (VU).L.toArray 30)
  replace DX := DX.on hbA
  replace DY := DY.on hbA
  replace DU := DU.on hbA
  replace hFX := hFX.on hbA
  replace hFY := hFY.on hbA
  replace hFU := hFU.on hbA
  replace hVU := hVU.on hbA
  clear hbA
  replace bz := bz.alloc bz.size (.cells (VU).L.toArray 30)
  have HHDVU := Lib.hid eHDVU
  rw [eHDVU] at hlt
  clear hszw
  go_wp2_with fail
  replace DX := DX.drew
  replace DY := DY.drew
  replace DU := DU.drew
  replace hFX := hFX.drew
  replace hFY := hFY.drew
  replace hFU := hFU.drew
  replace hVU := hVU.drew
  replace DVU := DVU.drew
  replace bz := bz.drew
  refine wp_region_held_drew (S := fun w9 : World => Mbx w9 w.heap.size RX CX AX nX cX ∧ Mbx w9 (w.heap.size + 1) RY CY AY nY cY ∧ Mbx w9 (w.heap.size + 2) RU CU AU nU cU ∧ Vbx w9 HDVU VU) (by kernel_rfl) ⟨DX, DY, DU, DVU⟩ (fun hS => ?_)
  generalize (w4.alloc (.cells (VU).L.toArray 30)).drew = wd4 at hS DX DY DU hFX hFY hFU hVU DVU  bz ⊢
  refine wpAnyH_take (i := 0) (v := ?v0_1) rfl (by kernel_rfl) (by kernel_rfl) (by kernel_rfl) (fun _ _ _ h => h) (Or.inl ⟨by rfl, ?hy0_1⟩) (by assumption) ?rest0_1
  case hy0_1 => (intro w9 hSw; clear hSw; go_simp; try with_reducible rfl)
  try simp only [Act.put, List.setIfInBounds_toArray, List.set_cons_zero, List.set_cons_succ, List.getElem_toArray, List.getElem_cons_zero, List.getElem_cons_succ]
  refine wpAnyH_take (i := 1) (v := ?v1_2) rfl (by kernel_rfl) (by kernel_rfl) (by kernel_rfl) (fun _ _ _ h => h) (Or.inl ⟨by rfl, ?hy1_2⟩) (by assumption) ?rest1_2
  case hy1_2 => (intro w9 hSw; obtain ⟨m0, m1, m2, m3⟩ := hSw; obtain ⟨q0_0, q0_1, q0_2, q0_3, q0_4, q0_5⟩ := Mbx.cells m0; obtain ⟨q1_0, q1_1, q1_2, q1_3, q1_4, q1_5⟩ := Mbx.cells m1; obtain ⟨q2_0, q2_1, q2_2, q2_3, q2_4, q2_5⟩ := Mbx.cells m2; go_simp; try with_reducible rfl)
  try simp only [Act.put, List.setIfInBounds_toArray, List.set_cons_zero, List.set_cons_succ, List.getElem_toArray, List.getElem_cons_zero, List.getElem_cons_succ]
  refine wpAnyH_take (i := 2) (v := ?v2_3) rfl (by kernel_rfl) (by kernel_rfl) (by kernel_rfl) (fun _ _ _ h => h) (Or.inl ⟨by rfl, ?hy2_3⟩) (by assumption) ?rest2_3
  case hy2_3 => (intro w9 hSw; clear hSw; go_simp; try with_reducible rfl)
  try simp only [Act.put, List.setIfInBounds_toArray, List.set_cons_zero, List.set_cons_succ, List.getElem_toArray, List.getElem_cons_zero, List.getElem_cons_succ]
  refine wpAnyH_take (i := 4) (v := ?v4_4) rfl (by kernel_rfl) (by kernel_rfl) (by kernel_rfl) (fun _ _ _ h => h) (Or.inl ⟨by rfl, ?hy4_4⟩) (by assumption) ?rest4_4
  case hy4_4 => (intro w9 hSw; obtain ⟨m0, m1, m2, m3⟩ := hSw; obtain ⟨q0_0, q0_1, q0_2, q0_3, q0_4, q0_5⟩ := Mbx.cells m0; obtain ⟨q1_0, q1_1, q1_2, q1_3, q1_4, q1_5⟩ := Mbx.cells m1; obtain ⟨q2_0, q2_1, q2_2, q2_3, q2_4, q2_5⟩ := Mbx.cells m2; go_simp; try with_reducible rfl)
  try simp only [Act.put, List.setIfInBounds_toArray, List.set_cons_zero, List.set_cons_succ, List.getElem_toArray, List.getElem_cons_zero, List.getElem_cons_succ]
  refine wpAnyH_take (i := 6) (v := ?v6_5) rfl (by kernel_rfl) (by kernel_rfl) (by kernel_rfl) (fun _ _ _ h => h) (Or.inl ⟨by rfl, ?hy6_5⟩) (by assumption) ?rest6_5
  case hy6_5 => (intro w9 hSw; obtain ⟨m0, m1, m2, m3⟩ := hSw; refine (ld_v (by rfl) (by kernel_rfl) m3).trans ?_; with_reducible rfl)
  try simp only [Act.put, List.setIfInBounds_toArray, List.set_cons_zero, List.set_cons_succ, List.getElem_toArray, List.getElem_cons_zero, List.getElem_cons_succ]
  refine wpAnyH_ready (rs := [3]) (by kernel_rfl) (by simp) ?_
  refine AllReadyH.cons rfl (fun K hK => ?_) AllReadyH.nil
  go_simp
  with_reducible refine (of_any turned hFX.fl HSX.out.1 HSX.out.2).mono ?_
  rintro e w5 ⟨VX, sVX, gVX, capVX, cVX, lVX, rfl, hVX, hb⟩
  replace DX := DX.on hb
  replace DY := DY.on hb
  replace DU := DU.on hb
  replace hFX := hFX.on hb
  replace hFY := hFY.on hb
  replace hFU := hFU.on hb
  replace hVU := hVU.on hb
  replace DVU := DVU.on hb
  replace bz := bz.trans (hb.mono bz.size)
  clear hb
  clear hS; refine hK.out _ _ ⟨DX, DY, DU, DVU⟩ (fun hS => ?_); clear hK K
  try simp only [Act.put, List.setIfInBounds_toArray, List.set_cons_zero, List.set_cons_succ, List.getElem_toArray, List.getElem_cons_zero, List.getElem_cons_succ]
  refine wpAnyH_ready (rs := [5]) (by kernel_rfl) (by simp) ?_
  refine AllReadyH.cons rfl (fun K hK => ?_) AllReadyH.nil
  go_simp
  with_reducible refine (of_any false hFY.fl HSY.out.1 HSY.out.2).mono ?_
  rintro e w6 ⟨VY, sVY, gVY, capVY, cVY, lVY, rfl, hVY, hb⟩
  replace DX := DX.on hb
  replace DY := DY.on hb
  replace DU := DU.on hb
  replace hFX := hFX.on hb
  replace hFY := hFY.on hb
  replace hFU := hFU.on hb
  replace hVU := hVU.on hb
  replace DVU := DVU.on hb
  replace hVX := hVX.on hb
  replace bz := bz.trans (hb.mono bz.size)
  clear hb
  clear hS; refine hK.out _ _ ⟨DX, DY, DU, DVU⟩ (fun hS => ?_); clear hK K
  try simp only [Act.put, List.setIfInBounds_toArray, List.set_cons_zero, List.set_cons_succ, List.getElem_toArray, List.getElem_cons_zero, List.getElem_cons_succ]
  refine wpAnyH_ready (rs := [7]) (by kernel_rfl) (by simp) ?_
  refine AllReadyH.cons rfl (fun K hK => ?_) AllReadyH.nil
  go_simp
  with_reducible refine (syr2_no hVU hVX hVY EX.out EY.out HFT.out).mono ?_
  rintro e w7 ⟨rfl, hb⟩
  replace DX := DX.on hb
  replace DY := DY.on hb
  replace DU := DU.on hb
  replace hFX := hFX.on hb
  replace hFY := hFY.on hb
  replace hFU := hFU.on hb
  replace hVU := hVU.on hb
  replace DVU := DVU.on hb
  replace hVX := hVX.on hb
  replace hVY := hVY.on hb
  replace bz := bz.trans (hb.mono bz.size)
  clear hb
  clear hVX hVY
  clear hS; refine hK.out _ _ ⟨DX, DY, DU, DVU⟩ (fun hS => ?_); clear hK K
  try simp only [Act.put, List.setIfInBounds_toArray, List.set_cons_zero, List.set_cons_succ, List.getElem_toArray, List.getElem_cons_zero, List.getElem_cons_succ]
  refine wpAnyH_take (i := 8) (v := ?v8_6) rfl (by kernel_rfl) (by kernel_rfl) (by kernel_rfl) (fun _ _ _ h => h) (Or.inl ⟨by rfl, ?hy8_6⟩) (by assumption) ?rest8_6
  case hy8_6 => (intro w9 hSw; clear hSw; go_simp; try with_reducible rfl)
  try simp only [Act.put, List.setIfInBounds_toArray, List.set_cons_zero, List.set_cons_succ, List.getElem_toArray, List.getElem_cons_zero, List.getElem_cons_succ]
  refine wpAnyH_done (by kernel_rfl) ?_ _
  have HFv := HFT.out
  cases f0 : vecM RX CX
  · skip
    have p9 := rVector_any RX CX AX nX cX
    rw [f0] at p9
    obtain ⟨kX_0, kX_1, kX_2, kX_3, kX_4, kX_5⟩ := Mbx.cells DX
    obtain ⟨kY_0, kY_1, kY_2, kY_3, kY_4, kY_5⟩ := Mbx.cells DY
    obtain ⟨kU_0, kU_1, kU_2, kU_3, kU_4, kU_5⟩ := Mbx.cells DU
    go_wp2_with fail
    with_reducible refine (p9 _).mono ?_
    rintro e w8 ⟨rfl, hb⟩
    clear kX_0 kX_1 kX_2 kX_3 kX_4 kX_5 kY_0 kY_1 kY_2 kY_3 kY_4 kY_5 kU_0 kU_1 kU_2 kU_3 kU_4 kU_5
    replace DX := DX.on hb
    replace DY := DY.on hb
    replace DU := DU.on hb
    replace hFX := hFX.on hb
    replace hFY := hFY.on hb
    replace hFU := hFU.on hb
    replace hVU := hVU.on hb
    replace DVU := DVU.on hb
    replace bz := bz.trans (hb.mono bz.size)
    clear hb p9
    obtain ⟨kX_0, kX_1, kX_2, kX_3, kX_4, kX_5⟩ := Mbx.cells DX
    obtain ⟨kY_0, kY_1, kY_2, kY_3, kY_4, kY_5⟩ := Mbx.cells DY
    obtain ⟨kU_0, kU_1, kU_2, kU_3, kU_4, kU_5⟩ := Mbx.cells DU
    go_wp2_with fail
    with_reducible refine (num_any _ _).mono ?_
    rintro e v9 ⟨rfl, rfl⟩
    clear kX_0 kX_1 kX_2 kX_3 kX_4 kX_5 kY_0 kY_1 kY_2 kY_3 kY_4 kY_5 kU_0 kU_1 kU_2 kU_3 kU_4 kU_5
    obtain ⟨kX_0, kX_1, kX_2, kX_3, kX_4, kX_5⟩ := Mbx.cells DX
    obtain ⟨kY_0, kY_1, kY_2, kY_3, kY_4, kY_5⟩ := Mbx.cells DY
    obtain ⟨kU_0, kU_1, kU_2, kU_3, kU_4, kU_5⟩ := Mbx.cells DU
    obtain ⟨cDVU_0, cDVU_1, cDVU_2, cDVU_3, cDVU_4, cDVU_5, cDVU_6, cDVU_7, cDVU_8⟩ := Vbx.cells DVU
    go_wp2_with fail
    with_reducible refine (shows_true hVU.sv hFU.fl hVU.R hVU.C (sameL_refl LU)).mono ?_
    rintro e w10 ⟨rfl, hb⟩
    clear kX_0 kX_1 kX_2 kX_3 kX_4 kX_5 kY_0 kY_1 kY_2 kY_3 kY_4 kY_5 kU_0 kU_1 kU_2 kU_3 kU_4 kU_5 cDVU_0 cDVU_1 cDVU_2 cDVU_3 cDVU_4 cDVU_5 cDVU_6 cDVU_7 cDVU_8
    replace DX := DX.on hb
    replace DY := DY.on hb
    replace DU := DU.on hb
    replace hFX := hFX.on hb
    replace hFY := hFY.on hb
    replace hFU := hFU.on hb
    replace hVU := hVU.on hb
    replace DVU := DVU.on hb
    replace bz := bz.trans (hb.mono bz.size)
    clear hb
    go_wp2_with fail
    with_reducible refine (known_any _).mono ?_
    rintro e w11 ⟨rfl, hb⟩
    replace DX := DX.on hb
    replace DY := DY.on hb
    replace DU := DU.on hb
    replace hFX := hFX.on hb
    replace hFY := hFY.on hb
    replace hFU := hFU.on hb
    replace hVU := hVU.on hb
    replace DVU := DVU.on hb
    replace bz := bz.trans (hb.mono bz.size)
    clear hb
    go_wp2_with fail
    go_ret
    exact ⟨rfl, bz⟩
  · cases f1 : vecM RY CY
    · skip
      have p9 := rVector_any RX CX AX nX cX
      rw [f0] at p9
      obtain ⟨kX_0, kX_1, kX_2, kX_3, kX_4, kX_5⟩ := Mbx.cells DX
      obtain ⟨kY_0, kY_1, kY_2, kY_3, kY_4, kY_5⟩ := Mbx.cells DY
      obtain ⟨kU_0, kU_1, kU_2, kU_3, kU_4, kU_5⟩ := Mbx.cells DU
      go_wp2_with fail
      with_reducible refine (p9 _).mono ?_
      rintro e w8 ⟨rfl, hb⟩
      clear kX_0 kX_1 kX_2 kX_3 kX_4 kX_5 kY_0 kY_1 kY_2 kY_3 kY_4 kY_5 kU_0 kU_1 kU_2 kU_3 kU_4 kU_5
      replace DX := DX.on hb
      replace DY := DY.on hb
      replace DU := DU.on hb
      replace hFX := hFX.on hb
      replace hFY := hFY.on hb
      replace hFU := hFU.on hb
      replace hVU := hVU.on hb
      replace DVU := DVU.on hb
      replace bz := bz.trans (hb.mono bz.size)
      clear hb p9
      have p9 := rVector_any RY CY AY nY cY
      rw [f1] at p9
      obtain ⟨kX_0, kX_1, kX_2, kX_3, kX_4, kX_5⟩ := Mbx.cells DX
      obtain ⟨kY_0, kY_1, kY_2, kY_3, kY_4, kY_5⟩ := Mbx.cells DY
      obtain ⟨kU_0, kU_1, kU_2, kU_3, kU_4, kU_5⟩ := Mbx.cells DU
      go_wp2_with fail
      with_reducible refine (p9 _).mono ?_
      rintro e w9 ⟨rfl, hb⟩
      clear kX_0 kX_1 kX_2 kX_3 kX_4 kX_5 kY_0 kY_1 kY_2 kY_3 kY_4 kY_5 kU_0 kU_1 kU_2 kU_3 kU_4 kU_5
      replace DX := DX.on hb
      replace DY := DY.on hb
      replace DU := DU.on hb
      replace hFX := hFX.on hb
      replace hFY := hFY.on hb
      replace hFU := hFU.on hb
      replace hVU := hVU.on hb
      replace DVU := DVU.on hb
      replace bz := bz.trans (hb.mono bz.size)
      clear hb p9
      obtain ⟨kX_0, kX_1, kX_2, kX_3, kX_4, kX_5⟩ := Mbx.cells DX
      obtain ⟨kY_0, kY_1, kY_2, kY_3, kY_4, kY_5⟩ := Mbx.cells DY
      obtain ⟨kU_0, kU_1, kU_2, kU_3, kU_4, kU_5⟩ := Mbx.cells DU
      go_wp2_with fail
      with_reducible refine (num_any _ _).mono ?_
      rintro e v10 ⟨rfl, rfl⟩
      clear kX_0 kX_1 kX_2 kX_3 kX_4 kX_5 kY_0 kY_1 kY_2 kY_3 kY_4 kY_5 kU_0 kU_1 kU_2 kU_3 kU_4 kU_5
      obtain ⟨kX_0, kX_1, kX_2, kX_3, kX_4, kX_5⟩ := Mbx.cells DX
      obtain ⟨kY_0, kY_1, kY_2, kY_3, kY_4, kY_5⟩ := Mbx.cells DY
      obtain ⟨kU_0, kU_1, kU_2, kU_3, kU_4, kU_5⟩ := Mbx.cells DU
      obtain ⟨cDVU_0, cDVU_1, cDVU_2, cDVU_3, cDVU_4, cDVU_5, cDVU_6, cDVU_7, cDVU_8⟩ := Vbx.cells DVU
      go_wp2_with fail
      with_reducible refine (shows_true hVU.sv hFU.fl hVU.R hVU.C (sameL_refl LU)).mono ?_
      rintro e w11 ⟨rfl, hb⟩
      clear kX_0 kX_1 kX_2 kX_3 kX_4 kX_5 kY_0 kY_1 kY_2 kY_3 kY_4 kY_5 kU_0 kU_1 kU_2 kU_3 kU_4 kU_5 cDVU_0 cDVU_1 cDVU_2 cDVU_3 cDVU_4 cDVU_5 cDVU_6 cDVU_7 cDVU_8
      replace DX := DX.on hb
      replace DY := DY.on hb
      replace DU := DU.on hb
      replace hFX := hFX.on hb
      replace hFY := hFY.on hb
      replace hFU := hFU.on hb
      replace hVU := hVU.on hb
      replace DVU := DVU.on hb
      replace bz := bz.trans (hb.mono bz.size)
      clear hb
      go_wp2_with fail
      with_reducible refine (known_any _).mono ?_
      rintro e w12 ⟨rfl, hb⟩
      replace DX := DX.on hb
      replace DY := DY.on hb
      replace DU := DU.on hb
      replace hFX := hFX.on hb
      replace hFY := hFY.on hb
      replace hFU := hFU.on hb
      replace hVU := hVU.on hb
      replace DVU := DVU.on hb
      replace bz := bz.trans (hb.mono bz.size)
      clear hb
      go_wp2_with fail
      go_ret
      exact ⟨rfl, bz⟩
    · cases f2 : (RU == CU)
      · skip
        have p9 := rVector_any RX CX AX nX cX
        rw [f0] at p9
        obtain ⟨kX_0, kX_1, kX_2, kX_3, kX_4, kX_5⟩ := Mbx.cells DX
        obtain ⟨kY_0, kY_1, kY_2, kY_3, kY_4, kY_5⟩ := Mbx.cells DY
        obtain ⟨kU_0, kU_1, kU_2, kU_3, kU_4, kU_5⟩ := Mbx.cells DU
        go_wp2_with fail
        with_reducible refine (p9 _).mono ?_
        rintro e w8 ⟨rfl, hb⟩
        clear kX_0 kX_1 kX_2 kX_3 kX_4 kX_5 kY_0 kY_1 kY_2 kY_3 kY_4 kY_5 kU_0 kU_1 kU_2 kU_3 kU_4 kU_5
        replace DX := DX.on hb
        replace DY := DY.on hb
        replace DU := DU.on hb
        replace hFX := hFX.on hb
        replace hFY := hFY.on hb
        replace hFU := hFU.on hb
        replace hVU := hVU.on hb
        replace DVU := DVU.on hb
        replace bz := bz.trans (hb.mono bz.size)
        clear hb p9
        have p9 := rVector_any RY CY AY nY cY
        rw [f1] at p9
        obtain ⟨kX_0, kX_1, kX_2, kX_3, kX_4, kX_5⟩ := Mbx.cells DX
        obtain ⟨kY_0, kY_1, kY_2, kY_3, kY_4, kY_5⟩ := Mbx.cells DY
        obtain ⟨kU_0, kU_1, kU_2, kU_3, kU_4, kU_5⟩ := Mbx.cells DU
        go_wp2_with fail
        with_reducible refine (p9 _).mono ?_
        rintro e w9 ⟨rfl, hb⟩
        clear kX_0 kX_1 kX_2 kX_3 kX_4 kX_5 kY_0 kY_1 kY_2 kY_3 kY_4 kY_5 kU_0 kU_1 kU_2 kU_3 kU_4 kU_5
        replace DX := DX.on hb
        replace DY := DY.on hb
        replace DU := DU.on hb
        replace hFX := hFX.on hb
        replace hFY := hFY.on hb
        replace hFU := hFU.on hb
        replace hVU := hVU.on hb
        replace DVU := DVU.on hb
        replace bz := bz.trans (hb.mono bz.size)
        clear hb p9
        have p9 := rSquare_any RU CU AU nU cU
        rw [f2] at p9
        obtain ⟨kX_0, kX_1, kX_2, kX_3, kX_4, kX_5⟩ := Mbx.cells DX
        obtain ⟨kY_0, kY_1, kY_2, kY_3, kY_4, kY_5⟩ := Mbx.cells DY
        obtain ⟨kU_0, kU_1, kU_2, kU_3, kU_4, kU_5⟩ := Mbx.cells DU
        go_wp2_with fail
        with_reducible refine (p9 _).mono ?_
        rintro e w10 ⟨rfl, hb⟩
        clear kX_0 kX_1 kX_2 kX_3 kX_4 kX_5 kY_0 kY_1 kY_2 kY_3 kY_4 kY_5 kU_0 kU_1 kU_2 kU_3 kU_4 kU_5
        replace DX := DX.on hb
        replace DY := DY.on hb
        replace DU := DU.on hb
        replace hFX := hFX.on hb
        replace hFY := hFY.on hb
        replace hFU := hFU.on hb
        replace hVU := hVU.on hb
        replace DVU := DVU.on hb
        replace bz := bz.trans (hb.mono bz.size)
        clear hb p9
        obtain ⟨kX_0, kX_1, kX_2, kX_3, kX_4, kX_5⟩ := Mbx.cells DX
        obtain ⟨kY_0, kY_1, kY_2, kY_3, kY_4, kY_5⟩ := Mbx.cells DY
        obtain ⟨kU_0, kU_1, kU_2, kU_3, kU_4, kU_5⟩ := Mbx.cells DU
        go_wp2_with fail
        with_reducible refine (num_any _ _).mono ?_
        rintro e v11 ⟨rfl, rfl⟩
        clear kX_0 kX_1 kX_2 kX_3 kX_4 kX_5 kY_0 kY_1 kY_2 kY_3 kY_4 kY_5 kU_0 kU_1 kU_2 kU_3 kU_4 kU_5
        obtain ⟨kX_0, kX_1, kX_2, kX_3, kX_4, kX_5⟩ := Mbx.cells DX
        obtain ⟨kY_0, kY_1, kY_2, kY_3, kY_4, kY_5⟩ := Mbx.cells DY
        obtain ⟨kU_0, kU_1, kU_2, kU_3, kU_4, kU_5⟩ := Mbx.cells DU
        obtain ⟨cDVU_0, cDVU_1, cDVU_2, cDVU_3, cDVU_4, cDVU_5, cDVU_6, cDVU_7, cDVU_8⟩ := Vbx.cells DVU
        go_wp2_with fail
        with_reducible refine (shows_true hVU.sv hFU.fl hVU.R hVU.C (sameL_refl LU)).mono ?_
        rintro e w12 ⟨rfl, hb⟩
        clear kX_0 kX_1 kX_2 kX_3 kX_4 kX_5 kY_0 kY_1 kY_2 kY_3 kY_4 kY_5 kU_0 kU_1 kU_2 kU_3 kU_4 kU_5 cDVU_0 cDVU_1 cDVU_2 cDVU_3 cDVU_4 cDVU_5 cDVU_6 cDVU_7 cDVU_8
        replace DX := DX.on hb
        replace DY := DY.on hb
        replace DU := DU.on hb
        replace hFX := hFX.on hb
        replace hFY := hFY.on hb
        replace hFU := hFU.on hb
        replace hVU := hVU.on hb
        replace DVU := DVU.on hb
        replace bz := bz.trans (hb.mono bz.size)
        clear hb
        go_wp2_with fail
        with_reducible refine (known_any _).mono ?_
        rintro e w13 ⟨rfl, hb⟩
        replace DX := DX.on hb
        replace DY := DY.on hb
        replace DU := DU.on hb
        replace hFX := hFX.on hb
        replace hFY := hFY.on hb
        replace hFU := hFU.on hb
        replace hVU := hVU.on hb
        replace DVU := DVU.on hb
        replace bz := bz.trans (hb.mono bz.size)
        clear hb
        go_wp2_with fail
        go_ret
        exact ⟨rfl, bz⟩
      · cases f3 : (RU != (nX : Int))
        · cases f4 : (CU != (nY : Int))
          · exfalso; rw [f0, f1, f2, f3, f4] at HFv; cases HFv
          · skip
            have p9 := rVector_any RX CX AX nX cX
            rw [f0] at p9
            obtain ⟨kX_0, kX_1, kX_2, kX_3, kX_4, kX_5⟩ := Mbx.cells DX
            obtain ⟨kY_0, kY_1, kY_2, kY_3, kY_4, kY_5⟩ := Mbx.cells DY
            obtain ⟨kU_0, kU_1, kU_2, kU_3, kU_4, kU_5⟩ := Mbx.cells DU
            go_wp2_with fail
            with_reducible refine (p9 _).mono ?_
            rintro e w8 ⟨rfl, hb⟩
            clear kX_0 kX_1 kX_2 kX_3 kX_4 kX_5 kY_0 kY_1 kY_2 kY_3 kY_4 kY_5 kU_0 kU_1 kU_2 kU_3 kU_4 kU_5
            replace DX := DX.on hb
            replace DY := DY.on hb
            replace DU := DU.on hb
            replace hFX := hFX.on hb
            replace hFY := hFY.on hb
            replace hFU := hFU.on hb
            replace hVU := hVU.on hb
            replace DVU := DVU.on hb
            replace bz := bz.trans (hb.mono bz.size)
            clear hb p9
            have p9 := rVector_any RY CY AY nY cY
            rw [f1] at p9
            obtain ⟨kX_0, kX_1, kX_2, kX_3, kX_4, kX_5⟩ := Mbx.cells DX
            obtain ⟨kY_0, kY_1, kY_2, kY_3, kY_4, kY_5⟩ := Mbx.cells DY
            obtain ⟨kU_0, kU_1, kU_2, kU_3, kU_4, kU_5⟩ := Mbx.cells DU
            go_wp2_with fail
            with_reducible refine (p9 _).mono ?_
            rintro e w9 ⟨rfl, hb⟩
            clear kX_0 kX_1 kX_2 kX_3 kX_4 kX_5 kY_0 kY_1 kY_2 kY_3 kY_4 kY_5 kU_0 kU_1 kU_2 kU_3 kU_4 kU_5
            replace DX := DX.on hb
            replace DY := DY.on hb
            replace DU := DU.on hb
            replace hFX := hFX.on hb
            replace hFY := hFY.on hb
            replace hFU := hFU.on hb
            replace hVU := hVU.on hb
            replace DVU := DVU.on hb
            replace bz := bz.trans (hb.mono bz.size)
            clear hb p9
            have p9 := rSquare_any RU CU AU nU cU
            rw [f2] at p9
            obtain ⟨kX_0, kX_1, kX_2, kX_3, kX_4, kX_5⟩ := Mbx.cells DX
            obtain ⟨kY_0, kY_1, kY_2, kY_3, kY_4, kY_5⟩ := Mbx.cells DY
            obtain ⟨kU_0, kU_1, kU_2, kU_3, kU_4, kU_5⟩ := Mbx.cells DU
            go_wp2_with fail
            with_reducible refine (p9 _).mono ?_
            rintro e w10 ⟨rfl, hb⟩
            clear kX_0 kX_1 kX_2 kX_3 kX_4 kX_5 kY_0 kY_1 kY_2 kY_3 kY_4 kY_5 kU_0 kU_1 kU_2 kU_3 kU_4 kU_5
            replace DX := DX.on hb
            replace DY := DY.on hb
            replace DU := DU.on hb
            replace hFX := hFX.on hb
            replace hFY := hFY.on hb
            replace hFU := hFU.on hb
            replace hVU := hVU.on hb
            replace DVU := DVU.on hb
            replace bz := bz.trans (hb.mono bz.size)
            clear hb p9
            obtain ⟨kX_0, kX_1, kX_2, kX_3, kX_4, kX_5⟩ := Mbx.cells DX
            obtain ⟨kY_0, kY_1, kY_2, kY_3, kY_4, kY_5⟩ := Mbx.cells DY
            obtain ⟨kU_0, kU_1, kU_2, kU_3, kU_4, kU_5⟩ := Mbx.cells DU
            go_wp2_with fail
            with_reducible refine (num_any _ _).mono ?_
            rintro e v11 ⟨rfl, rfl⟩
            clear kX_0 kX_1 kX_2 kX_3 kX_4 kX_5 kY_0 kY_1 kY_2 kY_3 kY_4 kY_5 kU_0 kU_1 kU_2 kU_3 kU_4 kU_5
            obtain ⟨kX_0, kX_1, kX_2, kX_3, kX_4, kX_5⟩ := Mbx.cells DX
            obtain ⟨kY_0, kY_1, kY_2, kY_3, kY_4, kY_5⟩ := Mbx.cells DY
            obtain ⟨kU_0, kU_1, kU_2, kU_3, kU_4, kU_5⟩ := Mbx.cells DU
            obtain ⟨cDVU_0, cDVU_1, cDVU_2, cDVU_3, cDVU_4, cDVU_5, cDVU_6, cDVU_7, cDVU_8⟩ := Vbx.cells DVU
            go_wp2_with fail
            with_reducible refine (shows_true hVU.sv hFU.fl hVU.R hVU.C (sameL_refl LU)).mono ?_
            rintro e w12 ⟨rfl, hb⟩
            clear kX_0 kX_1 kX_2 kX_3 kX_4 kX_5 kY_0 kY_1 kY_2 kY_3 kY_4 kY_5 kU_0 kU_1 kU_2 kU_3 kU_4 kU_5 cDVU_0 cDVU_1 cDVU_2 cDVU_3 cDVU_4 cDVU_5 cDVU_6 cDVU_7 cDVU_8
            replace DX := DX.on hb
            replace DY := DY.on hb
            replace DU := DU.on hb
            replace hFX := hFX.on hb
            replace hFY := hFY.on hb
            replace hFU := hFU.on hb
            replace hVU := hVU.on hb
            replace DVU := DVU.on hb
            replace bz := bz.trans (hb.mono bz.size)
            clear hb
            go_wp2_with fail
            with_reducible refine (known_any _).mono ?_
            rintro e w13 ⟨rfl, hb⟩
            replace DX := DX.on hb
            replace DY := DY.on hb
            replace DU := DU.on hb
            replace hFX := hFX.on hb
            replace hFY := hFY.on hb
            replace hFU := hFU.on hb
            replace hVU := hVU.on hb
            replace DVU := DVU.on hb
            replace bz := bz.trans (hb.mono bz.size)
            clear hb
            go_wp2_with fail
            go_ret
            exact ⟨rfl, bz⟩
        · skip
          have p9 := rVector_any RX CX AX nX cX
          rw [f0] at p9
          obtain ⟨kX_0, kX_1, kX_2, kX_3, kX_4, kX_5⟩ := Mbx.cells DX
          obtain ⟨kY_0, kY_1, kY_2, kY_3, kY_4, kY_5⟩ := Mbx.cells DY
          obtain ⟨kU_0, kU_1, kU_2, kU_3, kU_4, kU_5⟩ := Mbx.cells DU
          go_wp2_with fail
          with_reducible refine (p9 _).mono ?_
          rintro e w8 ⟨rfl, hb⟩
          clear kX_0 kX_1 kX_2 kX_3 kX_4 kX_5 kY_0 kY_1 kY_2 kY_3 kY_4 kY_5 kU_0 kU_1 kU_2 kU_3 kU_4 kU_5
          replace DX := DX.on hb
          replace DY := DY.on hb
          replace DU := DU.on hb
          replace hFX := hFX.on hb
          replace hFY := hFY.on hb
          replace hFU := hFU.on hb
          replace hVU := hVU.on hb
          replace DVU := DVU.on hb
          replace bz := bz.trans (hb.mono bz.size)
          clear hb p9
          have p9 := rVector_any RY CY AY nY cY
          rw [f1] at p9
          obtain ⟨kX_0, kX_1, kX_2, kX_3, kX_4, kX_5⟩ := Mbx.cells DX
          obtain ⟨kY_0, kY_1, kY_2, kY_3, kY_4, kY_5⟩ := Mbx.cells DY
          obtain ⟨kU_0, kU_1, kU_2, kU_3, kU_4, kU_5⟩ := Mbx.cells DU
          go_wp2_with fail
          with_reducible refine (p9 _).mono ?_
          rintro e w9 ⟨rfl, hb⟩
          clear kX_0 kX_1 kX_2 kX_3 kX_4 kX_5 kY_0 kY_1 kY_2 kY_3 kY_4 kY_5 kU_0 kU_1 kU_2 kU_3 kU_4 kU_5
          replace DX := DX.on hb
          replace DY := DY.on hb
          replace DU := DU.on hb
          replace hFX := hFX.on hb
          replace hFY := hFY.on hb
          replace hFU := hFU.on hb
          replace hVU := hVU.on hb
          replace DVU := DVU.on hb
          replace bz := bz.trans (hb.mono bz.size)
          clear hb p9
          have p9 := rSquare_any RU CU AU nU cU
          rw [f2] at p9
          obtain ⟨kX_0, kX_1, kX_2, kX_3, kX_4, kX_5⟩ := Mbx.cells DX
          obtain ⟨kY_0, kY_1, kY_2, kY_3, kY_4, kY_5⟩ := Mbx.cells DY
          obtain ⟨kU_0, kU_1, kU_2, kU_3, kU_4, kU_5⟩ := Mbx.cells DU
          go_wp2_with fail
          with_reducible refine (p9 _).mono ?_
          rintro e w10 ⟨rfl, hb⟩
          clear kX_0 kX_1 kX_2 kX_3 kX_4 kX_5 kY_0 kY_1 kY_2 kY_3 kY_4 kY_5 kU_0 kU_1 kU_2 kU_3 kU_4 kU_5
          replace DX := DX.on hb
          replace DY := DY.on hb
          replace DU := DU.on hb
          replace hFX := hFX.on hb
          replace hFY := hFY.on hb
          replace hFU := hFU.on hb
          replace hVU := hVU.on hb
          replace DVU := DVU.on hb
          replace bz := bz.trans (hb.mono bz.size)
          clear hb p9
          obtain ⟨kX_0, kX_1, kX_2, kX_3, kX_4, kX_5⟩ := Mbx.cells DX
          obtain ⟨kY_0, kY_1, kY_2, kY_3, kY_4, kY_5⟩ := Mbx.cells DY
          obtain ⟨kU_0, kU_1, kU_2, kU_3, kU_4, kU_5⟩ := Mbx.cells DU
          go_wp2_with fail
          with_reducible refine (num_any _ _).mono ?_
          rintro e v11 ⟨rfl, rfl⟩
          clear kX_0 kX_1 kX_2 kX_3 kX_4 kX_5 kY_0 kY_1 kY_2 kY_3 kY_4 kY_5 kU_0 kU_1 kU_2 kU_3 kU_4 kU_5
          obtain ⟨kX_0, kX_1, kX_2, kX_3, kX_4, kX_5⟩ := Mbx.cells DX
          obtain ⟨kY_0, kY_1, kY_2, kY_3, kY_4, kY_5⟩ := Mbx.cells DY
          obtain ⟨kU_0, kU_1, kU_2, kU_3, kU_4, kU_5⟩ := Mbx.cells DU
          obtain ⟨cDVU_0, cDVU_1, cDVU_2, cDVU_3, cDVU_4, cDVU_5, cDVU_6, cDVU_7, cDVU_8⟩ := Vbx.cells DVU
          go_wp2_with fail
          with_reducible refine (shows_true hVU.sv hFU.fl hVU.R hVU.C (sameL_refl LU)).mono ?_
          rintro e w12 ⟨rfl, hb⟩
          clear kX_0 kX_1 kX_2 kX_3 kX_4 kX_5 kY_0 kY_1 kY_2 kY_3 kY_4 kY_5 kU_0 kU_1 kU_2 kU_3 kU_4 kU_5 cDVU_0 cDVU_1 cDVU_2 cDVU_3 cDVU_4 cDVU_5 cDVU_6 cDVU_7 cDVU_8
          replace DX := DX.on hb
          replace DY := DY.on hb
          replace DU := DU.on hb
          replace hFX := hFX.on hb
          replace hFY := hFY.on hb
          replace hFU := hFU.on hb
          replace hVU := hVU.on hb
          replace DVU := DVU.on hb
          replace bz := bz.trans (hb.mono bz.size)
          clear hb
          go_wp2_with fail
          with_reducible refine (known_any _).mono ?_
          rintro e w13 ⟨rfl, hb⟩
          replace DX := DX.on hb
          replace DY := DY.on hb
          replace DU := DU.on hb
          replace hFX := hFX.on hb
          replace hFY := hFY.on hb
          replace hFU := hFU.on hb
          replace hVU := hVU.on hb
          replace DVU := DVU.on hb
          replace bz := bz.trans (hb.mono bz.size)
          clear hb
          go_wp2_with fail
          go_ret
          exact ⟨rfl, bz⟩
set_option maxRecDepth 100000 in
set_option maxHeartbeats 8000000 in
theorem KernelsSyr2_yes {w : World} {RX CX : Int} {AX : Option Addr} {nX cX : Nat} {LX : List Int} {RY CY : Int} {AY : Option Addr} {nY cY : Nat} {LY : List Int} {RU CU : Int} {AU : Option Addr} {nU cU : Nat} {LU : List Int} {a : Nat} {turned : Bool} (ba : a ≤ 18446744073709551615) (hX : FL w AX nX cX LX) (hY : FL w AY nY cY LY) (hU : FL w AU nU cU LU) (bU : bigM RU CU nU = false) (bX : bigM RX CX nX = false) (bY : bigM RY CY nY = false) (hf : (vecM RX CX && vecM RY CY && (RU == CU) && !(RU != (nX : Int)) && !(CU != (nY : Int))) = true) : Calls Try.prog 8 #[.float .f64 a, mV RX CX AX nX cX, mV RY CY AY nY cY, mV RU CU AU nU cU, .bool turned] w (Ans w (.bool true)) := by
  have pbU := fun W => big_any RU CU AU nU cU hU.max W
  rw [bU] at pbU
  obtain ⟨zU, eU, uU⟩ := big_is bU
  have HSU := Lib.hid (And.intro zU eU)
  clear bU zU eU
  have pbX := fun W => big_any RX CX AX nX cX hX.max W
  rw [bX] at pbX
  obtain ⟨zX, eX, uX⟩ := big_is bX
  have HSX := Lib.hid (And.intro zX eX)
  clear bX zX eX
  have pbY := fun W => big_any RY CY AY nY cY hY.max W
  rw [bY] at pbY
  obtain ⟨zY, eY, uY⟩ := big_is bY
  have HSY := Lib.hid (And.intro zY eY)
  clear bY zY eY
  have EX := Lib.hid hX.1
  have mxX := hX.max
  have EY := Lib.hid hY.1
  have mxY := hY.max
  have EU := Lib.hid hU.1
  have mxU := hU.max
  have hfs := hf
  simp only [Bool.and_eq_true] at hfs
  obtain ⟨⟨⟨⟨f0, f1⟩, f2⟩, f3⟩, f4⟩ := hfs
  replace f3 : (RU != (nX : Int)) = false := by simpa using f3
  replace f4 : (CU != (nY : Int)) = false := by simpa using f4
  have zU := (szB_bd HSU.out.1).1
  obtain ⟨m, hm⟩ := Int.eq_ofNat_of_zero_le zU.1
  have g0 : RU = CU := by simpa using f2
  have hq : CU = (m : Int) := by rw [← g0]; exact hm
  have hnU : nU = m * m := by have := HSU.out.2; rw [hm, hq] at this; exact_mod_cast this
  have hmx : m = nX := by have h := f3; rw [hm] at h; have h2 : (m : Int) = nX := by { simpa using h }; omega
  have hqy : m = nY := by have h := f4; rw [hq] at h; have h2 : (m : Int) = nY := by { simpa using h }; omega
  have hm5 : m ≤ 512 := by omega
  have HM := Lib.hid hm
  have HQ := Lib.hid hq
  have HN := Lib.hid hnU
  have HMX := Lib.hid hmx
  have HQY := Lib.hid hqy
  clear zU hm hq hnU hmx hqy g0
  have F0 := Lib.hid f0
  clear f0
  have F1 := Lib.hid f1
  clear f1
  have F2 := Lib.hid f2
  clear f2
  have F3 := Lib.hid f3
  clear f3
  have F4 := Lib.hid f4
  clear f4
  have HFT := Lib.hid hf
  clear hf
  have DX := Blk.new w [.int .i64 RX, .int .i64 CX, .slice AX nX cX] 24
  have DY := Blk.new (w.alloc (.cells #[.int .i64 RX, .int .i64 CX, .slice AX nX cX] 24)) [.int .i64 RY, .int .i64 CY, .slice AY nY cY] 24
  replace DX := DX.alloc (.cells #[.int .i64 RY, .int .i64 CY, .slice AY nY cY] 24)
  simp only [World.size_alloc] at DY
  have DU := Blk.new ((w.alloc (.cells #[.int .i64 RX, .int .i64 CX, .slice AX nX cX] 24)).alloc (.cells #[.int .i64 RY, .int .i64 CY, .slice AY nY cY] 24)) [.int .i64 RU, .int .i64 CU, .slice AU nU cU] 24
  replace DX := DX.alloc (.cells #[.int .i64 RU, .int .i64 CU, .slice AU nU cU] 24)
  replace DY := DY.alloc (.cells #[.int .i64 RU, .int .i64 CU, .slice AU nU cU] 24)
  simp only [World.size_alloc] at DU
  have bz := (((Below.refl _ w).alloc (Nat.le_refl _) (.cells #[.int .i64 RX, .int .i64 CX, .slice AX nX cX] 24)).alloc (by simp <;> omega) (.cells #[.int .i64 RY, .int .i64 CY, .slice AY nY cY] 24)).alloc (by simp <;> omega) (.cells #[.int .i64 RU, .int .i64 CU, .slice AU nU cU] 24)
  have hsz0 : (((w.alloc (.cells #[.int .i64 RX, .int .i64 CX, .slice AX nX cX] 24)).alloc (.cells #[.int .i64 RY, .int .i64 CY, .slice AY nY cY] 24)).alloc (.cells #[.int .i64 RU, .int .i64 CU, .slice AU nU cU] 24)).heap.size = w.heap.size + 3 := by simp
  have hFX := hX.lo.on bz
  clear hX
  have hFY := hY.lo.on bz
  clear hY
  have hFU := hU.lo.on bz
  clear hU
  go_enter Try.func8, Try.ntmps8
  obtain ⟨kX_0, kX_1, kX_2, kX_3, kX_4, kX_5⟩ := Mbx.cells DX
  obtain ⟨kY_0, kY_1, kY_2, kY_3, kY_4, kY_5⟩ := Mbx.cells DY
  obtain ⟨kU_0, kU_1, kU_2, kU_3, kU_4, kU_5⟩ := Mbx.cells DU
  go_wp2_with fail
  with_reducible refine (pbU _).mono ?_
  rintro e w1 ⟨rfl, hb⟩
  clear kX_0 kX_1 kX_2 kX_3 kX_4 kX_5 kY_0 kY_1 kY_2 kY_3 kY_4 kY_5 kU_0 kU_1 kU_2 kU_3 kU_4 kU_5
  replace DX := DX.on hb
  replace DY := DY.on hb
  replace DU := DU.on hb
  replace hFX := hFX.on hb
  replace hFY := hFY.on hb
  replace hFU := hFU.on hb
  replace bz := bz.trans (hb.mono bz.size)
  clear hb
  obtain ⟨kX_0, kX_1, kX_2, kX_3, kX_4, kX_5⟩ := Mbx.cells DX
  obtain ⟨kY_0, kY_1, kY_2, kY_3, kY_4, kY_5⟩ := Mbx.cells DY
  obtain ⟨kU_0, kU_1, kU_2, kU_3, kU_4, kU_5⟩ := Mbx.cells DU
  go_wp2_with fail
  with_reducible refine (pbX _).mono ?_
  rintro e w2 ⟨rfl, hb⟩
  clear kX_0 kX_1 kX_2 kX_3 kX_4 kX_5 kY_0 kY_1 kY_2 kY_3 kY_4 kY_5 kU_0 kU_1 kU_2 kU_3 kU_4 kU_5
  replace DX := DX.on hb
  replace DY := DY.on hb
  replace DU := DU.on hb
  replace hFX := hFX.on hb
  replace hFY := hFY.on hb
  replace hFU := hFU.on hb
  replace bz := bz.trans (hb.mono bz.size)
  clear hb
  obtain ⟨kX_0, kX_1, kX_2, kX_3, kX_4, kX_5⟩ := Mbx.cells DX
  obtain ⟨kY_0, kY_1, kY_2, kY_3, kY_4, kY_5⟩ := Mbx.cells DY
  obtain ⟨kU_0, kU_1, kU_2, kU_3, kU_4, kU_5⟩ := Mbx.cells DU
  go_wp2_with fail
  with_reducible refine (pbY _).mono ?_
  rintro e w3 ⟨rfl, hb⟩
  clear kX_0 kX_1 kX_2 kX_3 kX_4 kX_5 kY_0 kY_1 kY_2 kY_3 kY_4 kY_5 kU_0 kU_1 kU_2 kU_3 kU_4 kU_5
  replace DX := DX.on hb
  replace DY := DY.on hb
  replace DU := DU.on hb
  replace hFX := hFX.on hb
  replace hFY := hFY.on hb
  replace hFU := hFU.on hb
  replace bz := bz.trans (hb.mono bz.size)
  clear hb
  obtain ⟨kX_0, kX_1, kX_2, kX_3, kX_4, kX_5⟩ := Mbx.cells DX
  obtain ⟨kY_0, kY_1, kY_2, kY_3, kY_4, kY_5⟩ := Mbx.cells DY
  obtain ⟨kU_0, kU_1, kU_2, kU_3, kU_4, kU_5⟩ := Mbx.cells DU
  have hszw : w.heap.size + 3 ≤ w3.heap.size := by have := DU.lt; omega
  go_wp2_with fail
  with_reducible refine (of_any turned hFU.fl HSU.out.1 HSU.out.2).mono ?_
  rintro e w4 ⟨VU, sVU, gVU, capVU, cVU, lVU, rfl, hVU, hb⟩
  clear kX_0 kX_1 kX_2 kX_3 kX_4 kX_5 kY_0 kY_1 kY_2 kY_3 kY_4 kY_5 kU_0 kU_1 kU_2 kU_3 kU_4 kU_5
  replace DX := DX.on hb
  replace DY := DY.on hb
  replace DU := DU.on hb
  replace hFX := hFX.on hb
  replace hFY := hFY.on hb
  replace hFU := hFU.on hb
  replace bz := bz.trans (hb.mono bz.size)
  clear hb
  have hgy : w.heap.size + 3 ≤ gVU ∧ w.heap.size + 3 ≤ sVU := by have h1 := hVU.st.lo; have h2 := hVU.st.gt.1; omega
  have hlt := And.intro hVU.st.lt hVU.st.gt.2
  have DVU := Blk.new w4 (VU).L 30
  obtain ⟨HDVU, eHDVU⟩ : ∃ H, w4.heap.size = H := ⟨_, rfl⟩
  rw [eHDVU] at DVU
  have hbA := (Below.refl _ w4).alloc (Nat.le_refl _) (.cells (VU).L.toArray 30)
  replace DX := DX.on hbA
  replace DY := DY.on hbA
  replace DU := DU.on hbA
  replace hFX := hFX.on hbA
  replace hFY := hFY.on hbA
  replace hFU := hFU.on hbA
  replace hVU := hVU.on hbA
  clear hbA
  replace bz := bz.alloc bz.size (.cells (VU).L.toArray 30)
  have HHDVU := Lib.hid eHDVU
  rw [eHDVU] at hlt
  clear hszw
  go_wp2_with fail
  replace DX := DX.drew
  replace DY := DY.drew
  replace DU := DU.drew
  replace hFX := hFX.drew
  replace hFY := hFY.drew
  replace hFU := hFU.drew
  replace hVU := hVU.drew
  replace DVU := DVU.drew
  replace bz := bz.drew
  refine wp_region_held_drew (S := fun w9 : World => Mbx w9 w.heap.size RX CX AX nX cX ∧ Mbx w9 (w.heap.size + 1) RY CY AY nY cY ∧ Mbx w9 (w.heap.size + 2) RU CU AU nU cU ∧ Vbx w9 HDVU VU) (by kernel_rfl) ⟨DX, DY, DU, DVU⟩ (fun hS => ?_)
  generalize (w4.alloc (.cells (VU).L.toArray 30)).drew = wd4 at hS DX DY DU hFX hFY hFU hVU DVU  bz ⊢
  refine wpAnyH_take (i := 0) (v := ?v0_7) rfl (by kernel_rfl) (by kernel_rfl) (by kernel_rfl) (fun _ _ _ h => h) (Or.inl ⟨by rfl, ?hy0_7⟩) (by assumption) ?rest0_7
  case hy0_7 => (intro w9 hSw; clear hSw; go_simp; try with_reducible rfl)
  try simp only [Act.put, List.setIfInBounds_toArray, List.set_cons_zero, List.set_cons_succ, List.getElem_toArray, List.getElem_cons_zero, List.getElem_cons_succ]
  refine wpAnyH_take (i := 1) (v := ?v1_8) rfl (by kernel_rfl) (by kernel_rfl) (by kernel_rfl) (fun _ _ _ h => h) (Or.inl ⟨by rfl, ?hy1_8⟩) (by assumption) ?rest1_8
  case hy1_8 => (intro w9 hSw; obtain ⟨m0, m1, m2, m3⟩ := hSw; obtain ⟨q0_0, q0_1, q0_2, q0_3, q0_4, q0_5⟩ := Mbx.cells m0; obtain ⟨q1_0, q1_1, q1_2, q1_3, q1_4, q1_5⟩ := Mbx.cells m1; obtain ⟨q2_0, q2_1, q2_2, q2_3, q2_4, q2_5⟩ := Mbx.cells m2; go_simp; try with_reducible rfl)
  try simp only [Act.put, List.setIfInBounds_toArray, List.set_cons_zero, List.set_cons_succ, List.getElem_toArray, List.getElem_cons_zero, List.getElem_cons_succ]
  refine wpAnyH_take (i := 2) (v := ?v2_9) rfl (by kernel_rfl) (by kernel_rfl) (by kernel_rfl) (fun _ _ _ h => h) (Or.inl ⟨by rfl, ?hy2_9⟩) (by assumption) ?rest2_9
  case hy2_9 => (intro w9 hSw; clear hSw; go_simp; try with_reducible rfl)
  try simp only [Act.put, List.setIfInBounds_toArray, List.set_cons_zero, List.set_cons_succ, List.getElem_toArray, List.getElem_cons_zero, List.getElem_cons_succ]
  refine wpAnyH_take (i := 4) (v := ?v4_10) rfl (by kernel_rfl) (by kernel_rfl) (by kernel_rfl) (fun _ _ _ h => h) (Or.inl ⟨by rfl, ?hy4_10⟩) (by assumption) ?rest4_10
  case hy4_10 => (intro w9 hSw; obtain ⟨m0, m1, m2, m3⟩ := hSw; obtain ⟨q0_0, q0_1, q0_2, q0_3, q0_4, q0_5⟩ := Mbx.cells m0; obtain ⟨q1_0, q1_1, q1_2, q1_3, q1_4, q1_5⟩ := Mbx.cells m1; obtain ⟨q2_0, q2_1, q2_2, q2_3, q2_4, q2_5⟩ := Mbx.cells m2; go_simp; try with_reducible rfl)
  try simp only [Act.put, List.setIfInBounds_toArray, List.set_cons_zero, List.set_cons_succ, List.getElem_toArray, List.getElem_cons_zero, List.getElem_cons_succ]
  refine wpAnyH_take (i := 6) (v := ?v6_11) rfl (by kernel_rfl) (by kernel_rfl) (by kernel_rfl) (fun _ _ _ h => h) (Or.inl ⟨by rfl, ?hy6_11⟩) (by assumption) ?rest6_11
  case hy6_11 => (intro w9 hSw; obtain ⟨m0, m1, m2, m3⟩ := hSw; refine (ld_v (by rfl) (by kernel_rfl) m3).trans ?_; with_reducible rfl)
  try simp only [Act.put, List.setIfInBounds_toArray, List.set_cons_zero, List.set_cons_succ, List.getElem_toArray, List.getElem_cons_zero, List.getElem_cons_succ]
  refine wpAnyH_ready (rs := [3]) (by kernel_rfl) (by simp) ?_
  refine AllReadyH.cons rfl (fun K hK => ?_) AllReadyH.nil
  go_simp
  with_reducible refine (of_any turned hFX.fl HSX.out.1 HSX.out.2).mono ?_
  rintro e w5 ⟨VX, sVX, gVX, capVX, cVX, lVX, rfl, hVX, hb⟩
  replace DX := DX.on hb
  replace DY := DY.on hb
  replace DU := DU.on hb
  replace hFX := hFX.on hb
  replace hFY := hFY.on hb
  replace hFU := hFU.on hb
  replace hVU := hVU.on hb
  replace DVU := DVU.on hb
  replace bz := bz.trans (hb.mono bz.size)
  clear hb
  clear hS; refine hK.out _ _ ⟨DX, DY, DU, DVU⟩ (fun hS => ?_); clear hK K
  try simp only [Act.put, List.setIfInBounds_toArray, List.set_cons_zero, List.set_cons_succ, List.getElem_toArray, List.getElem_cons_zero, List.getElem_cons_succ]
  refine wpAnyH_ready (rs := [5]) (by kernel_rfl) (by simp) ?_
  refine AllReadyH.cons rfl (fun K hK => ?_) AllReadyH.nil
  go_simp
  with_reducible refine (of_any false hFY.fl HSY.out.1 HSY.out.2).mono ?_
  rintro e w6 ⟨VY, sVY, gVY, capVY, cVY, lVY, rfl, hVY, hb⟩
  replace DX := DX.on hb
  replace DY := DY.on hb
  replace DU := DU.on hb
  replace hFX := hFX.on hb
  replace hFY := hFY.on hb
  replace hFU := hFU.on hb
  replace hVU := hVU.on hb
  replace DVU := DVU.on hb
  replace hVX := hVX.on hb
  replace bz := bz.trans (hb.mono bz.size)
  clear hb
  clear hS; refine hK.out _ _ ⟨DX, DY, DU, DVU⟩ (fun hS => ?_); clear hK K
  try simp only [Act.put, List.setIfInBounds_toArray, List.set_cons_zero, List.set_cons_succ, List.getElem_toArray, List.getElem_cons_zero, List.getElem_cons_succ]
  refine wpAnyH_ready (rs := [7]) (by kernel_rfl) (by simp) ?_
  refine AllReadyH.cons rfl (fun K hK => ?_) AllReadyH.nil
  go_simp
  with_reducible refine (syr2_yes ba hVU hVX hVY HM.out HQ.out EX.out EY.out EU.out HFT.out).mono ?_
  rintro e w66 ⟨ly, G, rfl, hVU2, hI, hg⟩
  replace DX := DX.grown hg (by simp; omega)
  replace hFX := hFX.grown hg (by omega)
  replace DY := DY.grown hg (by simp; omega)
  replace hFY := hFY.grown hg (by omega)
  replace DU := DU.grown hg (by simp; omega)
  replace hFU := hFU.grown hg (by omega)
  replace DVU := DVU.grown hg (by simp; omega)
  replace hVU := hVU2
  replace bz := bz.grown hg bz.size (fun k e => by cases e; omega)
  have HI := Lib.hid hI
  clear hVU2 hg hI
  clear hVX hVY
  clear hS; refine hK.out _ _ ⟨DX, DY, DU, DVU⟩ (fun hS => ?_); clear hK K
  try simp only [Act.put, List.setIfInBounds_toArray, List.set_cons_zero, List.set_cons_succ, List.getElem_toArray, List.getElem_cons_zero, List.getElem_cons_succ]
  refine wpAnyH_take (i := 8) (v := ?v8_12) rfl (by kernel_rfl) (by kernel_rfl) (by kernel_rfl) (fun _ _ _ h => h) (Or.inl ⟨by rfl, ?hy8_12⟩) (by assumption) ?rest8_12
  case hy8_12 => (intro w9 hSw; clear hSw; go_simp; try with_reducible rfl)
  try simp only [Act.put, List.setIfInBounds_toArray, List.set_cons_zero, List.set_cons_succ, List.getElem_toArray, List.getElem_cons_zero, List.getElem_cons_succ]
  refine wpAnyH_done (by kernel_rfl) ?_ _
  have f0 := F0.out
  have f1 := F1.out
  have f2 := F2.out
  have f3 := F3.out
  have f4 := F4.out
  have p9 := rVector_any RX CX AX nX cX
  rw [f0] at p9
  obtain ⟨kX_0, kX_1, kX_2, kX_3, kX_4, kX_5⟩ := Mbx.cells DX
  obtain ⟨kY_0, kY_1, kY_2, kY_3, kY_4, kY_5⟩ := Mbx.cells DY
  obtain ⟨kU_0, kU_1, kU_2, kU_3, kU_4, kU_5⟩ := Mbx.cells DU
  go_wp2_with fail
  with_reducible refine (p9 _).mono ?_
  rintro e w7 ⟨rfl, hb⟩
  clear kX_0 kX_1 kX_2 kX_3 kX_4 kX_5 kY_0 kY_1 kY_2 kY_3 kY_4 kY_5 kU_0 kU_1 kU_2 kU_3 kU_4 kU_5
  replace DX := DX.on hb
  replace DY := DY.on hb
  replace DU := DU.on hb
  replace hFX := hFX.on hb
  replace hFY := hFY.on hb
  replace hFU := hFU.on hb
  replace hVU := hVU.on hb
  replace DVU := DVU.on hb
  replace bz := bz.trans (hb.mono bz.size)
  clear hb p9
  have p9 := rVector_any RY CY AY nY cY
  rw [f1] at p9
  obtain ⟨kX_0, kX_1, kX_2, kX_3, kX_4, kX_5⟩ := Mbx.cells DX
  obtain ⟨kY_0, kY_1, kY_2, kY_3, kY_4, kY_5⟩ := Mbx.cells DY
  obtain ⟨kU_0, kU_1, kU_2, kU_3, kU_4, kU_5⟩ := Mbx.cells DU
  go_wp2_with fail
  with_reducible refine (p9 _).mono ?_
  rintro e w8 ⟨rfl, hb⟩
  clear kX_0 kX_1 kX_2 kX_3 kX_4 kX_5 kY_0 kY_1 kY_2 kY_3 kY_4 kY_5 kU_0 kU_1 kU_2 kU_3 kU_4 kU_5
  replace DX := DX.on hb
  replace DY := DY.on hb
  replace DU := DU.on hb
  replace hFX := hFX.on hb
  replace hFY := hFY.on hb
  replace hFU := hFU.on hb
  replace hVU := hVU.on hb
  replace DVU := DVU.on hb
  replace bz := bz.trans (hb.mono bz.size)
  clear hb p9
  have p9 := rSquare_any RU CU AU nU cU
  rw [f2] at p9
  obtain ⟨kX_0, kX_1, kX_2, kX_3, kX_4, kX_5⟩ := Mbx.cells DX
  obtain ⟨kY_0, kY_1, kY_2, kY_3, kY_4, kY_5⟩ := Mbx.cells DY
  obtain ⟨kU_0, kU_1, kU_2, kU_3, kU_4, kU_5⟩ := Mbx.cells DU
  go_wp2_with fail
  with_reducible refine (p9 _).mono ?_
  rintro e w9 ⟨rfl, hb⟩
  clear kX_0 kX_1 kX_2 kX_3 kX_4 kX_5 kY_0 kY_1 kY_2 kY_3 kY_4 kY_5 kU_0 kU_1 kU_2 kU_3 kU_4 kU_5
  replace DX := DX.on hb
  replace DY := DY.on hb
  replace DU := DU.on hb
  replace hFX := hFX.on hb
  replace hFY := hFY.on hb
  replace hFU := hFU.on hb
  replace hVU := hVU.on hb
  replace DVU := DVU.on hb
  replace bz := bz.trans (hb.mono bz.size)
  clear hb p9
  obtain ⟨kX_0, kX_1, kX_2, kX_3, kX_4, kX_5⟩ := Mbx.cells DX
  obtain ⟨kY_0, kY_1, kY_2, kY_3, kY_4, kY_5⟩ := Mbx.cells DY
  obtain ⟨kU_0, kU_1, kU_2, kU_3, kU_4, kU_5⟩ := Mbx.cells DU
  go_wp2_with fail
  clear kX_0 kX_1 kX_2 kX_3 kX_4 kX_5 kY_0 kY_1 kY_2 kY_3 kY_4 kY_5 kU_0 kU_1 kU_2 kU_3 kU_4 kU_5
  clear f0 f1 f2 f3 f4
  replace DX := DX.drew
  replace DY := DY.drew
  replace DU := DU.drew
  replace hFX := hFX.drew
  replace hFY := hFY.drew
  replace hFU := hFU.drew
  replace hVU := hVU.drew
  replace DVU := DVU.drew
  replace bz := bz.drew
  refine wp_region_held_drew (S := fun w9 : World => Mbx w9 w.heap.size RX CX AX nX cX ∧ Mbx w9 (w.heap.size + 1) RY CY AY nY cY ∧ Mbx w9 (w.heap.size + 2) RU CU AU nU cU ∧ Vbx w9 HDVU VU) (by kernel_rfl) ⟨DX, DY, DU, DVU⟩ (fun hS => ?_)
  generalize w9.drew = wd7 at hS DX DY DU hFX hFY hFU hVU DVU  bz ⊢
  refine wpAnyH_take (i := 0) (v := ?v0_13) rfl (by kernel_rfl) (by kernel_rfl) (by kernel_rfl) (fun _ _ _ h => h) (Or.inl ⟨by rfl, ?hy0_13⟩) (by assumption) ?rest0_13
  case hy0_13 => (intro w9 hSw; clear hSw; go_simp; try with_reducible rfl)
  try simp only [Act.put, List.setIfInBounds_toArray, List.set_cons_zero, List.set_cons_succ, List.getElem_toArray, List.getElem_cons_zero, List.getElem_cons_succ]
  refine wpAnyH_ready (rs := [1]) (by kernel_rfl) (by simp) ?_
  refine AllReadyH.cons rfl (fun K hK => ?_) AllReadyH.nil
  go_simp
  with_reducible refine (num_any _ _).mono ?_
  rintro e v10 ⟨rfl, rfl⟩
  clear hS; refine hK.out _ _ ⟨DX, DY, DU, DVU⟩ (fun hS => ?_); clear hK K
  try simp only [Act.put, List.setIfInBounds_toArray, List.set_cons_zero, List.set_cons_succ, List.getElem_toArray, List.getElem_cons_zero, List.getElem_cons_succ]
  refine wpAnyH_take (i := 2) (v := ?v2_14) rfl (by kernel_rfl) (by kernel_rfl) (by kernel_rfl) (fun _ _ _ h => h) (Or.inl ⟨by rfl, ?hy2_14⟩) (by assumption) ?rest2_14
  case hy2_14 => (intro w9 hSw; clear hSw; go_simp; try with_reducible rfl)
  try simp only [Act.put, List.setIfInBounds_toArray, List.set_cons_zero, List.set_cons_succ, List.getElem_toArray, List.getElem_cons_zero, List.getElem_cons_succ]
  refine wpAnyH_take (i := 3) (v := ?v3_15) rfl (by kernel_rfl) (by kernel_rfl) (by kernel_rfl) (fun _ _ _ h => h) (Or.inl ⟨by rfl, ?hy3_15⟩) (by assumption) ?rest3_15
  case hy3_15 => (intro w9 hSw; clear hSw; go_simp; try with_reducible rfl)
  try simp only [Act.put, List.setIfInBounds_toArray, List.set_cons_zero, List.set_cons_succ, List.getElem_toArray, List.getElem_cons_zero, List.getElem_cons_succ]
  refine wpAnyH_take (i := 4) (v := ?v4_16) rfl (by kernel_rfl) (by kernel_rfl) (by kernel_rfl) (fun _ _ _ h => h) (Or.inl ⟨by rfl, ?hy4_16⟩) (by assumption) ?rest4_16
  case hy4_16 => (intro w9 hSw; obtain ⟨m0, m1, m2, m3⟩ := hSw; refine (ld_v (by rfl) (by kernel_rfl) m3).trans ?_; with_reducible rfl)
  try simp only [Act.put, List.setIfInBounds_toArray, List.set_cons_zero, List.set_cons_succ, List.getElem_toArray, List.getElem_cons_zero, List.getElem_cons_succ]
  refine wpAnyH_take (i := 5) (v := ?v5_17) rfl (by kernel_rfl) (by kernel_rfl) (by kernel_rfl) (fun _ _ _ h => h) (Or.inl ⟨by rfl, ?hy5_17⟩) (by assumption) ?rest5_17
  case hy5_17 => (intro w9 hSw; clear hSw; go_simp; try with_reducible rfl)
  try simp only [Act.put, List.setIfInBounds_toArray, List.set_cons_zero, List.set_cons_succ, List.getElem_toArray, List.getElem_cons_zero, List.getElem_cons_succ]
  refine wpAnyH_take (i := 6) (v := ?v6_18) rfl (by kernel_rfl) (by kernel_rfl) (by kernel_rfl) (fun _ _ _ h => h) (Or.inl ⟨by rfl, ?hy6_18⟩) (by assumption) ?rest6_18
  case hy6_18 => (intro w9 hSw; clear hSw; go_simp; try with_reducible rfl)
  try simp only [Act.put, List.setIfInBounds_toArray, List.set_cons_zero, List.set_cons_succ, List.getElem_toArray, List.getElem_cons_zero, List.getElem_cons_succ]
  refine wpAnyH_take (i := 7) (v := ?v7_19) rfl (by kernel_rfl) (by kernel_rfl) (by kernel_rfl) (fun _ _ _ h => h) (Or.inl ⟨by rfl, ?hy7_19⟩) (by assumption) ?rest7_19
  case hy7_19 => (intro w9 hSw; obtain ⟨m0, m1, m2, m3⟩ := hSw; obtain ⟨q0_0, q0_1, q0_2, q0_3, q0_4, q0_5⟩ := Mbx.cells m0; obtain ⟨q1_0, q1_1, q1_2, q1_3, q1_4, q1_5⟩ := Mbx.cells m1; obtain ⟨q2_0, q2_1, q2_2, q2_3, q2_4, q2_5⟩ := Mbx.cells m2; go_simp; try with_reducible rfl)
  try simp only [Act.put, List.setIfInBounds_toArray, List.set_cons_zero, List.set_cons_succ, List.getElem_toArray, List.getElem_cons_zero, List.getElem_cons_succ]
  refine wpAnyH_take (i := 8) (v := ?v8_20) rfl (by kernel_rfl) (by kernel_rfl) (by kernel_rfl) (fun _ _ _ h => h) (Or.inl ⟨by rfl, ?hy8_20⟩) (by assumption) ?rest8_20
  case hy8_20 => (intro w9 hSw; clear hSw; go_simp; try with_reducible rfl)
  try simp only [Act.put, List.setIfInBounds_toArray, List.set_cons_zero, List.set_cons_succ, List.getElem_toArray, List.getElem_cons_zero, List.getElem_cons_succ]
  refine wpAnyH_take (i := 9) (v := ?v9_21) rfl (by kernel_rfl) (by kernel_rfl) (by kernel_rfl) (fun _ _ _ h => h) (Or.inl ⟨by rfl, ?hy9_21⟩) (by assumption) ?rest9_21
  case hy9_21 => (intro w9 hSw; obtain ⟨m0, m1, m2, m3⟩ := hSw; obtain ⟨q0_0, q0_1, q0_2, q0_3, q0_4, q0_5⟩ := Mbx.cells m0; obtain ⟨q1_0, q1_1, q1_2, q1_3, q1_4, q1_5⟩ := Mbx.cells m1; obtain ⟨q2_0, q2_1, q2_2, q2_3, q2_4, q2_5⟩ := Mbx.cells m2; go_simp; try with_reducible rfl)
  try simp only [Act.put, List.setIfInBounds_toArray, List.set_cons_zero, List.set_cons_succ, List.getElem_toArray, List.getElem_cons_zero, List.getElem_cons_succ]
  refine wpAnyH_take (i := 10) (v := ?v10_22) rfl (by kernel_rfl) (by kernel_rfl) (by kernel_rfl) (fun _ _ _ h => h) (Or.inl ⟨by rfl, ?hy10_22⟩) (by assumption) ?rest10_22
  case hy10_22 => (intro w9 hSw; obtain ⟨m0, m1, m2, m3⟩ := hSw; obtain ⟨q0_0, q0_1, q0_2, q0_3, q0_4, q0_5⟩ := Mbx.cells m0; obtain ⟨q1_0, q1_1, q1_2, q1_3, q1_4, q1_5⟩ := Mbx.cells m1; obtain ⟨q2_0, q2_1, q2_2, q2_3, q2_4, q2_5⟩ := Mbx.cells m2; go_simp; try with_reducible rfl)
  try simp only [Act.put, List.setIfInBounds_toArray, List.set_cons_zero, List.set_cons_succ, List.getElem_toArray, List.getElem_cons_zero, List.getElem_cons_succ]
  refine wpAnyH_ready (rs := [11]) (by kernel_rfl) (by simp) ?_
  refine AllReadyH.cons rfl (fun K hK => ?_) AllReadyH.nil
  go_simp
  have pr := rSyr2_any (a := a) (m := m) (q := m) (x := LX) (y := LY) ba (l := LU) hFU.fl HN.out hm5 hm5 hFX.fl hFY.fl (by have := HMX.out; omega) (by have := HQY.out; omega) (Nat.le_refl _) (Nat.le_refl _)
  rw [show mV (m : Int) (m : Int) AU nU cU = mV RU CU AU nU cU by rw [HM.out, HQ.out]] at pr
  with_reducible refine (pr).mono ?_
  rintro e w11 ⟨A8, c8, L8, rfl, hI8, ho8, hb⟩
  replace DX := DX.on hb
  replace DY := DY.on hb
  replace DU := DU.on hb
  replace hFX := hFX.on hb
  replace hFY := hFY.on hb
  replace hFU := hFU.on hb
  replace hVU := hVU.on hb
  replace DVU := DVU.on hb
  replace bz := bz.trans (hb.mono bz.size)
  clear hb
  clear pr
  rw [show mV (m : Int) (m : Int) A8 nU c8 = mV RU CU A8 nU c8 by rw [HM.out, HQ.out]]
  have hF8 := hI8.fl ho8
  have HI8 := Lib.hid hI8
  clear ho8 hI8
  clear hS; refine hK.out _ _ ⟨DX, DY, DU, DVU⟩ (fun hS => ?_); clear hK K
  try simp only [Act.put, List.setIfInBounds_toArray, List.set_cons_zero, List.set_cons_succ, List.getElem_toArray, List.getElem_cons_zero, List.getElem_cons_succ]
  refine wpAnyH_ready (rs := [12]) (by kernel_rfl) (by simp) ?_
  refine AllReadyH.cons rfl (fun K hK => ?_) AllReadyH.nil
  go_simp
  with_reducible refine (shows_true hVU.sv hF8 hVU.R hVU.C (Is.same HI.out HI8.out)).mono ?_
  rintro e w12 ⟨rfl, hb⟩
  replace DX := DX.on hb
  replace DY := DY.on hb
  replace DU := DU.on hb
  replace hFX := hFX.on hb
  replace hFY := hFY.on hb
  replace hFU := hFU.on hb
  replace hVU := hVU.on hb
  replace DVU := DVU.on hb
  replace hF8 := hF8.on hb
  replace bz := bz.trans (hb.mono bz.size)
  clear hb
  clear hS; refine hK.out _ _ ⟨DX, DY, DU, DVU⟩ (fun hS => ?_); clear hK K
  try simp only [Act.put, List.setIfInBounds_toArray, List.set_cons_zero, List.set_cons_succ, List.getElem_toArray, List.getElem_cons_zero, List.getElem_cons_succ]
  refine wpAnyH_take (i := 13) (v := ?v13_23) rfl (by kernel_rfl) (by kernel_rfl) (by kernel_rfl) (fun _ _ _ h => h) (Or.inl ⟨by rfl, ?hy13_23⟩) (by assumption) ?rest13_23
  case hy13_23 => (intro w9 hSw; clear hSw; go_simp; try with_reducible rfl)
  try simp only [Act.put, List.setIfInBounds_toArray, List.set_cons_zero, List.set_cons_succ, List.getElem_toArray, List.getElem_cons_zero, List.getElem_cons_succ]
  refine wpAnyH_take (i := 14) (v := ?v14_24) rfl (by kernel_rfl) (by kernel_rfl) (by kernel_rfl) (fun _ _ _ h => h) (Or.inl ⟨by rfl, ?hy14_24⟩) (by assumption) ?rest14_24
  case hy14_24 => (intro w9 hSw; clear hSw; go_simp; try with_reducible rfl)
  try simp only [Act.put, List.setIfInBounds_toArray, List.set_cons_zero, List.set_cons_succ, List.getElem_toArray, List.getElem_cons_zero, List.getElem_cons_succ]
  refine wpAnyH_ready (rs := [15]) (by kernel_rfl) (by simp) ?_
  refine AllReadyH.cons rfl (fun K hK => ?_) AllReadyH.nil
  go_simp
  with_reducible refine (known_any _).mono ?_
  rintro e w13 ⟨rfl, hb⟩
  replace DX := DX.on hb
  replace DY := DY.on hb
  replace DU := DU.on hb
  replace hFX := hFX.on hb
  replace hFY := hFY.on hb
  replace hFU := hFU.on hb
  replace hVU := hVU.on hb
  replace DVU := DVU.on hb
  replace hF8 := hF8.on hb
  replace bz := bz.trans (hb.mono bz.size)
  clear hb
  clear hS; refine hK.out _ _ ⟨DX, DY, DU, DVU⟩ (fun hS => ?_); clear hK K
  try simp only [Act.put, List.setIfInBounds_toArray, List.set_cons_zero, List.set_cons_succ, List.getElem_toArray, List.getElem_cons_zero, List.getElem_cons_succ]
  refine wpAnyH_take (i := 16) (v := ?v16_25) rfl (by kernel_rfl) (by kernel_rfl) (by kernel_rfl) (fun _ _ _ h => h) (Or.inl ⟨by rfl, ?hy16_25⟩) (by assumption) ?rest16_25
  case hy16_25 => (intro w9 hSw; clear hSw; go_simp; try with_reducible rfl)
  try simp only [Act.put, List.setIfInBounds_toArray, List.set_cons_zero, List.set_cons_succ, List.getElem_toArray, List.getElem_cons_zero, List.getElem_cons_succ]
  refine wpAnyH_take (i := 17) (v := ?v17_26) rfl (by kernel_rfl) (by kernel_rfl) (by kernel_rfl) (fun _ _ _ h => h) (Or.inl ⟨by rfl, ?hy17_26⟩) (by assumption) ?rest17_26
  case hy17_26 => (intro w9 hSw; clear hSw; go_simp; try with_reducible rfl)
  try simp only [Act.put, List.setIfInBounds_toArray, List.set_cons_zero, List.set_cons_succ, List.getElem_toArray, List.getElem_cons_zero, List.getElem_cons_succ]
  refine wpAnyH_done (by kernel_rfl) ?_ _
  go_wp2_with fail
  go_ret
  exact ⟨rfl, bz⟩
theorem KernelsSyr2_law {w : World} {RX CX : Int} {AX : Option Addr} {nX cX : Nat} {LX : List Int} {RY CY : Int} {AY : Option Addr} {nY cY : Nat} {LY : List Int} {RU CU : Int} {AU : Option Addr} {nU cU : Nat} {LU : List Int} {a : Nat} {turned : Bool} (ba : a ≤ 18446744073709551615) (hX : FL w AX nX cX LX) (hY : FL w AY nY cY LY) (hU : FL w AU nU cU LU) : Calls Try.prog 8 #[.float .f64 a, mV RX CX AX nX cX, mV RY CY AY nY cY, mV RU CU AU nU cU, .bool turned] w (Ans w (.bool true)) := by
  cases bU : bigM RU CU nU
  · cases bX : bigM RX CX nX
    · cases bY : bigM RY CY nY
      · cases hf : (vecM RX CX && vecM RY CY && (RU == CU) && !(RU != (nX : Int)) && !(CU != (nY : Int)))
        · exact KernelsSyr2_no ba hX hY hU bU bX bY hf
        · exact KernelsSyr2_yes ba hX hY hU bU bX bY hf
      · exact KernelsSyr2_big3 ba hX hY hU bU bX bY
    · exact KernelsSyr2_big2 ba hX hY hU bU bX
  · exact KernelsSyr2_big1 ba hX hY hU bU
end Go.Proofs.Ytfelmkkkaphkpaa
