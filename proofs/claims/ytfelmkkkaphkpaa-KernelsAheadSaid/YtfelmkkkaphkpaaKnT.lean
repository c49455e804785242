/-
  Layer 8, walks: the reference's Copy, Gemv; words for its matrices made place by place. (Written by wip/tools/gen_knt.py.)
-/
import Derived.Test.YtfelmkkkaphkpaaKnS
namespace Go.Proofs.Ytfelmkkkaphkpaa
open Go.RowKit Go.Bw Go.Sort Go.Shelf
set_option linter.unusedVariables false
set_option linter.unusedSimpArgs false

theorem app_below {w w' : World} {c n : Nat} (hg : w.grownBy w' (Value.slice none n c).ownBlock) : Below w.heap.size w w' := ⟨hg.os, hg.tape, hg.output, hg.size, fun k hk => hg.block k hk (by simp [Value.ownBlock])⟩
theorem set3_grown (W : World) (b : Nat) (x0 x1 x2 : Value) : W.grownBy (((W.setCell ⟨b, 0, none⟩ x0).setCell ⟨b, 1, none⟩ x1).setCell ⟨b, 2, none⟩ x2) (some b) :=
  setb_grown (setb_grown (setb_grown (World.grownBy.refl W _) 0 x0) 1 x1) 2 x2
/-- a copy of a matrix, in new memory -/
def NewC (w : World) (m q n : Nat) (l : List Int) (e : Ending) (w' : World) : Prop := ∃ A2 c2, e = .returned (mV m q A2 n c2) ∧ OwnF w' w.heap.size A2 c2 l ∧ Below w.heap.size w w'
/-- a matrix of new memory, that is f -/
def NewMt (w : World) (m q n : Nat) (f : Nat → Option Nat) (e : Ending) (w' : World) : Prop := ∃ A2 c2 L, e = .returned (mV m q A2 n c2) ∧ Is L n f ∧ OwnF w' w.heap.size A2 c2 L ∧ Below w.heap.size w w'

/-- a loop that writes a matrix of its own, place by place: its boxes, and what is written so far -/
structure Gs (w : World) (B : Nat) (bs : List (Nat × List Value)) (m q : Nat) (A2 : Option Addr) (c2 : Nat) (l L : List Int) (P : Nat → Nat → Bool) (f : Nat → Nat → Option Nat) (wr : World) : Prop where
  mr : Mr L l m q P f
  own : OwnF wr B A2 c2 L
  bx : ∀ b ∈ bs, Blk wr b.1 b.2
  ne : ∀ b ∈ bs, ∀ a, A2 = some a → b.1 ≠ a.block
  bw : Below w.heap.size w wr
  lo : w.heap.size ≤ B
section
variable {w wr wr' : World} {B m q c2 : Nat} {bs : List (Nat × List Value)} {A2 : Option Addr} {l L : List Int} {P Q : Nat → Nat → Bool} {f : Nat → Nat → Option Nat}
theorem Gs.on (h : Gs w B bs m q A2 c2 l L P f wr) (hb : Below wr.heap.size wr wr') : Gs w B bs m q A2 c2 l L P f wr' :=
  ⟨h.mr, h.own.on_ hb, fun b hm => (h.bx b hm).on hb, h.ne, h.bw.trans (hb.mono h.bw.size), h.lo⟩
theorem Gs.congr (h : Gs w B bs m q A2 c2 l L P f wr) (e : ∀ a b, a < m → b < q → P a b = Q a b) : Gs w B bs m q A2 c2 l L Q f wr := ⟨h.mr.congr e, h.own, h.bx, h.ne, h.bw, h.lo⟩
theorem Gs.cell {g : Nat} (h : Gs w B bs m q (some ⟨g, 0, none⟩) c2 l L P f wr) {k : Nat} (hk : k < L.length) : wr.cell? ⟨g, k, none⟩ = some (.float .f64 (D L k).toNat) ∧ wr.frozen? ⟨g, k, none⟩ = false := by
  obtain ⟨g', e, h1, h2⟩ := h.own.at_ hk
  cases e
  exact ⟨h1, h2⟩
theorem fV_nat (r : Nat) : fV (r : Int) = .float .f64 r := by show Value.float .f64 ((r : Int)).toNat = _; rw [Int.toNat_natCast]
theorem Gs.set {g : Nat} (h : Gs w B bs m q (some ⟨g, 0, none⟩) c2 l L P f wr) {i j k : Nat} (hk : i * q + j = k) (hi : i < m) (hj : j < q) {r : Nat} (hr : af r = f i j) (br : r ≤ 18446744073709551615)
    (hQ : ∀ a b, a < m → b < q → Q a b = (P a b || decide (a = i ∧ b = j))) : Gs w B bs m q (some ⟨g, 0, none⟩) c2 l (L.set k (r : Int)) Q f (wr.setCell ⟨g, k, none⟩ (.float .f64 r)) := by
  subst hk
  have hg := OwnF.gt h.own rfl
  refine ⟨h.mr.set hi hj (by omega) (by omega) (by rw [fa_nat]; exact hr) hQ, ?_, fun b hm => (h.bx b hm).far (p := ⟨g, i * q + j, none⟩) (h.ne b hm ⟨g, 0, none⟩ rfl) _, h.ne, h.bw.setCell (p := ⟨g, i * q + j, none⟩) (Nat.le_trans h.lo hg.1) _, h.lo⟩
  have := h.own.set_ (i * q + j) (r : Int)
  rwa [fV_nat] at this
end

section
variable {w : World} {m q i j n c : Nat} {A : Option Addr} {l : List Int}
set_option maxRecDepth 100000 in
set_option maxHeartbeats 4000000 in
theorem rCopy_any (h : FL w A n c l) (hn : n ≤ 262144) : Calls Try.prog 53 #[mV m q A n c] w (NewC w m q n l) := by
  have DB := (Blk.new w [.int .i64 m, .int .i64 q, .slice A n c] 24).alloc (.cells #[.int .i64 0, .int .i64 0, .slice none 0 0] 24)
  have DZ := Blk.new (w.alloc (.cells #[.int .i64 m, .int .i64 q, .slice A n c] 24)) [.int .i64 0, .int .i64 0, .slice none 0 0] 24
  rw [World.size_alloc] at DZ
  have bz := ((Below.refl _ w).alloc (Nat.le_refl _) (.cells #[.int .i64 m, .int .i64 q, .slice A n c] 24)).alloc (by simp) (.cells #[.int .i64 0, .int .i64 0, .slice none 0 0] 24)
  have hF := h.lo.on bz
  have hsz : ((w.alloc (.cells #[.int .i64 m, .int .i64 q, .slice A n c] 24)).alloc (.cells #[.int .i64 0, .int .i64 0, .slice none 0 0] 24)).heap.size = w.heap.size + 2 := by simp
  have hlw := Lib.hid h.1
  clear h
  go_enter Try.func53, Try.ntmps53
  go_wp2_with fail
  generalize (w.alloc (.cells #[.int .i64 m, .int .i64 q, .slice A n c] 24)).alloc (.cells #[.int .i64 0, .int .i64 0, .slice none 0 0] 24) = W at DB DZ bz hF hsz ⊢
  replace DB := DB.drew
  replace DZ := DZ.drew
  replace hF := hF.drew
  replace bz := bz.drew
  have hsz2 : w.heap.size + 2 ≤ W.drew.heap.size := Nat.le_of_eq hsz.symm
  clear hsz
  refine wp_region_held_drew (S := fun w9 : World => Mbx w9 w.heap.size m q A n c) (by kernel_rfl) DB (fun hS => ?_)
  refine wpAnyH_take (i := 0) (v := ?v0_1) rfl (by kernel_rfl) (by kernel_rfl) (by kernel_rfl) (fun _ _ _ h => h) (Or.inl ⟨by rfl, ?hy0_1⟩) (by assumption) ?rest0_1
  case hy0_1 => (intro w9 hSw; clear hSw; go_simp; try with_reducible rfl)
  try simp only [Act.put, List.setIfInBounds_toArray, List.set_cons_zero, List.set_cons_succ, List.getElem_toArray, List.getElem_cons_zero, List.getElem_cons_succ]
  refine wpAnyH_take (i := 1) (v := ?v1_2) rfl (by kernel_rfl) (by kernel_rfl) (by kernel_rfl) (fun _ _ _ h => h) (Or.inl ⟨by rfl, ?hy1_2⟩) (by assumption) ?rest1_2
  case hy1_2 => (intro w9 hSw; replace hSw : Mbx w9 w.heap.size m q A n c := hSw; obtain ⟨c0, c1, c2, f0, f1, f2⟩ := Mbx.cells hSw; go_simp; try with_reducible rfl)
  try simp only [Act.put, List.setIfInBounds_toArray, List.set_cons_zero, List.set_cons_succ, List.getElem_toArray, List.getElem_cons_zero, List.getElem_cons_succ]
  refine wpAnyH_take (i := 2) (v := ?v2_3) rfl (by kernel_rfl) (by kernel_rfl) (by kernel_rfl) (fun _ _ _ h => h) (Or.inl ⟨by rfl, ?hy2_3⟩) (by assumption) ?rest2_3
  case hy2_3 => (intro w9 hSw; clear hSw; go_simp; try with_reducible rfl)
  try simp only [Act.put, List.setIfInBounds_toArray, List.set_cons_zero, List.set_cons_succ, List.getElem_toArray, List.getElem_cons_zero, List.getElem_cons_succ]
  refine wpAnyH_take (i := 3) (v := ?v3_4) rfl (by kernel_rfl) (by kernel_rfl) (by kernel_rfl) (fun _ _ _ h => h) (Or.inl ⟨by rfl, ?hy3_4⟩) (by assumption) ?rest3_4
  case hy3_4 => (intro w9 hSw; replace hSw : Mbx w9 w.heap.size m q A n c := hSw; obtain ⟨c0, c1, c2, f0, f1, f2⟩ := Mbx.cells hSw; go_simp; try with_reducible rfl)
  try simp only [Act.put, List.setIfInBounds_toArray, List.set_cons_zero, List.set_cons_succ, List.getElem_toArray, List.getElem_cons_zero, List.getElem_cons_succ]
  refine wpAnyH_take (i := 4) (v := ?v4_5) rfl (by kernel_rfl) (by kernel_rfl) (by kernel_rfl) (fun _ _ _ h => h) (Or.inl ⟨by rfl, ?hy4_5⟩) (by assumption) ?rest4_5
  case hy4_5 => (intro w9 hSw; clear hSw; go_simp; try with_reducible rfl)
  try simp only [Act.put, List.setIfInBounds_toArray, List.set_cons_zero, List.set_cons_succ, List.getElem_toArray, List.getElem_cons_zero, List.getElem_cons_succ]
  refine wpAnyH_take (i := 5) (v := ?v5_6) rfl (by kernel_rfl) (by kernel_rfl) (by kernel_rfl) (fun _ _ _ h => h) (Or.inl ⟨by rfl, ?hy5_6⟩) (by assumption) ?rest5_6
  case hy5_6 => (intro w9 hSw; replace hSw : Mbx w9 w.heap.size m q A n c := hSw; obtain ⟨c0, c1, c2, f0, f1, f2⟩ := Mbx.cells hSw; go_simp; try with_reducible rfl)
  try simp only [Act.put, List.setIfInBounds_toArray, List.set_cons_zero, List.set_cons_succ, List.getElem_toArray, List.getElem_cons_zero, List.getElem_cons_succ]
  refine wpAnyH_ready (rs := [6]) (by kernel_rfl) (by simp) ?_
  refine AllReadyH.cons rfl (fun K hK => ?_) AllReadyH.nil
  refine step_appF _ rfl _ _ rfl (w.heap.size + 2) none 0 [] rfl (OwnF.nil _ _) _ A c l (by rw [hlw.out]; rfl) hF.fl.2.1 (by rw [hlw.out]; simp; omega) hsz2 ?_
  intro A2 c2 w5 ho hg _
  try simp only [List.nil_append] at ho
  have hb := app_below hg
  have hA : ∀ a, A2 = some a → w.heap.size + 2 ≤ a.block := fun a e => (ho.gt e).1
  have hsz5 := Nat.le_trans hsz2 hb.size
  replace DB := DB.on hb
  replace DZ := DZ.on hb
  replace hF := hF.on hb
  replace bz := bz.trans (hb.mono bz.size)
  clear hg hb hsz2
  have hll : ([] ++ l : List Int).length = n := hlw.out
  rw [hll]
  refine hK.out _ _ DB (fun hH => ?_)
  clear hK K hS
  have hS := hH
  clear hH
  try simp only [Act.put, List.setIfInBounds_toArray, List.set_cons_zero, List.set_cons_succ, List.getElem_toArray, List.getElem_cons_zero, List.getElem_cons_succ]
  refine wpAnyH_take (i := 7) (v := ?v7_7) rfl (by kernel_rfl) (by kernel_rfl) (by kernel_rfl) (fun _ _ _ h => h) (Or.inl ⟨by rfl, ?hy7_7⟩) (by assumption) ?rest7_7
  case hy7_7 => (intro w9 hSw; clear hSw; go_simp; try with_reducible rfl)
  try simp only [Act.put, List.setIfInBounds_toArray, List.set_cons_zero, List.set_cons_succ, List.getElem_toArray, List.getElem_cons_zero, List.getElem_cons_succ]
  obtain ⟨z0, z1, z2, y0, y1, y2⟩ := Mbx.cells DZ
  refine wpAnyH_ready (rs := [8]) (by kernel_rfl) (by simp) ?_
  refine AllReadyH.cons rfl (fun K hK => ?_) AllReadyH.nil
  go_simp
  have hgS := set3_grown w5 (w.heap.size + 1) (.int .i64 m) (.int .i64 q) (.slice A2 n c2)
  replace DZ := Mbx.put DZ m q A2 n c2
  replace DB := DB.grown hgS (by simp)
  replace ho := ho.grown_ hgS (fun a e e2 => by have := hA a e; injection e2 with e3; omega)
  replace bz := bz.grown hgS bz.size (fun k e => by cases e; omega)
  refine hK.out _ _ DB (fun hH => ?_)
  clear hK K hS
  have hS := hH
  clear hH
  try simp only [Act.put, List.setIfInBounds_toArray, List.set_cons_zero, List.set_cons_succ, List.getElem_toArray, List.getElem_cons_zero, List.getElem_cons_succ]
  refine wpAnyH_done (by kernel_rfl) ?_ _
  obtain ⟨z0, z1, z2, y0, y1, y2⟩ := Mbx.cells DZ
  go_wp2_with fail
  refine bodyPost_ret (v := mV m q A2 n c2) (by simp [results, Try.results53, go_sem, *]) rfl ?_
  exact ⟨A2, c2, rfl, ho.less (by omega), bz⟩
set_option maxRecDepth 100000 in
set_option maxHeartbeats 4000000 in
theorem rGemv_any {a b nx cx ny cy : Nat} {Ax Ay : Option Addr} {x y : List Int} (ba : a ≤ 18446744073709551615) (bb : b ≤ 18446744073709551615) (h : FL w A n c l) (hn : n = m * q) (hm : m ≤ 512) (hq : q ≤ 512) (hx : FL w Ax nx cx x) (hy : FL w Ay ny cy y) (hxq : q ≤ nx) (hym : m ≤ ny) :
    Calls Try.prog 35 #[.float .f64 a, mV m q A n c, .slice Ax nx cx, .float .f64 b, .slice Ay ny cy] w (NewF w m (fun k => bothA (af b) (fa (D y k)) (af a) (sumA (fun t => aop .mul (ma l q k t) (fa (D x t))) q))) := by
  obtain ⟨f, hf⟩ : ∃ f : Nat → Option Nat, (fun k => bothA (af b) (fa (D y k)) (af a) (sumA (fun t => aop .mul (ma l q k t) (fa (D x t))) q)) = f := ⟨_, rfl⟩
  have Hf := Lib.hid (show ∀ k, bothA (af b) (fa (D y k)) (af a) (dotA ((l.drop (k * q)).take q) x q) = f k from fun k => by
    rw [← hf]
    show _ = bothA _ _ _ _
    unfold dotA
    rw [sumA_congr (fun t ht => by rw [D_row ht])])
  rw [hf]
  clear hf
  obtain ⟨B, hB⟩ : ∃ B, w.heap.size + 1 = B := ⟨_, rfl⟩
  have HB := Lib.hid hB
  have hmy := hy.max
  have HH := Lib.hid h
  have HX := Lib.hid hx
  have HY := Lib.hid hy
  have HN := Lib.hid hn
  have DB := Blk.new w [.int .i64 m, .int .i64 q, .slice A n c] 24
  have bw := (Below.refl _ w).alloc (Nat.le_refl _) (.cells #[.int .i64 m, .int .i64 q, .slice A n c] 24)
  have hB2 : B ≤ (w.alloc (.cells #[.int .i64 m, .int .i64 q, .slice A n c] 24)).heap.size := by simp; omega
  have hwB : w.heap.size < B := by omega
  have Hq := Lib.hid hq
  obtain ⟨c0, c1, c2, f0, f1, f2⟩ := Mbx.cells DB
  clear h hn hB hq hx hy
  go_enter Try.func35, Try.ntmps35
  go_wp2_with fail
  clear c0 c1 c2 f0 f1 f2
  go_loopw [11, 12] (fun lv i wr => ∃ (k : Nat) (A3 : Option Addr) (c3 : Nat) (L : List Int), k ≤ m ∧ lv = .slice A3 L.length c3 ∧ i = .int .i64 k ∧ Mk wr B A3 c3 L k f ∧ Below w.heap.size w wr ∧ B ≤ wr.heap.size ∧ Mbx wr w.heap.size m q A n c) (fun _ i _ => m - (intOf i).toNat)
  case atStart => exact ⟨0, none, 0, [], Nat.zero_le _, rfl, rfl, Mk.nil _ _ _, bw, hB2, DB⟩
  case round =>
    clear DB bw hB2
    obtain ⟨k, A3, c3, L, hk, rfl, rfl, hM, bz, hBr, DB⟩ := hrel
    by_cases hlt : k < m
    · obtain ⟨ady, hAy, hby, hcy⟩ := (HY.out.on bz).at_ (k := k) (by omega)
      obtain ⟨ady', hAy', hbw, _⟩ := HY.out.at_ (k := k) (by omega)
      rw [hAy] at hAy'
      injection hAy' with e9
      subst e9
      obtain ⟨y0, y1⟩ := HY.out.2.2.at_ k
      have bY : (D y k).toNat ≤ 18446744073709551615 := by omega
      have HKf := Lib.hid (Hf.out k)
      have hK2 : Hid (fa (D y k) = af (D y k).toNat) := Lib.hid rfl
      generalize (D y k).toNat = Y at *
      subst hAy
      have HC := Lib.hid (show ∀ W, Below w.heap.size w W → W.cell? (ady.add k) = some (.float .f64 Y) from fun W hW => (hW.cell (by rw [add_block]; exact hbw)).trans (by rw [← hcy]; exact (bz.cell (by rw [add_block]; exact hbw)).symm))
      have k0 : (0 : Int) ≤ k := by omega
      have k1 : (k : Int) < ny := by omega
      clear hby hcy y0 y1
      obtain ⟨c0, c1, c2, f0, f1, f2⟩ := Mbx.cells DB
      go_wp2_with fail
      clear c0 c1 c2 f0 f1 f2
      replace DB := DB.drew
      replace hM := hM.on (Below.refl _ wr).drew
      replace bz := bz.drew
      replace hBr : B ≤ wr.drew.heap.size := hBr
      refine wp_region_held_drew (S := fun w9 : World => Mbx w9 w.heap.size m q A n c ∧ Below w.heap.size w w9) (by kernel_rfl) ⟨DB, bz⟩ (fun hS => ?_)
      generalize wr.drew = wd at hS hM DB hBr bz ⊢
      refine wpAnyH_take (i := 0) (v := ?v0_8) rfl (by kernel_rfl) (by kernel_rfl) (by kernel_rfl) (fun _ _ _ h => h) (Or.inl ⟨by rfl, ?hy0_8⟩) (by assumption) ?rest0_8
      case hy0_8 => (intro w9 hSw; clear hSw; go_simp; try with_reducible rfl)
      try simp only [Act.put, List.setIfInBounds_toArray, List.set_cons_zero, List.set_cons_succ, List.getElem_toArray, List.getElem_cons_zero, List.getElem_cons_succ]
      refine wpAnyH_take (i := 1) (v := ?v1_9) rfl (by kernel_rfl) (by kernel_rfl) (by kernel_rfl) (fun _ _ _ h => h) (Or.inl ⟨by rfl, ?hy1_9⟩) (by assumption) ?rest1_9
      case hy1_9 => (intro w9 hSw; clear hSw; go_simp; try with_reducible rfl)
      try simp only [Act.put, List.setIfInBounds_toArray, List.set_cons_zero, List.set_cons_succ, List.getElem_toArray, List.getElem_cons_zero, List.getElem_cons_succ]
      refine wpAnyH_take (i := 2) (v := ?v2_10) rfl (by kernel_rfl) (by kernel_rfl) (by kernel_rfl) (fun _ _ _ h => h) (Or.inl ⟨by rfl, ?hy2_10⟩) (by assumption) ?rest2_10
      case hy2_10 => (intro w9 hSw; clear hSw; go_simp; try with_reducible rfl)
      try simp only [Act.put, List.setIfInBounds_toArray, List.set_cons_zero, List.set_cons_succ, List.getElem_toArray, List.getElem_cons_zero, List.getElem_cons_succ]
      refine wpAnyH_take (i := 3) (v := ?v3_11) rfl (by kernel_rfl) (by kernel_rfl) (by kernel_rfl) (fun _ _ _ h => h) (Or.inl ⟨by rfl, ?hy3_11⟩) (by assumption) ?rest3_11
      case hy3_11 => (intro w9 hSw; clear hSw; go_simp; try with_reducible rfl)
      try simp only [Act.put, List.setIfInBounds_toArray, List.set_cons_zero, List.set_cons_succ, List.getElem_toArray, List.getElem_cons_zero, List.getElem_cons_succ]
      refine wpAnyH_take (i := 4) (v := ?v4_12) rfl (by kernel_rfl) (by kernel_rfl) (by kernel_rfl) (fun _ _ _ h => h) (Or.inl ⟨by rfl, ?hy4_12⟩) (by assumption) ?rest4_12
      case hy4_12 => (intro w9 hSw; clear hSw; go_simp; try with_reducible rfl)
      try simp only [Act.put, List.setIfInBounds_toArray, List.set_cons_zero, List.set_cons_succ, List.getElem_toArray, List.getElem_cons_zero, List.getElem_cons_succ]
      refine wpAnyH_take (i := 5) (v := ?v5_13) rfl (by kernel_rfl) (by kernel_rfl) (by kernel_rfl) (fun _ _ _ h => h) (Or.inl ⟨by rfl, ?hy5_13⟩) (by assumption) ?rest5_13
      case hy5_13 => (intro w9 hSw; obtain ⟨m1, m2⟩ := hSw; have hc9 := HC.out _ m2; obtain ⟨c0, c1, c2, f0, f1, f2⟩ := Mbx.cells m1; go_simp; try with_reducible rfl)
      try simp only [Act.put, List.setIfInBounds_toArray, List.set_cons_zero, List.set_cons_succ, List.getElem_toArray, List.getElem_cons_zero, List.getElem_cons_succ]
      refine wpAnyH_take (i := 6) (v := ?v6_14) rfl (by kernel_rfl) (by kernel_rfl) (by kernel_rfl) (fun _ _ _ h => h) (Or.inl ⟨by rfl, ?hy6_14⟩) (by assumption) ?rest6_14
      case hy6_14 => (intro w9 hSw; clear hSw; go_simp; try with_reducible rfl)
      try simp only [Act.put, List.setIfInBounds_toArray, List.set_cons_zero, List.set_cons_succ, List.getElem_toArray, List.getElem_cons_zero, List.getElem_cons_succ]
      refine wpAnyH_take (i := 7) (v := ?v7_15) rfl (by kernel_rfl) (by kernel_rfl) (by kernel_rfl) (fun _ _ _ h => h) (Or.inl ⟨by rfl, ?hy7_15⟩) (by assumption) ?rest7_15
      case hy7_15 => (intro w9 hSw; obtain ⟨m1, m2⟩ := hSw; have hc9 := HC.out _ m2; obtain ⟨c0, c1, c2, f0, f1, f2⟩ := Mbx.cells m1; go_simp; try with_reducible rfl)
      try simp only [Act.put, List.setIfInBounds_toArray, List.set_cons_zero, List.set_cons_succ, List.getElem_toArray, List.getElem_cons_zero, List.getElem_cons_succ]
      refine wpAnyH_take (i := 8) (v := ?v8_16) rfl (by kernel_rfl) (by kernel_rfl) (by kernel_rfl) (fun _ _ _ h => h) (Or.inl ⟨by rfl, ?hy8_16⟩) (by assumption) ?rest8_16
      case hy8_16 => (intro w9 hSw; clear hSw; go_simp; try with_reducible rfl)
      try simp only [Act.put, List.setIfInBounds_toArray, List.set_cons_zero, List.set_cons_succ, List.getElem_toArray, List.getElem_cons_zero, List.getElem_cons_succ]
      refine wpAnyH_take (i := 10) (v := ?v10_17) rfl (by kernel_rfl) (by kernel_rfl) (by kernel_rfl) (fun _ _ _ h => h) (Or.inl ⟨by rfl, ?hy10_17⟩) (by assumption) ?rest10_17
      case hy10_17 => (intro w9 hSw; clear hSw; go_simp; try with_reducible rfl)
      try simp only [Act.put, List.setIfInBounds_toArray, List.set_cons_zero, List.set_cons_succ, List.getElem_toArray, List.getElem_cons_zero, List.getElem_cons_succ]
      refine wpAnyH_ready (rs := [9]) (by kernel_rfl) (by simp) ?_
      refine AllReadyH.cons rfl (fun K hK => ?_) AllReadyH.nil
      go_simp
      with_reducible refine (rRow_any (HH.out.on bz) HN.out hm Hq.out hlt).mono ?_
      rintro e w1 ⟨A5, c5, rfl, hR, hb⟩
      replace hM := hM.on hb
      replace DB := DB.on hb
      replace bz := bz.trans (hb.mono bz.size)
      replace hBr := Nat.le_trans hBr hb.size
      clear hb
      refine hK.out _ _ ⟨DB, bz⟩ (fun hH => ?_)
      clear hK K hS
      have hS := hH
      clear hH
      try simp only [Act.put, List.setIfInBounds_toArray, List.set_cons_zero, List.set_cons_succ, List.getElem_toArray, List.getElem_cons_zero, List.getElem_cons_succ]
      refine wpAnyH_ready (rs := [11]) (by kernel_rfl) (by simp) ?_
      refine AllReadyH.cons rfl (fun K hK => ?_) AllReadyH.nil
      go_simp
      with_reducible refine (rDot_any hR (HX.out.on bz) hxq).mono ?_
      rintro e w2 ⟨r1, rfl, h1, b1, d1⟩
      replace hM := hM.on d1.below
      replace DB := DB.on d1.below
      replace hR := hR.on d1.below
      replace bz := bz.trans (d1.below.mono bz.size)
      replace hBr := Nat.le_trans hBr d1.below.size
      have H1 := Lib.hid h1
      clear h1 d1 hR
      refine hK.out _ _ ⟨DB, bz⟩ (fun hH => ?_)
      clear hK K hS
      have hS := hH
      clear hH
      try simp only [Act.put, List.setIfInBounds_toArray, List.set_cons_zero, List.set_cons_succ, List.getElem_toArray, List.getElem_cons_zero, List.getElem_cons_succ]
      refine wpAnyH_ready (rs := [12]) (by kernel_rfl) (by simp) ?_
      refine AllReadyH.cons rfl (fun K hK => ?_) AllReadyH.nil
      go_simp
      with_reducible refine (rBoth_any bb bY ba b1 _).mono ?_
      rintro e w3 ⟨r2, rfl, h2, b2, d2⟩
      replace hM := hM.on d2.below
      replace DB := DB.on d2.below
      replace bz := bz.trans (d2.below.mono bz.size)
      replace hBr := Nat.le_trans hBr d2.below.size
      have HR : Hid (af r2 = f k) := Lib.hid (by rw [h2, H1.out, ← hK2.out, HKf.out])
      clear h2 d2 H1
      refine hK.out _ _ ⟨DB, bz⟩ (fun hH => ?_)
      clear hK K hS
      have hS := hH
      clear hH
      try simp only [Act.put, List.setIfInBounds_toArray, List.set_cons_zero, List.set_cons_succ, List.getElem_toArray, List.getElem_cons_zero, List.getElem_cons_succ]
      refine wpAnyH_ready (rs := [13]) (by kernel_rfl) (by simp) ?_
      refine AllReadyH.cons rfl (fun K hK => ?_) AllReadyH.nil
      go_simp
      have hsrc := one_src w3 r2
      replace DB := DB.alloc (.cells #[.float .f64 r2] 32)
      replace hM := hM.on ((Below.refl _ _).alloc (Nat.le_refl _) (.cells #[.float .f64 r2] 32))
      replace bz := bz.alloc bz.size (.cells #[.float .f64 r2] 32)
      replace hBr : B ≤ (w3.alloc (.cells #[.float .f64 r2] 32)).heap.size := by simp; omega
      refine hK.out _ _ ⟨DB, bz⟩ (fun hH => ?_)
      clear hK K hS
      have hS := hH
      clear hH
      try simp only [Act.put, List.setIfInBounds_toArray, List.set_cons_zero, List.set_cons_succ, List.getElem_toArray, List.getElem_cons_zero, List.getElem_cons_succ]
      refine wpAnyH_ready (rs := [14]) (by kernel_rfl) (by simp) ?_
      refine AllReadyH.cons rfl (fun K hK => ?_) AllReadyH.nil
      refine step_appF _ rfl _ _ rfl B A3 c3 L rfl hM.own _ _ _ _ rfl hsrc (by have := hM.len; simp; omega) hBr ?_
      intro A2 c2 w9 ho9 hg9 _
      have bw9 : Below w.heap.size w w9 := below_appF bz (hM.own.less (by omega)) hg9 bz.size
      replace DB := DB.grown hg9 (fun e => by have := (World.ownsRow.lt hM.own _ e.symm).1; omega)
      have hM9 := hM.put HR.out b2 ho9
      have hB9 := Nat.le_trans hBr hg9.size
      clear hM bz hBr hg9 ho9 hsrc HR
      have bz := bw9
      refine hK.out _ _ ⟨DB, bz⟩ (fun hH => ?_)
      clear hK K hS
      have hS := hH
      clear hH
      try simp only [Act.put, List.setIfInBounds_toArray, List.set_cons_zero, List.set_cons_succ, List.getElem_toArray, List.getElem_cons_zero, List.getElem_cons_succ]
      refine wpAnyH_take (i := 15) (v := ?v15_18) rfl (by kernel_rfl) (by kernel_rfl) (by kernel_rfl) (fun _ _ _ h => h) (Or.inl ⟨by rfl, ?hy15_18⟩) (by assumption) ?rest15_18
      case hy15_18 => (intro w9 hSw; clear hSw; go_simp; try with_reducible rfl)
      try simp only [Act.put, List.setIfInBounds_toArray, List.set_cons_zero, List.set_cons_succ, List.getElem_toArray, List.getElem_cons_zero, List.getElem_cons_succ]
      refine wpAnyH_done (by kernel_rfl) ?_ _
      go_wp2_with fail
      go_roundw
      case rel => exact ⟨k + 1, A2, c2, L ++ [(r2 : Int)], by omega, by simp, by go_num, hM9, bz, hB9, DB⟩
      case measure => simp [intOf]; omega
    · obtain rfl : k = m := by omega
      have hL := Lib.hid hM.len
      obtain ⟨c0, c1, c2, f0, f1, f2⟩ := Mbx.cells DB
      go_wp2_with fail
      go_ret
      exact ⟨A3, c3, L, by rw [hL.out]; rfl, hM.is, hM.own.less (by have := HB.out; omega), bz⟩
end
end Go.Proofs.Ytfelmkkkaphkpaa
