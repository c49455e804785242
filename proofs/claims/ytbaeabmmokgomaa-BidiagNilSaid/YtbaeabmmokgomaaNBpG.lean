/-
  Layer 11, walks: reflections gathered, by the program. (Written by wip/tools/gen_bpg.py.)
-/
import Derived.Test.YtbaeabmmokgomaaNP1
import Derived.Test.YtbaeabmmokgomaaNP2
import Derived.Test.YtbaeabmmokgomaaNB1
import Derived.Test.YtbaeabmmokgomaaNT1
import Derived.Test.YtbaeabmmokgomaaMJVxS
namespace Go.Proofs.Ytbaeabmmokgomaa
open Go.RowKit Go.Bw
set_option linter.unusedVariables false
set_option linter.unusedSimpArgs false
attribute [local go_sem] run_store_float
/-- what the reflections from k on come to, the first one of which begins at s -/
structure TqG (M q s K k : Nat) (hs : List Re) (Qs : Nat → List Int) : Prop where
  top : Is (Qs K) (M * q) (oneF q q)
  step : ∀ (j : Nat) (e : Re), k ≤ j → hs[j]? = some e → Is (Qs j) (M * q) (lT (Qs (j + 1)) e.l q (s + j) (M - (s + j)) (s + j) (af e.t))
theorem TqG.start {M q s K : Nat} {hs : List Re} {L : List Int} (h : Is L (M * q) (oneF q q)) (hl : hs.length = K) : TqG M q s K K hs (fun _ => L) :=
  ⟨h, fun j e hj he => by rw [List.getElem?_eq_none (by omega)] at he; cases he⟩
theorem TqG.next {M q s K j : Nat} {hs : List Re} {Qs : Nat → List Int} {L : List Int} {e : Re} (h : TqG M q s K (j + 1) hs Qs) (hj : j < K) (he : hs[j]? = some e) (hL : Is L (M * q) (lT (Qs (j + 1)) e.l q (s + j) (M - (s + j)) (s + j) (af e.t))) : TqG M q s K j hs (fun i => if i = j then L else Qs i) := by
  refine ⟨?_, fun i d hi hd => ?_⟩
  · show Is (if K = j then L else Qs K) _ _
    rw [if_neg (by omega)]
    exact h.top
  · show Is (if i = j then L else Qs i) _ (lT (if i + 1 = j then L else Qs (i + 1)) d.l q (s + i) (M - (s + i)) (s + i) (af d.t))
    rw [if_neg (show ¬ i + 1 = j by omega)]
    by_cases c : i = j
    · subst c
      rw [if_pos rfl]
      obtain rfl : e = d := Option.some.inj (he.symm.trans hd)
      exact hL
    · rw [if_neg c]
      exact h.step i d (by omega) hd
theorem TqG.is {M q s K k : Nat} {hs : List Re} {Qs : Nat → List Int} (h : TqG M q s K k hs Qs) (hk : k ≤ K) (hl : hs.length = K) : Is (Qs k) (M * q) (fun i => fa (D (Qs k) i)) := by
  rcases Nat.lt_or_ge k K with c | c
  · have := h.step k hs[k] (Nat.le_refl _) (List.getElem?_eq_getElem (by omega))
    exact ⟨this.len, this.wd, fun _ _ => rfl⟩
  · obtain rfl : k = K := by omega
    exact ⟨h.top.len, h.top.wd, fun _ _ => rfl⟩
theorem TqG.q {m n : Nat} {hs : List Re} {Qs : Nat → List Int} (h : TqG m n 0 n 0 hs Qs) : TqL m n 0 hs Qs :=
  ⟨h.top, fun j e hj he => by have h9 := h.step j e hj he; rw [Nat.zero_add] at h9; exact h9⟩
theorem TqG.p {n K : Nat} {hs : List Re} {Qs : Nat → List Int} (h : TqG n n 1 K 0 hs Qs) : Tq n K 0 hs Qs :=
  ⟨h.top, fun j e hj he => by have h9 := h.step j e hj he; rw [Nat.add_comm 1 j, show n - (j + 1) = n - 1 - j by omega] at h9; unfold lT at h9; unfold qF; rw [show n - 1 - j = n - (j + 1) by omega] at h9 ⊢; exact h9⟩
theorem eye_is {s M q N : Nat} (hq : q ≤ 512) (hqM : q ≤ M) (hN : N = M * q) : Is ((Vu.all s M q).diag.fillL q (List.replicate N 0) 4607182418800017408) N (oneF q q) := by
  have hR : ((Vu.all s (M : Int) q).diag.R * (Vu.all s (M : Int) q).diag.C).toNat = q := by
    show (min (M : Int) q * 1).toNat = q
    omega
  have hix : ∀ a : Nat, (Vu.all s (M : Int) q).diag.ix q ((Vu.all s (M : Int) q).diag.ei a) ((Vu.all s (M : Int) q).diag.ej a) = ((a * q + a : Nat) : Int) := fun a => by
    have e2 : (Vu.all s (M : Int) q).diag.ei a = a := by unfold Vu.ei Vu.diag; simp
    have e3 : (Vu.all s (M : Int) q).diag.ej a = 0 := by unfold Vu.ej Vu.diag; simp [Nat.mod_one]
    rw [e2, e3, D_ix, all_ix]
    push_cast
    rfl
  unfold Vu.fillL
  rw [hR]
  have hlen : (setTo (Vu.all s (M : Int) q).diag q (fun _ => 4607182418800017408) (List.replicate N 0) q).length = N := by rw [setTo_len, List.length_replicate]
  have hD : ∀ p, p < N → D (setTo (Vu.all s (M : Int) q).diag q (fun _ => 4607182418800017408) (List.replicate N 0) q) p = if p / q = p % q ∧ p % q < q then 4607182418800017408 else 0 := fun p hp => by
    obtain ⟨k1, k2⟩ := setTo_D (Vu.all s (M : Int) q).diag q 4607182418800017408 (List.replicate N 0) q p (by rw [List.length_replicate]; exact hp) (fun a _ => ⟨_, hix a⟩)
    have hq0 : 0 < q := by
      rcases Nat.eq_zero_or_pos q with h0 | h0
      · subst h0; rw [Nat.mul_zero] at hN; omega
      · exact h0
    by_cases c : p / q = p % q ∧ p % q < q
    · rw [if_pos c]
      refine k1 ⟨p % q, c.2, ?_⟩
      rw [hix]
      have h9 := Nat.div_add_mod p q
      rw [c.1, Nat.mul_comm] at h9
      exact_mod_cast h9
    · rw [if_neg c, k2 (fun a ha e => ?_)]
      · exact D_zeros N p
      · rw [hix] at e
        have e9 : a * q + a = p := by exact_mod_cast e
        obtain ⟨h1, h2⟩ := ix_div (i := a) ha
        rw [e9] at h1 h2
        exact c ⟨by rw [h1, h2], by rw [h2]; exact ha⟩
  refine ⟨hlen, fun x hx => ?_, fun p hp => ?_⟩
  · obtain ⟨p, hp, rfl⟩ := List.mem_iff_getElem.1 hx
    rw [hlen] at hp
    have h9 := hD p hp
    rw [D_in (by rw [hlen]; exact hp)] at h9
    rw [h9]
    split <;> omega
  · rw [hD p hp]
    unfold oneF
    by_cases c : p / q = p % q ∧ p % q < q
    · rw [if_pos c, if_pos c]; exact fa_one
    · rw [if_neg c, if_neg c]; exact fa_zero
/-- what the closure answers -/
def GdP (w : World) (bm M q N p m : Nat) (L : List Int) (e : Re) (r : Ending) (w' : World) : Prop :=
  ∃ (g3 c3 : Nat) (L3 : List Int), r = .returned (.int .i64 0) ∧ Mbx w' bm M q (some ⟨g3, 0, none⟩) N c3 ∧ OwnF w' w.heap.size (some ⟨g3, 0, none⟩) c3 L3 ∧ Is L3 N (lT L e.l q p m p (af e.t)) ∧ w.grownBy w' (some bm)
set_option maxRecDepth 100000 in
set_option maxHeartbeats 16000000 in
theorem gat1_any {w0 w : World} {bm bf bl M q N c s k K kc m : Nat} {A LA : Option Addr} {L : List Int} {hs : List Re} {e : Re} (h : FL w A N c L) (hN : N = M * q) (hM : M ≤ 512) (hq : q ≤ 512) (DM : Mbx w bm M q A N c) (DF : Blk w bf [.int .i64 s]) (DL : Blk w bl [.slice LA K kc]) (hb0 : Below w0.heap.size w0 w) (hL : Rl w0 LA K kc hs) (hbm : w0.heap.size ≤ bm) (hfm : bf ≠ bm) (hlm : bl ≠ bm) (he : hs[k]? = some e)
    (hm : e.l.length = m) (hm0 : 0 < m) (hpm : s + k + m = M) (hpq : s + k ≤ q) (hs5 : s ≤ 512) :
    Calls Try.prog 75 #[.int .i64 k, .pointer (some ⟨bm, 0, none⟩), .pointer (some ⟨bf, 0, none⟩), .pointer (some ⟨bl, 0, none⟩)] w (GdP w bm M q N (s + k) m L e) := by
  obtain ⟨e9, ad, ea, he9, rfl, hE, hl9, hc0, hc1, hv, bt⟩ := hL.at_ (k := k) (by rw [← hL.1]; exact (List.getElem?_eq_some_iff.1 he).1)
  have hkK : k < K := by rw [← hL.1]; exact (List.getElem?_eq_some_iff.1 he).1
  obtain rfl : e = e9 := Option.some.inj (he.symm.trans he9)
  have hea : ea.block < w0.heap.size := hl9
  replace hc0 := cell_on hc0 hb0
  replace hc1 := cell_on hc1 hb0
  replace hv := hv.on hb0
  have hKm := hL.2.1
  rw [hm] at hc0 hv
  have k0 : (0 : Int) ≤ k := by omega
  have k1 : (k : Int) < K := by omega
  obtain ⟨p, hp⟩ : ∃ p, s + k = p := ⟨_, rfl⟩
  rw [hp] at hpm hpq ⊢
  have ep : (s : Int) + (k : Int) = (p : Int) := by omega
  have wp : IntKind.i64.wrap (p : Int) = (p : Int) := IntWalk.i64_in _ (by omega)
  have bz := Below.refl w.heap.size w
  have hsz := Lib.hid (Blk.lt DM)
  have HN := Lib.hid hN
  clear hL he he9 hm hp hN
  go_enter Try.func75, Try.ntmps75
  go_upto_region 1 with fail
  replace h := h.drew
  replace DM := DM.drew
  replace DF := DF.drew
  replace DL := DL.drew
  replace bz := bz.drew
  replace hc0 : w.drew.cell? ea = some (.slice e.A m e.c) := hc0
  replace hc1 : w.drew.cell? ⟨ea.block, ea.off + 1, none⟩ = some (.float .f64 e.t) := hc1
  replace hv : FL w.drew e.A m e.c e.l := hv
  refine wp_region_held_drew (S := fun w9 : World => Blk w9 bf [.int .i64 s] ∧ Blk w9 bl [.slice (some ad) K kc] ∧ w9.cell? ea = some (.slice e.A m e.c) ∧ w9.cell? ⟨ea.block, ea.off + 1, none⟩ = some (.float .f64 e.t)) (by kernel_rfl) ⟨DF, DL, hc0, hc1⟩ (fun hS => ?_)
  have hwd : Hid (w.heap.size ≤ w.drew.heap.size) := Lib.hid (Nat.le_refl _)
  generalize w.drew = wd at hwd hS h DM DF DL hv hc0 hc1 bz ⊢
  refine wpAnyH_take (i := 1) (v := ?v1_1) rfl (by kernel_rfl) (by kernel_rfl) (by kernel_rfl) (fun _ _ _ h => h) (Or.inl ⟨by rfl, ?hy1_1⟩) (by assumption) ?rest1_1
  case hy1_1 => (intro w9 hSw; obtain ⟨ma2, ma3, ma4, ma5⟩ := hSw; have y6 := Blk.cell ma2 0 rfl; have y7 := Blk.cell ma3 0 rfl; go_simp; try with_reducible rfl)
  try simp only [Act.put, List.setIfInBounds_toArray, List.set_cons_zero, List.set_cons_succ, List.getElem_toArray, List.getElem_cons_zero, List.getElem_cons_succ]
  refine wpAnyH_take (i := 2) (v := ?v2_2) rfl (by kernel_rfl) (by kernel_rfl) (by kernel_rfl) (fun _ _ _ h => h) (Or.inl ⟨by rfl, ?hy2_2⟩) (by assumption) ?rest2_2
  case hy2_2 => (intro w9 hSw; clear hSw; go_simp; try with_reducible rfl)
  try simp only [Act.put, List.setIfInBounds_toArray, List.set_cons_zero, List.set_cons_succ, List.getElem_toArray, List.getElem_cons_zero, List.getElem_cons_succ]
  refine wpAnyH_take (i := 3) (v := ?v3_3) rfl (by kernel_rfl) (by kernel_rfl) (by kernel_rfl) (fun _ _ _ h => h) (Or.inl ⟨by rfl, ?hy3_3⟩) (by assumption) ?rest3_3
  case hy3_3 => (intro w9 hSw; clear hSw; go_simp; try with_reducible rfl)
  try simp only [Act.put, List.setIfInBounds_toArray, List.set_cons_zero, List.set_cons_succ, List.getElem_toArray, List.getElem_cons_zero, List.getElem_cons_succ]
  refine wpAnyH_take (i := 4) (v := ?v4_4) rfl (by kernel_rfl) (by kernel_rfl) (by kernel_rfl) (fun _ _ _ h => h) (Or.inl ⟨by rfl, ?hy4_4⟩) (by assumption) ?rest4_4
  case hy4_4 => (intro w9 hSw; obtain ⟨ma2, ma3, ma4, ma5⟩ := hSw; have y6 := Blk.cell ma2 0 rfl; have y7 := Blk.cell ma3 0 rfl; go_simp; try with_reducible rfl)
  try simp only [Act.put, List.setIfInBounds_toArray, List.set_cons_zero, List.set_cons_succ, List.getElem_toArray, List.getElem_cons_zero, List.getElem_cons_succ]
  refine wpAnyH_take (i := 5) (v := ?v5_5) rfl (by kernel_rfl) (by kernel_rfl) (by kernel_rfl) (fun _ _ _ h => h) (Or.inl ⟨by rfl, ?hy5_5⟩) (by assumption) ?rest5_5
  case hy5_5 => (intro w9 hSw; clear hSw; go_simp; try with_reducible rfl)
  try simp only [Act.put, List.setIfInBounds_toArray, List.set_cons_zero, List.set_cons_succ, List.getElem_toArray, List.getElem_cons_zero, List.getElem_cons_succ]
  refine wpAnyH_take (i := 6) (v := ?v6_6) rfl (by kernel_rfl) (by kernel_rfl) (by kernel_rfl) (fun _ _ _ h => h) (Or.inl ⟨by rfl, ?hy6_6⟩) (by assumption) ?rest6_6
  case hy6_6 => (intro w9 hSw; clear hSw; go_simp; try with_reducible rfl)
  try simp only [Act.put, List.setIfInBounds_toArray, List.set_cons_zero, List.set_cons_succ, List.getElem_toArray, List.getElem_cons_zero, List.getElem_cons_succ]
  refine wpAnyH_take (i := 7) (v := ?v7_7) rfl (by kernel_rfl) (by kernel_rfl) (by kernel_rfl) (fun _ _ _ h => h) (Or.inl ⟨by rfl, ?hy7_7⟩) (by assumption) ?rest7_7
  case hy7_7 => (intro w9 hSw; obtain ⟨ma2, ma3, ma4, ma5⟩ := hSw; have y6 := Blk.cell ma2 0 rfl; have y7 := Blk.cell ma3 0 rfl; go_simp; try with_reducible rfl)
  try simp only [Act.put, List.setIfInBounds_toArray, List.set_cons_zero, List.set_cons_succ, List.getElem_toArray, List.getElem_cons_zero, List.getElem_cons_succ]
  refine wpAnyH_take (i := 8) (v := ?v8_8) rfl (by kernel_rfl) (by kernel_rfl) (by kernel_rfl) (fun _ _ _ h => h) (Or.inl ⟨by rfl, ?hy8_8⟩) (by assumption) ?rest8_8
  case hy8_8 => (intro w9 hSw; clear hSw; go_simp; try with_reducible rfl)
  try simp only [Act.put, List.setIfInBounds_toArray, List.set_cons_zero, List.set_cons_succ, List.getElem_toArray, List.getElem_cons_zero, List.getElem_cons_succ]
  refine wpAnyH_take (i := 9) (v := ?v9_9) rfl (by kernel_rfl) (by kernel_rfl) (by kernel_rfl) (fun _ _ _ h => h) (Or.inl ⟨by rfl, ?hy9_9⟩) (by assumption) ?rest9_9
  case hy9_9 => (intro w9 hSw; clear hSw; go_simp; try with_reducible rfl)
  try simp only [Act.put, List.setIfInBounds_toArray, List.set_cons_zero, List.set_cons_succ, List.getElem_toArray, List.getElem_cons_zero, List.getElem_cons_succ]
  refine wpAnyH_take (i := 10) (v := ?v10_10) rfl (by kernel_rfl) (by kernel_rfl) (by kernel_rfl) (fun _ _ _ h => h) (Or.inl ⟨by rfl, ?hy10_10⟩) (by assumption) ?rest10_10
  case hy10_10 => (intro w9 hSw; obtain ⟨ma2, ma3, ma4, ma5⟩ := hSw; have y6 := Blk.cell ma2 0 rfl; have y7 := Blk.cell ma3 0 rfl; go_simp; try with_reducible rfl)
  try simp only [Act.put, List.setIfInBounds_toArray, List.set_cons_zero, List.set_cons_succ, List.getElem_toArray, List.getElem_cons_zero, List.getElem_cons_succ]
  obtain ⟨t0, t1, t2, t3, t4, t5⟩ := Mbx.cells DM
  refine wpAnyH_ready (rs := [0]) (by kernel_rfl) (by simp) ?_
  refine AllReadyH.cons rfl (fun K hK => ?_) AllReadyH.nil
  go_simp
  clear t0 t1 t2 t3 t4 t5
  clear hS; refine hK.out _ _ ⟨DF, DL, hc0, hc1⟩ (fun hS => ?_); clear hK K
  try simp only [Act.put, List.setIfInBounds_toArray, List.set_cons_zero, List.set_cons_succ, List.getElem_toArray, List.getElem_cons_zero, List.getElem_cons_succ]
  refine wpAnyH_ready (rs := [11]) (by kernel_rfl) (by simp) ?_
  refine AllReadyH.cons rfl (fun K hK => ?_) AllReadyH.nil
  go_simp
  have PL := Lib.hid (gLeft_yes (M := M) (q := q) (p := p) (f := p) h hv bt hM hq HN.out hm0 (by omega) hpq (fun a e9 => by obtain ⟨x, e2, hx, _⟩ := hv.at_ hm0; rw [e2] at e9; injection e9 with e9; rw [← e9]; exact hx))
  with_reducible refine (PL.out).mono ?_
  rintro e w1 ⟨g3, c3, L3, rfl, hO3, hI3, hb⟩
  replace h := h.on hb
  replace DM := DM.on hb
  replace DF := DF.on hb
  replace DL := DL.on hb
  replace hv := hv.on hb
  replace bz := bz.trans (hb.mono bz.size)
  replace hc0 := cell_on hc0 hb
  replace hc1 := cell_on hc1 hb
  have hs3 := Lib.hid hb.size
  clear PL hb h hv
  clear hS; refine hK.out _ _ ⟨DF, DL, hc0, hc1⟩ (fun hS => ?_); clear hK K
  try simp only [Act.put, List.setIfInBounds_toArray, List.set_cons_zero, List.set_cons_succ, List.getElem_toArray, List.getElem_cons_zero, List.getElem_cons_succ]
  refine wpAnyH_take (i := 12) (v := ?v12_11) rfl (by kernel_rfl) (by kernel_rfl) (by kernel_rfl) (fun _ _ _ h => h) (Or.inl ⟨by rfl, ?hy12_11⟩) (by assumption) ?rest12_11
  case hy12_11 => (intro w9 hSw; clear hSw; go_simp; try with_reducible rfl)
  try simp only [Act.put, List.setIfInBounds_toArray, List.set_cons_zero, List.set_cons_succ, List.getElem_toArray, List.getElem_cons_zero, List.getElem_cons_succ]
  refine wpAnyH_take (i := 13) (v := ?v13_12) rfl (by kernel_rfl) (by kernel_rfl) (by kernel_rfl) (fun _ _ _ h => h) (Or.inl ⟨by rfl, ?hy13_12⟩) (by assumption) ?rest13_12
  case hy13_12 => (intro w9 hSw; clear hSw; go_simp; try with_reducible rfl)
  try simp only [Act.put, List.setIfInBounds_toArray, List.set_cons_zero, List.set_cons_succ, List.getElem_toArray, List.getElem_cons_zero, List.getElem_cons_succ]
  refine wpAnyH_take (i := 14) (v := ?v14_13) rfl (by kernel_rfl) (by kernel_rfl) (by kernel_rfl) (fun _ _ _ h => h) (Or.inl ⟨by rfl, ?hy14_13⟩) (by assumption) ?rest14_13
  case hy14_13 => (intro w9 hSw; clear hSw; go_simp; try with_reducible rfl)
  try simp only [Act.put, List.setIfInBounds_toArray, List.set_cons_zero, List.set_cons_succ, List.getElem_toArray, List.getElem_cons_zero, List.getElem_cons_succ]
  obtain ⟨t0, t1, t2, t3, t4, t5⟩ := Mbx.cells DM
  refine wpAnyH_ready (rs := [15]) (by kernel_rfl) (by simp) ?_
  refine AllReadyH.cons rfl (fun K hK => ?_) AllReadyH.nil
  go_simp
  clear t0 t1 t2 t3 t4 t5
  have hgs : w1.grownBy (((w1.setCell ⟨bm, 0, none⟩ (.int .i64 M)).setCell ⟨bm, 1, none⟩ (.int .i64 q)).setCell ⟨bm, 2, none⟩ (.slice (some ⟨g3, 0, none⟩) N c3)) (some bm) := grown_setCell (grown_setCell (grown_setCell (World.grownBy.refl w1 _) 0 _) 1 _) 2 _
  have DM2 := Mbx.put DM M q (some ⟨g3, 0, none⟩) N c3
  have hgt := hO3.gt rfl
  have hO4 := hO3.grown_ hgs (fun a e9 => by injection e9 with e9; subst e9; have h9 : wd.heap.size ≤ g3 := hgt.1; have := hsz.out; have h8 := hwd.out; simp; omega)
  have hg2 := grown_setCell (grown_setCell (grown_setCell (grown_below bz (some bm)) 0 (.int .i64 (M : Int))) 1 (.int .i64 (q : Int))) 2 (.slice (some ⟨g3, 0, none⟩) N c3)
  replace DF := Blk.grown DF hgs (by simp; omega)
  replace DL := Blk.grown DL hgs (by simp; omega)
  replace hc0 := (World.grownBy.cell_far hgs _ (World.block_lt_of_cell? _ _ hc0) (by simp; omega)).trans hc0
  replace hc1 := (World.grownBy.cell_far hgs _ (World.block_lt_of_cell? _ _ hc1) (by simp; omega)).trans hc1
  clear DM hO3 hgs bz
  clear hS; refine hK.out _ _ ⟨DF, DL, hc0, hc1⟩ (fun hS => ?_); clear hK K
  try simp only [Act.put, List.setIfInBounds_toArray, List.set_cons_zero, List.set_cons_succ, List.getElem_toArray, List.getElem_cons_zero, List.getElem_cons_succ]
  refine wpAnyH_take (i := 16) (v := ?v16_14) rfl (by kernel_rfl) (by kernel_rfl) (by kernel_rfl) (fun _ _ _ h => h) (Or.inl ⟨by rfl, ?hy16_14⟩) (by assumption) ?rest16_14
  case hy16_14 => (intro w9 hSw; clear hSw; go_simp; try with_reducible rfl)
  try simp only [Act.put, List.setIfInBounds_toArray, List.set_cons_zero, List.set_cons_succ, List.getElem_toArray, List.getElem_cons_zero, List.getElem_cons_succ]
  refine wpAnyH_done (by kernel_rfl) ?_ _
  go_wp2_with fail
  go_ret
  exact ⟨g3, c3, L3, rfl, DM2, hO4.less hwd.out, hI3, hg2⟩
/-- a gathered matrix -/
def GtP (w0 : World) (M q s N K : Nat) (hs : List Re) (r : Ending) (w' : World) : Prop := ∃ A2 c2 L Qs, r = .returned (.tuple #[mV M q A2 N c2, .int .i64 0]) ∧ FL w' A2 N c2 L ∧ TqG M q s K 0 hs Qs ∧ Qs 0 = L ∧ Below w0.heap.size w0 w' ∧ ∀ x, A2 = some x → w0.heap.size ≤ x.block
set_option maxRecDepth 100000 in
set_option maxHeartbeats 16000000 in
theorem gath_any {w0 w : World} {v0 g cap M q N s K kc : Nat} {LA : Option Addr} {hs : List Re} (hb0 : Below w0.heap.size w0 w) (hS : St w w0.heap.size v0 g cap q (List.replicate N 0)) (hN : N = M * q) (hM : M ≤ 512) (hqM : q ≤ M) (hL : Rl w0 LA K kc hs) (hs1 : s ≤ 1) (hK : s + K ≤ q ∨ K = 0) (hlen : ∀ (j : Nat) (e : Re), hs[j]? = some e → e.l.length = M - (s + j)) :
    Calls Try.prog 46 #[(Vu.all v0 M q).V, .int .i64 s, .slice LA K kc] w (GtP w0 M q s N K hs) := by
  have hKm := hL.2.1
  have hq : q ≤ 512 := by omega
  have hlK := Lib.hid hL.1
  have HLN := Lib.hid hlen
  have n4 : N ≤ 262144 := by rw [hN]; exact Nat.le_trans (Nat.mul_le_mul hM hq) (by decide)
  have HN := Lib.hid hN
  have HEY := Lib.hid (eye_is (s := v0) hq hqM hN)
  have HKQ := Lib.hid hK
  have hb4 := (((((Below.refl _ w).alloc (Nat.le_refl _) (.cells (Vu.all v0 M q).L.toArray 57)).alloc (by simp) (.cells #[.int .i64 s] 3)).alloc (by simp; omega) (.cells #[.slice LA K kc] 29)).alloc (by simp; omega) (.cells #[.int .i64 0, .int .i64 0, .slice none 0 0] 24))
  have DV := (((Blk.new w (Vu.all v0 M q).L 57).alloc (.cells #[.int .i64 s] 3)).alloc (.cells #[.slice LA K kc] 29)).alloc (.cells #[.int .i64 0, .int .i64 0, .slice none 0 0] 24)
  have DF := ((Blk.new (w.alloc (.cells (Vu.all v0 M q).L.toArray 57)) [.int .i64 s] 3).alloc (.cells #[.slice LA K kc] 29)).alloc (.cells #[.int .i64 0, .int .i64 0, .slice none 0 0] 24)
  have DL := (Blk.new ((w.alloc (.cells (Vu.all v0 M q).L.toArray 57)).alloc (.cells #[.int .i64 s] 3)) [.slice LA K kc] 29).alloc (.cells #[.int .i64 0, .int .i64 0, .slice none 0 0] 24)
  have DZ := Blk.new (((w.alloc (.cells (Vu.all v0 M q).L.toArray 57)).alloc (.cells #[.int .i64 s] 3)).alloc (.cells #[.slice LA K kc] 29)) [.int .i64 0, .int .i64 0, .slice none 0 0] 24
  simp only [World.size_alloc] at DF DL DZ
  have hs4 := Lib.hid (show ((((w.alloc (.cells (Vu.all v0 M q).L.toArray 57)).alloc (.cells #[.int .i64 s] 3)).alloc (.cells #[.slice LA K kc] 29)).alloc (.cells #[.int .i64 0, .int .i64 0, .slice none 0 0] 24)).heap.size = w.heap.size + 1 + 1 + 1 + 1 by simp)
  have lv0 := Lib.hid (Blk.lt hS.box)
  have lvg : Hid (g < w.heap.size) := Lib.hid (hS.own.gt rfl).2
  have hgb : Hid (w0.heap.size ≤ g) := Lib.hid (hS.own.gt rfl).1
  replace hS := hS.on9 hb4
  have bz := hb0.trans (hb4.mono hb0.size)
  have HL := Lib.hid hL
  have hw0 := Lib.hid hb0.size
  clear hN hlen hL hb0 hb4 hK
  go_enter Try.func46, Try.ntmps46
  go_upto_region 1 with fail
  generalize (((w.alloc (.cells (Vu.all v0 M q).L.toArray 57)).alloc (.cells #[.int .i64 s] 3)).alloc (.cells #[.slice LA K kc] 29)).alloc (.cells #[.int .i64 0, .int .i64 0, .slice none 0 0] 24) = W1 at DV DF DL DZ hs4 hS bz ⊢
  obtain ⟨U, hU⟩ : ∃ U, Vu.all v0 M q = U := ⟨_, rfl⟩
  have pdg := fun W => Diag_any (all_vkN hM hq HN.out (s := v0)).bd W
  have hvd : Vk (Vu.all v0 M q).diag v0 q N 2 := diag_vk (all_vkN hM hq HN.out (s := v0)) (by decide)
  have pdg : ∀ W, Calls Try.prog 72 #[U.V] W (Ans W (Vu.all v0 M q).diag.V) := fun W => by rw [← hU]; exact pdg W
  obtain ⟨U2, hU2⟩ : ∃ U, (Vu.all v0 M q).diag = U := ⟨_, rfl⟩
  rw [hU2] at pdg hvd
  have hp2 : U2.p ≠ none := by rw [← hU2]; intro e9; cases e9
  have pfl : ∀ W, St W w0.heap.size v0 g cap q (List.replicate N 0) → Calls Try.prog 73 #[U2.V, .float .f64 4607182418800017408] W (Wrote W w0.heap.size v0 g cap q 0 (U2.fillL q (List.replicate N 0) 4607182418800017408)) := fun W h9 => Fill_yes hvd h9 (by simp) hp2 (x := 4607182418800017408) (by decide) (by decide)
  have hE9 : Hid (Is (U2.fillL q (List.replicate N 0) 4607182418800017408) N (oneF q q)) := Lib.hid (by rw [← hU2]; exact HEY.out)
  obtain ⟨E9, hE⟩ : ∃ E, U2.fillL q (List.replicate N 0) 4607182418800017408 = E := ⟨_, rfl⟩
  rw [hE] at pfl hE9
  rw [hU] at DV
  have pmt : ∀ W, St W w0.heap.size v0 g cap q E9 → Calls Try.prog 74 #[U.V] W (MatS W M q E9) := fun W h9 => by
    have e9 := all_fl v0 (R := (M : Int)) (C := (q : Int)) (by omega) (by omega) (by omega) (by omega) (l := E9) (by rw [hE9.out.len, HN.out]; push_cast; rfl)
    rw [Int.toNat_natCast] at e9
    have p9 := Matrix_yes (all_vkN hM hq HN.out (s := v0)) h9 hE9.out.len (by intro e; cases e)
    rw [e9, hU] at p9
    rw [← hU] at p9 ⊢
    exact p9
  clear hU hE hU2 hvd hp2 HEY
  obtain ⟨v0_, v1, v2, v3, v4, v5, v6, v7, v8⟩ := Vbx.cells DV
  go_wp2_with fail
  with_reducible refine (pdg _).mono ?_
  rintro e9 w2 ⟨rfl, hb⟩
  clear v0_ v1 v2 v3 v4 v5 v6 v7 v8 pdg
  replace DV := DV.on hb
  replace DF := DF.on hb
  replace DL := DL.on hb
  replace DZ := DZ.on hb
  replace hS := hS.on9 hb
  replace bz := bz.trans (hb.mono bz.size)
  have hs2 := Lib.hid hb.size
  clear hb
  go_wp2_with fail
  with_reducible refine (pfl _ hS).mono ?_
  rintro e9 w3 ⟨rfl, hS3, hg3⟩
  clear pfl hS
  have ngl := fun (b : Nat) (h9 : w.heap.size ≤ b) => (show some b ≠ some g by intro e9; injection e9 with e9; have := lvg.out; omega)
  have DV3 := Blk.grown DV hg3 (ngl _ (by omega))
  have DF3 := Blk.grown DF hg3 (ngl _ (by omega))
  have DL3 := Blk.grown DL hg3 (ngl _ (by omega))
  have DZ3 := Blk.grown DZ hg3 (ngl _ (by omega))
  have bz3 := bz.grown hg3 bz.size (fun b e => by injection e with e; have := hgb.out; omega)
  have hs3 := Lib.hid hg3.size
  clear DV DF DL DZ bz hg3 ngl
  obtain ⟨v0_, v1, v2, v3, v4, v5, v6, v7, v8⟩ := Vbx.cells DV3
  go_wp2_with fail
  with_reducible refine (pmt _ hS3).mono ?_
  rintro e9 w4 ⟨gm, cm, rfl, hO, hb⟩
  rw [hE9.out.len]
  clear v0_ v1 v2 v3 v4 v5 v6 v7 v8 pmt hS3 DV3
  have hlm := hO.gt rfl
  have hs5 := Lib.hid (show w.heap.size + 1 + 1 + 1 + 1 ≤ w4.heap.size by have := hs4.out; have := hs2.out; have := hs3.out; have := hb.size; omega)
  have hgm : Hid (w.heap.size + 1 + 1 + 1 + 1 ≤ gm ∧ gm < w4.heap.size) := Lib.hid ⟨by have h9 : w3.heap.size ≤ gm := hlm.1; have := hs4.out; have := hs2.out; have := hs3.out; omega, hlm.2⟩
  have hbA := (Below.refl _ w4).alloc (Nat.le_refl _) (.cells #[.int .i64 M, .int .i64 q, .slice (some ⟨gm, 0, none⟩) N cm] 24)
  replace DF3 := (DF3.on hb).on hbA
  replace DL3 := (DL3.on hb).on hbA
  replace DZ3 := (DZ3.on hb).on hbA
  replace hO := (hO.on_ hbA).less (B' := w0.heap.size) (by have := bz3.size; omega)
  replace bz3 := (bz3.trans (hb.mono bz3.size)).trans (hbA.mono (Nat.le_trans bz3.size hb.size))
  have DM := Blk.new w4 [.int .i64 M, .int .i64 q, .slice (some ⟨gm, 0, none⟩) N cm] 24
  obtain ⟨bm, hbm⟩ : ∃ b, w4.heap.size = b := ⟨_, rfl⟩
  rw [hbm] at DM hs5 hgm
  clear hb hbA hlm hs2 hs3 hs4
  go_upto_region 4 with fail
  try simp only [hbm] at ⊢
  clear hbm
  generalize w4.alloc (.cells #[.int .i64 M, .int .i64 q, .slice (some ⟨gm, 0, none⟩) N cm] 24) = W5 at DM DF3 DL3 DZ3 hO bz3 ⊢
  have yl := Blk.cell DL3 0 rfl
  go_wp2_with fail
  clear yl
  have hT := TqG.start (s := s) (by rw [← HN.out]; exact hE9.out) hlK.out
  have hA0 : Hid (∀ x, (some ⟨gm, 0, none⟩ : Option Addr) = some x → x.block ≠ bm ∧ x.block ≠ (w.heap.size + 1 + 1 + 1)) := Lib.hid (fun x e9 => by injection e9 with e9; subst e9; have := hgm.out; show gm ≠ bm ∧ gm ≠ (w.heap.size + 1 + 1 + 1); omega)
  go_loopw [21, 10, 11, 12] (fun v21 v10 v11 v12 wr => ∃ (d : Nat) (Qs : Nat → List Int) (A2 : Option Addr) (c2 : Nat), d ≤ K ∧ v21 = .int .i64 d ∧ TqG M q s K (K - d) hs Qs ∧ OwnF wr w0.heap.size A2 c2 (Qs (K - d)) ∧ Hid (∀ x, A2 = some x → x.block ≠ bm ∧ x.block ≠ (w.heap.size + 1 + 1 + 1)) ∧ Mbx wr bm M q A2 N c2 ∧ Blk wr (w.heap.size + 1) [.int .i64 s] ∧ Blk wr (w.heap.size + 1 + 1) [.slice LA K kc] ∧ Mbx wr (w.heap.size + 1 + 1 + 1) 0 0 none 0 0 ∧ Below w0.heap.size w0 wr) (fun i _ _ _ _ => K - (intOf i).toNat)
  case atStart => exact ⟨0, _, some ⟨gm, 0, none⟩, cm, Nat.zero_le _, rfl, hT, hO, hA0, DM, DF3, DL3, DZ3, bz3⟩
  case round =>
    clear hT hO hA0 DM DF3 DL3 DZ3 bz3
    obtain ⟨d, Qs, A2, c2, hd, rfl, hT, hO, hA2, DM, DF, DL, DZ, bz⟩ := hrel
    have d0 : (0 : Int) ≤ d := by omega
    by_cases hlt : d < K
    · as_aux_lemma =>
        have d1 : (d : Int) < K := by omega
        obtain ⟨j, hj⟩ : ∃ j, K - d = j + 1 := ⟨K - d - 1, by omega⟩
        rw [hj] at hT hO
        obtain ⟨x1, hx1⟩ : ∃ x, K - d = x := ⟨_, rfl⟩
        have e1 : (K : Int) - (d : Int) = (x1 : Int) := by omega
        have w1 : IntKind.i64.wrap (x1 : Int) = (x1 : Int) := IntWalk.i64_in _ (by omega)
        have ej : (x1 : Int) - 1 = (j : Int) := by omega
        have wj : IntKind.i64.wrap (j : Int) = (j : Int) := IntWalk.i64_in _ (by omega)
        have HJ := Lib.hid hj
        have hjK : j < K := by omega
        have hsq : s + K ≤ q := by have := HKQ.out; omega
        clear hj hx1
        have hje : hs[j]? = some (hs[j]'(by rw [hlK.out]; exact hjK)) := List.getElem?_eq_getElem _
        obtain ⟨e, hee⟩ : ∃ e, hs[j]'(by rw [hlK.out]; exact hjK) = e := ⟨_, rfl⟩
        rw [hee] at hje
        have hm := HLN.out j e hje
        have HE := Lib.hid hje
        have FQ : FL wr A2 N c2 (Qs (j + 1)) := by have h9 := hO.fl (hT.is (by omega) hlK.out).wd; rw [(hT.is (by omega) hlK.out).len, ← HN.out] at h9; exact h9
        have pg := Lib.hid (gat1_any (s := s) (k := j) (m := M - (s + j)) FQ HN.out hM hq DM DF DL bz HL.out (by have := hs5.out; have := hw0.out; omega) (by have := hs5.out; omega) (by have := hs5.out; omega) hje hm (by omega) (by omega) (by omega) (by omega))
        have yl := Blk.cell DL 0 rfl
        clear hje hee hm FQ hO
        go_wp2_with fail
        with_reducible refine pg.out.mono ?_
        rintro e9 w6 ⟨g3, c3, L3, rfl, DM6, hO6, hI6, hg6⟩
        clear pg yl
        have lbm := Blk.lt DM
        have DF6 := Blk.grown DF hg6 (by have := hs5.out; simp; omega)
        have DL6 := Blk.grown DL hg6 (by have := hs5.out; simp; omega)
        have DZ6 := Blk.grown DZ hg6 (by have := hs5.out; simp; omega)
        have bz6 := bz.grown hg6 bz.size (fun b e9 => by injection e9 with e9; have := hs5.out; have := hw0.out; omega)
        have hA6 : Hid (∀ x, (some ⟨g3, 0, none⟩ : Option Addr) = some x → x.block ≠ bm ∧ x.block ≠ (w.heap.size + 1 + 1 + 1)) := Lib.hid (fun x e9 => by injection e9 with e9; subst e9; have h9 : wr.heap.size ≤ g3 := (hO6.gt rfl).1; have h8 := Blk.lt DZ; show g3 ≠ bm ∧ g3 ≠ (w.heap.size + 1 + 1 + 1); omega)
        have hT2 := TqG.next hT hjK HE.out (by rw [← HN.out]; exact hI6)
        have HT2 := Lib.hid hT2
        have eKd : K - (d + 1) = j := by have := HJ.out; omega
        have EKD := Lib.hid eKd
        have hO7 := hO6.less (B' := w0.heap.size) bz.size
        clear hT2 eKd hI6 hT DM DF DL DZ bz hg6 hO6
        go_wp2_with fail
        go_roundw
        case rel => exact ⟨d + 1, _, some ⟨g3, 0, none⟩, c3, by omega, by go_num, (by rw [EKD.out]; exact HT2.out), (by rw [EKD.out]; show OwnF _ _ _ _ (if j = j then L3 else Qs j); rw [if_pos rfl]; exact hO7), hA6, DM6, DF6, DL6, DZ6, bz6⟩
        case measure => simp [intOf]; omega
    · as_aux_lemma =>
        have hdK : d = K := by omega
        have d1 : ¬ (d : Int) < K := by omega
        have e0 : K - d = 0 := by omega
        rw [e0] at hT hO
        clear hdK e0
        obtain ⟨q0, q1, q2, q3, q4, q5⟩ := Mbx.cells DM
        obtain ⟨z0, z1, z2, z3, z4, z5⟩ := Mbx.cells DZ
        have FQ : FL wr A2 N c2 (Qs 0) := by have h9 := hO.fl (hT.is (by omega) hlK.out).wd; rw [(hT.is (by omega) hlK.out).len, ← HN.out] at h9; exact h9
        go_wp2_with fail
        obtain ⟨x0, x1, x2, _, _, _⟩ := Mbx.cells (Mbx.put DZ M q A2 N c2)
        have hgs : wr.grownBy (((wr.setCell ⟨(w.heap.size + 1 + 1 + 1), 0, none⟩ (.int .i64 M)).setCell ⟨(w.heap.size + 1 + 1 + 1), 1, none⟩ (.int .i64 q)).setCell ⟨(w.heap.size + 1 + 1 + 1), 2, none⟩ (.slice A2 N c2)) (some (w.heap.size + 1 + 1 + 1)) := grown_setCell (grown_setCell (grown_setCell (World.grownBy.refl wr _) 0 _) 1 _) 2 _
        refine bodyPost_ret (v := .tuple #[mV M q A2 N c2, .int .i64 0]) (by simp [results, Try.results46, go_sem, x0, x1, x2]) rfl ?_
        exact ⟨A2, c2, Qs 0, Qs, rfl, fl_far9 FQ hgs (fun x e9 => by have := (hA2.out x e9).2; simp; omega), hT, rfl, bz.grown hgs bz.size (fun b e9 => by injection e9 with e9; have := hw0.out; omega), fun x e9 => (hO.gt e9).1⟩
end Go.Proofs.Ytbaeabmmokgomaa
