/-
  Layer 11, walks: the bidiagonal form, by the program. (Written by wip/tools/gen_bpd.py.)
-/
import Derived.Test.YtbaeabmmokgomaaNBpC
import Derived.Test.YtbaeabmmokgomaaMJRgT
import Derived.Test.YtbaeabmmokgomaaMJVxS
namespace Go.Proofs.Ytbaeabmmokgomaa
open Go.RowKit Go.Bw
set_option linter.unusedVariables false
set_option linter.unusedSimpArgs false
attribute [local go_sem] run_store_float
theorem fl_lt {w : World} {g n c : Nat} {l : List Int} (h : FL w (some ⟨g, 0, none⟩) n c l) (hn : 0 < n) : g < w.heap.size := by
  obtain ⟨ad, e, hb⟩ := h.2.1.some_ (by rw [h.1]; exact hn)
  injection e with e
  subst e
  exact hb
theorem Gr.row {w W W' : World} {own : Nat → Nat} {t i b : Nat} {l : List Int} (h : Gr w own t W W') (hB : RowF W b l) (hi : own b = i) (hn : i ≠ t) : RowF W' b l := by
  obtain ⟨row, h, hr⟩ := h
  exact RowF.grown hB h (fun q => hn (by rw [← hi, (hr b q.symm).1]))
theorem tgU_at (own : Nat → Nat) (n i : Nat) : tgU own n i n = i := by unfold tgU; rw [if_neg (Nat.lt_irrefl _)]
theorem step_appR (w : World) {ops : Array Oper} {o : Oper} {a : Act} {K : Act → World → Prop} {Q : Exit → Act → World → Prop} {E : Prop} (hgd : o.guard = none) (s x : Operand)
    (ho : o.op = .call { callee := .builtin .append, args := #[s, x], argTypes := #[29, 29] })
    (base : Nat) (A : Option Addr) (c : Nat) (es : List Re) (n : Nat) (hn : es.length = n) (hs : a.eval s = .slice A n c) (hown : OwnR w base A c es) (ad : Addr) (c' : Nat) (e : Re) (hx : a.eval x = .slice (some ad) 1 c')
    (h0 : w.cell? ad = some (.slice e.A e.l.length e.c)) (h1 : w.cell? (ad.add 1) = some (.float .f64 e.t)) (hlen : n ≤ 1000) (hbase : base ≤ w.heap.size)
    (h : ∀ A2 c2 w', OwnR w' base A2 c2 (es ++ [e]) → w.grownBy w' (Value.slice A n c).ownBlock → ((Value.slice A2 (n + 1) c2).ownBlock = (Value.slice A n c).ownBlock ∨ (Value.slice A2 (n + 1) c2).ownBlock = some w.heap.size) → K (a.put o.dst (.slice A2 (n + 1) c2)) w') :
    if Region.wanted o (yielded ops a.tmps) = true then Oper.wp Try.prog o a w K Q else E := by
  have hw : Region.wanted o (yielded ops a.tmps) = true := by simp [Region.wanted, hgd]
  rw [if_pos hw]
  subst hn
  obtain ⟨A2, c2, w', hrun, k2, k3, k4⟩ := run_appR w base o.type A c es hown ad c' e h0 h1 hlen hbase
  unfold Oper.wp execOp
  simp only [ho, resolve, invoke, builtin, Sem.run_bind, Sem.run_pure, Result.andThen_ok, List.map_toArray, List.map_cons, List.map_nil, hs, hx, hrun]
  exact h A2 c2 w' k2 k3 k4
/-- the answer of the program's Reduce -/
def BdG (w : World) (m n : Nat) (a : List Int) (r : Ending) (w' : World) : Prop :=
  ∃ Ls Ms Ad cd d Ae ce e Ah ch hs Ag cg gs, r = .returned (.tuple #[tV Ad d.length cd Ae e.length ce, .slice Ah hs.length ch, .slice Ag gs.length cg, .int .i64 0]) ∧ FL w' Ad d.length cd d ∧ FL w' Ae e.length ce e ∧ Rl w' Ah hs.length ch hs ∧ Rl w' Ag gs.length cg gs ∧ BdK m n n Ls Ms d e hs gs ∧ Ls 0 = a ∧ Below w.heap.size w w'
theorem wd_push9 {d : List Int} (h : Wd d) {x : Int} (xb : 0 ≤ x ∧ x ≤ 18446744073709551615) : Wd (d ++ [x]) := fun y hy => by
  rcases List.mem_append.1 hy with q | q
  · exact h y q
  · rw [List.mem_singleton.1 q]; exact xb
theorem wd_app9 {d x : List Int} (h : Wd d) (hx : Wd x) : Wd (d ++ x) := fun y hy => (List.mem_append.1 hy).elim (h y) (hx y)
theorem bdX_is {L X : List Int} {m n k : Nat} (h : Is X (m - k) (fun i => fa (D L ((k + i) * n + k)))) : SameF X (bdX L m n k) :=
  SameF.of (by rw [h.len, bdX_len]) (fun i hi => by rw [h.len] at hi; rw [bdX_at L m n k hi]; exact h.at_ i hi)
theorem bdY_is {L X : List Int} {n k f : Nat} (hf : k + 1 = f) (h : Is X (n - f) (fun j => fa (D L (k * n + (f + j))))) : SameF X (bdY L n k) := by
  subst hf
  have e : n - (k + 1) = n - 1 - k := by omega
  rw [e] at h
  exact SameF.of (by rw [h.len, bdY_len]) (fun i hi => by rw [h.len] at hi; rw [bdY_at L n k hi]; exact h.at_ i hi)
set_option maxRecDepth 100000 in
set_option maxHeartbeats 32000000 in
theorem gReduce_yes {A0 : Option Addr} {m n N c0 : Nat} {l : List Int} {w : World} (h : FL w A0 N c0 l) (hN : N = m * n) (hm : m ≤ 512) (hnm : n ≤ m) (hfin : l.all fin = true) (hab : ∀ x, A0 = some x → x.block < w.heap.size) :
    Calls Try.prog 9 #[mV m n A0 N c0] w (BdG w m n l) := by
  have hn : n ≤ 512 := by omega
  have n4 : N ≤ 262144 := by rw [hN]; exact Nat.le_trans (Nat.mul_le_mul hm hn) (by decide)
  have hll := Lib.hid h.1
  have HWD := Lib.hid h.2.2
  have hask : askC (m : Int) (n : Int) N l = 0 := by
    have e9 : mayB (m : Int) (n : Int) N = true := decide_eq_true ⟨by omega, by omega, by omega, by omega, by rw [hN]; push_cast; rfl⟩
    unfold askC
    rw [if_neg (by rw [e9]; decide), if_neg (by omega), if_neg (by rw [hfin]; decide)]
  have HN := Lib.hid hN
  have bz := ((Below.refl _ w).alloc (Nat.le_refl _) (.cells #[.int .i64 m, .int .i64 n, .slice A0 N c0] 24)).alloc (by simp) (.cells #[.slice none 0 0, .slice none 0 0] 28)
  have DM := (Blk.new w [.int .i64 m, .int .i64 n, .slice A0 N c0] 24).alloc (.cells #[.slice none 0 0, .slice none 0 0] 28)
  have DZ := Blk.new (w.alloc (.cells #[.int .i64 m, .int .i64 n, .slice A0 N c0] 24)) [.slice none 0 0, .slice none 0 0] 28
  rw [World.size_alloc] at DZ
  replace h := h.on bz
  have hs1 : ((w.alloc (.cells #[.int .i64 m, .int .i64 n, .slice A0 N c0] 24)).alloc (.cells #[.slice none 0 0, .slice none 0 0] 28)).heap.size = w.heap.size + 1 + 1 := by simp
  have HS1 := Lib.hid hs1
  clear hN hs1 hfin
  go_enter Try.func9, Try.ntmps9
  go_upto_region 1 with fail
  generalize (w.alloc (.cells #[.int .i64 m, .int .i64 n, .slice A0 N c0] 24)).alloc (.cells #[.slice none 0 0, .slice none 0 0] 28) = W1 at DM DZ bz HS1 h ⊢
  obtain ⟨y0, y1, y2, y3, y4, y5⟩ := Mbx.cells DM
  have pc := taken_yes (R := (m : Int)) (C := (n : Int)) h hask
  go_wp2_with fail
  with_reducible refine pc.mono ?_
  rintro e9 w2 ⟨s0, g0, cap0, rfl, hS, hb⟩
  rw [Int.toNat_natCast] at hS
  clear pc y0 y1 y2 y3 y4 y5 hask
  have hbA := (Below.refl _ w2).alloc (Nat.le_refl _) (.cells (Vu.all s0 m n).L.toArray 57)
  have hs2 := hb.size
  replace DM := (DM.on hb).on hbA
  replace DZ := (DZ.on hb).on hbA
  replace h := (h.on hb).on hbA
  replace bz := (bz.trans (hb.mono bz.size)).trans (hbA.mono (Nat.le_trans bz.size hb.size))
  have DV := Blk.new w2 (Vu.all s0 m n).L 57
  have hSb := hS
  replace hS := hS.on9 hbA
  have hsl : W1.heap.size ≤ s0 := hS.lo
  have hgl : W1.heap.size ≤ g0 ∧ g0 < w2.heap.size + 1 := by have h9 : W1.heap.size ≤ g0 ∧ g0 < (w2.alloc (.cells (Vu.all s0 m n).L.toArray 57)).heap.size := hS.own.gt rfl; rw [World.size_alloc] at h9; exact h9
  have hsu : s0 < w2.heap.size + 1 := by have h9 := Blk.lt hS.box; rw [World.size_alloc] at h9; exact h9
  have hsg : s0 ≠ w2.heap.size ∧ g0 ≠ w2.heap.size := by
    have h9 := Blk.lt hSb.box
    have h8 : W1.heap.size ≤ g0 ∧ g0 < w2.heap.size := hSb.own.gt rfl
    omega
  have hs3 := World.size_alloc w2 (.cells (Vu.all s0 m n).L.toArray 57)
  obtain ⟨bs, hbs⟩ : ∃ x, w2.heap.size = x := ⟨_, rfl⟩
  rw [hbs] at DV hs2 hgl hsu hsg hs3
  clear hb hbA hSb
  go_upto_region 2 with fail
  try simp only [hbs] at ⊢
  clear hbs
  generalize w2.alloc (.cells (Vu.all s0 m n).L.toArray 57) = W3 at DM DZ DV bz hS h hs3 ⊢
  have HS3 := Lib.hid hs3
  clear hs3
  go_upto_region 5 with fail
  obtain ⟨bb, hbb⟩ : ∃ x, W3.heap.size = x := ⟨_, rfl⟩
  have DB := Blk.new W3 [.slice none 0 0, .slice none 0 0] 28
  have hbA := (Below.refl _ W3).alloc (Nat.le_refl _) (.cells #[.slice none 0 0, .slice none 0 0] 28)
  replace DM := DM.on hbA
  replace DZ := DZ.on hbA
  replace DV := DV.on hbA
  replace h := h.on hbA
  replace hS := hS.on9 hbA
  replace bz := bz.trans (hbA.mono bz.size)
  rw [hbb] at DB
  have hbb2 := Lib.hid (hbb.symm.trans HS3.out)
  have hs4 := Lib.hid ((World.size_alloc W3 (.cells #[.slice none 0 0, .slice none 0 0] 28)).trans (by rw [hbb]))
  clear hbA
  go_upto_region 7 with fail
  try simp only [hbb] at ⊢
  clear hbb
  generalize W3.alloc (.cells #[.slice none 0 0, .slice none 0 0] 28) = W4 at DM DZ DV DB bz hS h hs4 ⊢
  have hown : ∃ own : Nat → Nat, (own w.heap.size = 9 ∧ own (w.heap.size + 1) = 10 ∧ own bb = 11 ∧ own bs = 12) ∧ ∀ b, b ≠ w.heap.size → b ≠ w.heap.size + 1 → b ≠ bb → b ≠ bs → own b = 0 := by
    have q1 := hbb2.out
    have q2 := HS1.out
    refine ⟨fun b => if b = w.heap.size then 9 else if b = w.heap.size + 1 then 10 else if b = bb then 11 else if b = bs then 12 else 0, ⟨if_pos rfl, ?_, ?_, ?_⟩, fun b h1 h2 h3 h4 => ?_⟩
    · show (if w.heap.size + 1 = w.heap.size then 9 else if w.heap.size + 1 = w.heap.size + 1 then 10 else _) = 10
      rw [if_neg (by omega), if_pos rfl]
    · show (if bb = w.heap.size then 9 else if bb = w.heap.size + 1 then 10 else if bb = bb then 11 else _) = 11
      rw [if_neg (by omega), if_neg (by omega), if_pos rfl]
    · show (if bs = w.heap.size then 9 else if bs = w.heap.size + 1 then 10 else if bs = bb then 11 else if bs = bs then 12 else 0) = 12
      rw [if_neg (by omega), if_neg (by omega), if_neg (by omega), if_pos rfl]
    · show (if b = w.heap.size then 9 else if b = w.heap.size + 1 then 10 else if b = bb then 11 else if b = bs then 12 else 0) = 0
      rw [if_neg h1, if_neg h2, if_neg h3, if_neg h4]
  obtain ⟨own, hbx, how⟩ := hown
  have S0 : PS 99 w W4 m n N w.heap.size (w.heap.size + 1) bb bs s0 g0 cap0 own A0 c0 l (.slice none 0 0) (.slice none 0 0) none none none none 0 0 0 0 [] [] [] [] := by
    have q1 := hbb2.out
    have q2 := HS1.out
    have q3 := hs4.out
    exact ⟨fun _ => h, fun x q => by have := hab x q; omega, fun x q => how _ (by have := hab x q; omega) (by have := hab x q; omega) (by have := hab x q; omega) (by have := hab x q; omega), fun _ => DM, fun _ => DZ, fun _ => DB, fun _ => DV, hbx.1, hbx.2.1, hbx.2.2.1, hbx.2.2.2,
      fun _ => hS.lower (by omega), ⟨how _ (by omega) (by omega) (by omega) hsg.1, how _ (by omega) (by omega) (by omega) hsg.2⟩, fun _ => OwnF.nil _ _, fun _ => OwnF.nil _ _, fun _ => OwnR.nil _ _, fun _ => OwnR.nil _ _, Tg.none _ _, Tg.none _ _, Tg.none _ _, Tg.none _ _,
      (fun _ r h => by cases h), (fun r h => by cases h), (fun _ r h => by cases h), (fun r h => by cases h), ⟨by omega, by omega, by omega, by omega, by omega, by omega⟩, ⟨by omega, by omega, by omega, by omega⟩, (fun x q => by cases q), (fun x q => by cases q), (fun x q => by cases q), (fun x q => by cases q), bz⟩
  have K0 := BdK.start (m := m) (n := n) (by rw [hll.out]; exact HN.out) HWD.out
  clear DM DZ DV DB h hS hbx how hsl hgl hsu hsg hbb2 hs4 HS1 HS3 hab hs2
  refine wp_region_held_drew (S := fun w9 : World => Mbx w9 w.heap.size m n A0 N c0) (by kernel_rfl) (S0.xa (by decide)) (fun hS => ?_)
  generalize W4 = W5 at hS S0  bz ⊢
  refine wpAnyH_take (i := 0) (v := ?v0_1) rfl (by kernel_rfl) (by kernel_rfl) (by kernel_rfl) (fun _ _ _ h => h) (Or.inl ⟨by rfl, ?hy0_1⟩) (by assumption) ?rest0_1
  case hy0_1 => (intro w9 hSw; clear hSw; go_simp; try with_reducible rfl)
  try simp only [Act.put, List.setIfInBounds_toArray, List.set_cons_zero, List.set_cons_succ, List.getElem_toArray, List.getElem_cons_zero, List.getElem_cons_succ]
  refine wpAnyH_take (i := 1) (v := ?v1_2) rfl (by kernel_rfl) (by kernel_rfl) (by kernel_rfl) (fun _ _ _ h => h) (Or.inl ⟨by rfl, ?hy1_2⟩) (by assumption) ?rest1_2
  case hy1_2 => (intro w9 hSw; obtain ⟨z0, z1, z2, _, _, _⟩ := Mbx.cells hSw; go_simp; try with_reducible rfl)
  try simp only [Act.put, List.setIfInBounds_toArray, List.set_cons_zero, List.set_cons_succ, List.getElem_toArray, List.getElem_cons_zero, List.getElem_cons_succ]
  refine wpAnyH_take (i := 2) (v := ?v2_3) rfl (by kernel_rfl) (by kernel_rfl) (by kernel_rfl) (fun _ _ _ h => h) (Or.inl ⟨by rfl, ?hy2_3⟩) (by assumption) ?rest2_3
  case hy2_3 => (intro w9 hSw; clear hSw; go_simp; try with_reducible rfl)
  try simp only [Act.put, List.setIfInBounds_toArray, List.set_cons_zero, List.set_cons_succ, List.getElem_toArray, List.getElem_cons_zero, List.getElem_cons_succ]
  refine wpAnyH_take (i := 3) (v := ?v3_4) rfl (by kernel_rfl) (by kernel_rfl) (by kernel_rfl) (fun _ _ _ h => h) (Or.inl ⟨by rfl, ?hy3_4⟩) (by assumption) ?rest3_4
  case hy3_4 => (intro w9 hSw; obtain ⟨z0, z1, z2, _, _, _⟩ := Mbx.cells hSw; go_simp; try with_reducible rfl)
  try simp only [Act.put, List.setIfInBounds_toArray, List.set_cons_zero, List.set_cons_succ, List.getElem_toArray, List.getElem_cons_zero, List.getElem_cons_succ]
  refine wpAnyH_take (i := 4) (v := ?v4_5) rfl (by kernel_rfl) (by kernel_rfl) (by kernel_rfl) (fun _ _ _ h => h) (Or.inl ⟨by rfl, ?hy4_5⟩) (by assumption) ?rest4_5
  case hy4_5 => (intro w9 hSw; clear hSw; go_simp; try with_reducible rfl)
  try simp only [Act.put, List.setIfInBounds_toArray, List.set_cons_zero, List.set_cons_succ, List.getElem_toArray, List.getElem_cons_zero, List.getElem_cons_succ]
  refine wpAnyH_take (i := 5) (v := ?v5_6) rfl (by kernel_rfl) (by kernel_rfl) (by kernel_rfl) (fun _ _ _ h => h) (Or.inl ⟨by rfl, ?hy5_6⟩) (by assumption) ?rest5_6
  case hy5_6 => (intro w9 hSw; clear hSw; go_simp; try with_reducible rfl)
  try simp only [Act.put, List.setIfInBounds_toArray, List.set_cons_zero, List.set_cons_succ, List.getElem_toArray, List.getElem_cons_zero, List.getElem_cons_succ]
  refine wpAnyH_done (by kernel_rfl) ?_ _
  skip
  go_wp2_with fail
  go_loopw [35, 10, 11, 14, 15, 16, 17, 18, 19] (fun v35 v10 v11 v14 v15 v16 v17 v18 v19 wr => ∃ (k : Nat) (Ls Ms : Nat → List Int) (own : Nat → Nat) (s g cap : Nat) (A Ad Ae Al Ar : Option Addr) (c cd ce cl cr : Nat) (d e : List Int) (hs gs : List Re), k ≤ n ∧ v35 = .int .i64 k ∧ v10 = .slice Al hs.length cl ∧ v11 = .slice Ar gs.length cr ∧ PS 99 w wr m n N w.heap.size (w.heap.size + 1) bb bs s g cap own A c (Ls k) (.slice Ad d.length cd) (.slice Ae e.length ce) Ad Ae Al Ar cd ce cl cr d e hs gs ∧ BdK m n k Ls Ms d e hs gs ∧ Ls 0 = l) (fun i _ _ _ _ _ _ _ _ _ => n - (intOf i).toNat)
  case atStart => exact ⟨0, _, _, own, s0, g0, cap0, A0, none, none, none, none, c0, 0, 0, 0, 0, [], [], [], [], Nat.zero_le _, rfl, rfl, rfl, S0.drew, K0, rfl⟩
  case round =>
    clear S0 K0
    obtain ⟨k, Ls, Ms, own, s, g, cap, A, Ad, Ae, Al, Ar, c, cd, ce, cl, cr, d, e, hs, gs, hk, rfl, rfl, rfl, S, K, hL0⟩ := hrel
    have HL0 := Lib.hid hL0
    clear hL0
    have k0 : (0 : Int) ≤ k := by omega
    by_cases hlt : k < n
    · as_aux_lemma =>
        have k1 : (k : Int) < n := by omega
        have HK := Lib.hid K
        have hKL : (Ls k).length = N := by rw [K.now.1]; exact HN.out.symm
        have HKL := Lib.hid hKL
        have HKW := Lib.hid K.now.2
        clear K hKL
        obtain ⟨f, hf⟩ : ∃ f, k + 1 = f := ⟨_, rfl⟩
        have ef : (k : Int) + 1 = (f : Int) := by omega
        have wf : IntKind.i64.wrap (f : Int) = (f : Int) := IntWalk.i64_in _ (by omega)
        have HF := Lib.hid hf
        have hfn : f ≤ n := by omega
        clear hf
        obtain ⟨U, hU⟩ : ∃ U, Vu.all s m n = U := ⟨_, rfl⟩
        obtain ⟨C9, hC⟩ : ∃ C, colV s m n k = C := ⟨_, rfl⟩
        have xs := S.xs (by decide)
        have pc := fun W => Col_any (all_vkN hm hn HN.out (s := s)).bd (i := (k : Int)) (by omega) W
        have pl := fun W (q : St W w.heap.size s g cap n (Ls k)) => list_col q HKL.out hm hn HN.out hlt (by omega)
        have eC : (Vu.all s m n).partO 0 k m 1 = C9 := (col_is hlt).trans hC
        have pc : ∀ W, Calls Try.prog 32 #[U.V, .int .i64 k] W (Ans W C9.V) := fun W => by rw [← eC, ← hU]; exact pc W
        rw [hU] at xs
        rw [hC] at pl
        clear eC hU hC
        obtain ⟨v0, v1, v2, v3, v4, v5, v6, v7, v8⟩ := Vbx.cells xs
        clear xs
        go_wp2_with fail
        with_reducible refine (pc _).mono ?_
        rintro e9 wa1 ⟨rfl, hb⟩
        clear v0 v1 v2 v3 v4 v5 v6 v7 v8 pc
        replace S := S.on hb
        clear hb
        go_wp2_with fail
        with_reducible refine (pl _ (S.st (by decide))).mono ?_
        rintro e9 wa2 ⟨gx, XL9, rfl, RX, hgx, IX, hb⟩
        clear pl hgx
        replace S := S.on hb
        clear hb
        obtain ⟨ix, hix⟩ : ∃ i, m - k = i := ⟨_, rfl⟩
        rw [hix] at IX ⊢
        have FX := RX.fl IX.wd (by rw [IX.len]; unfold maxLen; omega)
        rw [IX.len] at FX
        have HIx := Lib.hid hix
        have HIXx := Lib.hid IX
        have i0x : 0 < ix := by omega
        have i5x : ix ≤ 512 := by omega
        clear RX IX hix
        have hne : w.heap.size ≠ bs := fun q => by have h9 := S.ka; rw [q, S.ks] at h9; exact absurd h9 (by decide)
        have pd := Lib.hid (do_left FX i0x i5x (S.oa (by decide)) HN.out hm hn (p := k) (f := f) (by have := HIx.out; have := HF.out; omega) (by omega) (S.xa (by decide)) (S.xs (by decide)) hne S.la)
        clear hne
        go_wp2_with fail
        with_reducible refine pd.out.mono ?_
        rintro e9 wdx ⟨gvx, t1x, bex, vx, A3x, c3x, L3x, s3x, g3x, cap3x, hrx, Wmx, W8x, rfl, FVx, hgvx, IVx, hmt, hmb, btx, bbx, F3, hl3, I3x, xa3, xs3, st3, g1, g2, g3, hhr⟩
        clear pd FX
        have S3 := S.put g1 g2 g3 hhr xa3 xs3 F3 hl3 st3
        have HMTx := Lib.hid hmt
        have HMBx := Lib.hid hmb
        have HIVx := Lib.hid IVx
        have HI3x := Lib.hid I3x
        have hvlx := Lib.hid IVx.len
        have hsd : wa2.heap.size ≤ wdx.heap.size := by have q1 := g1.size; have q2 := g2.size; have q3 := g3.size; omega
        have tn : ∀ b, wa2.heap.size ≤ b → tgU own wa2.heap.size 0 b = 0 := fun b q => by unfold tgU; rw [if_neg (by omega)]
        have T0 : Tg (tgU own wa2.heap.size 0) (some ⟨gvx, 0, none⟩) 0 := fun x q => by injection q with q; subst q; exact tn _ hgvx.1
        have hgh := tn wdx.heap.size hsd
        obtain ⟨ownx, hox⟩ : ∃ o, tgU own wa2.heap.size 0 = o := ⟨_, rfl⟩
        rw [hox] at S3 T0 hgh
        clear S hox tn hmt hmb IVx I3x F3 hl3 xa3 xs3 st3 g1 g2 g3 hhr hsd
        have DH := Blk.new wdx [.slice (some ⟨gvx, 0, none⟩) ix ix, .float .f64 t1x] 51
        obtain ⟨ghx, eH⟩ : ∃ H, wdx.heap.size = H := ⟨_, rfl⟩
        rw [eH] at DH hgh
        have hbA := (Below.refl _ wdx).alloc (Nat.le_refl _) (.cells #[.slice (some ⟨gvx, 0, none⟩) ix ix, .float .f64 t1x] 51)
        have S4 := S3.on hbA
        have F4 := FVx.on hbA
        clear S3 FVx hbA hgvx
        go_upto_region 14 with fail
        try simp only [eH] at ⊢
        clear eH
        generalize wdx.alloc (.cells #[.slice (some ⟨gvx, 0, none⟩) ix ix, .float .f64 t1x] 51) = wex at S4 F4 DH ⊢
        obtain ⟨cH0, cH1, cH2, cH3⟩ := Rbx.cells DH
        clear cH0 cH1 cH2 cH3
        have hHL := Lib.hid HK.out.hl
        have hDL := Lib.hid HK.out.dl
        replace S4 := S4.drew
        replace F4 := F4.drew
        replace DH := DH.drew
        have bz := Below.refl wex.drew.heap.size wex.drew
        rename_i K0 hK0
        have key : ∀ (own9 : Nat → Nat) (AF9 AR9 : Option Addr) (cF9 cR9 : Nat) (W9 : World) (X3 X4 X5 X15 X16 X17 X18 X19 X36 X37 X38 X39 X40 X41 X42 X43 X44 X45 X46 X47 X48 X49 X50 X51 X52 X53 X54 X55 X56 X57 X58 X59 X60 X61 X62 X63 X64 X65 X66 X67 X68 X69 X70 X71 X72 X73 X74 X75 X76 X77 X78 X79 X80 X81 X82 X83 X84 X85 X86 X87 X88 X89 X90 X91 X92 X93 X94 X95 X96 X97 X98 X99 X100 X101 X102 X103 X104 X105 X106 X107 X108 X109 : Value), PS 99 w W9 m n N w.heap.size (w.heap.size + 1) bb bs s3x g3x cap3x own9 A3x c3x L3x (.slice AF9 (d.length + 1) cF9) (.slice Ae e.length ce) AF9 Ae AR9 Ar cF9 ce cR9 cr (d ++ [(bex : Int)]) e (hs ++ [⟨some ⟨gvx, 0, none⟩, ix, vx, t1x⟩]) gs → K0 { tmps := #[mV m n A0 N c0, .pointer (some ⟨w.heap.size, 0, none⟩), .pointer (some ⟨w.heap.size + 1, 0, none⟩), X3, X4, X5, .pointer (some ⟨bs, 0, none⟩), .int .i64 0, .func (.func (27 : Nat)) #[] #[.pointer (some ⟨w.heap.size, 0, none⟩), .pointer (some ⟨bs, 0, none⟩)], .pointer (some ⟨bb, 0, none⟩), .slice AR9 (hs.length + 1) cR9, .slice Ar gs.length cr, .int .i64 m, .int .i64 n, .int .i64 k, X15, X16, X17, X18, X19, .tuple #[(Vu.all s0 m n).V, .int .i64 0], .agg #[.int .i64 m, .int .i64 n, .slice A0 N c0], .tuple #[(Vu.all s0 m n).V, .int .i64 0], (Vu.all s0 m n).V, .int .i64 0, .int .i64 0, .bool false, undef, undef, .func (.func (27 : Nat)) #[] #[.pointer (some ⟨w.heap.size, 0, none⟩), .pointer (some ⟨bs, 0, none⟩)], .pointer (some ⟨w.heap.size, 0, none⟩), .int .i64 m, .pointer (some ⟨w.heap.size, 1, none⟩), .int .i64 n, .int .i64 n, .int .i64 k, X36, X37, X38, X39, X40, X41, X42, X43, X44, X45, X46, X47, X48, X49, X50, X51, X52, X53, X54, X55, X56, X57, X58, X59, X60, X61, X62, X63, X64, X65, X66, X67, X68, X69, X70, X71, X72, X73, X74, X75, X76, X77, X78, X79, X80, X81, X82, X83, X84, X85, X86, X87, X88, X89, X90, X91, X92, X93, X94, X95, X96, X97, X98, X99, X100, X101, X102, X103, X104, X105, X106, X107, X108, X109, undef, undef, undef], defers := [] } W9 := by
          as_aux_lemma =>
            intro own9 AF9 AR9 cF9 cR9 W9 X3 X4 X5 X15 X16 X17 X18 X19 X36 X37 X38 X39 X40 X41 X42 X43 X44 X45 X46 X47 X48 X49 X50 X51 X52 X53 X54 X55 X56 X57 X58 X59 X60 X61 X62 X63 X64 X65 X66 X67 X68 X69 X70 X71 X72 X73 X74 X75 X76 X77 X78 X79 X80 X81 X82 X83 X84 X85 X86 X87 X88 X89 X90 X91 X92 X93 X94 X95 X96 X97 X98 X99 X100 X101 X102 X103 X104 X105 X106 X107 X108 X109 S9
            clear bz DH F4 S4 T0 hgh hHL hDL
            have HSX := Lib.hid (bdX_is (by rw [HIx.out]; exact HIXx.out))
            have HX9 : Hid (fa (bex : Int) = mkB (bdX (Ls k) m n k)) := Lib.hid (by rw [fa_nat, HMBx.out]; exact mkB_same HSX.out)
            have HTX : Hid (af t1x = mkT (bdX (Ls k) m n k)) := Lib.hid (by rw [HMTx.out]; exact mkT_same HSX.out)
            have HVX : Hid (Is vx (m - k) (mkV (bdX (Ls k) m n k))) := Lib.hid (by rw [HIx.out]; exact HIVx.out.congr (fun i _ => mkV_same HSX.out i))
            have HM9 : Hid (Is L3x (m * n) (lT (Ls k) vx n k (m - k) (k + 1) (af t1x))) := Lib.hid (by have h9 := HI3x.out; rw [HN.out] at h9; rw [HIx.out, HF.out]; exact h9)
            have HML : Hid (L3x.length = m * n ∧ Wd L3x) := Lib.hid ⟨HM9.out.len, HM9.out.wd⟩
            have HMN : Hid (L3x.length = N) := Lib.hid (HM9.out.len.trans HN.out.symm)
            clear HSX HIXx HMBx HMTx HIVx HI3x
            obtain ⟨U, hU⟩ : ∃ U, Vu.all s3x m n = U := ⟨_, rfl⟩
            obtain ⟨C9, hC⟩ : ∃ C, rowU s3x m n k = C := ⟨_, rfl⟩
            have xs := S9.xs (by decide)
            have pc := fun W => Row_any (all_vkN hm hn HN.out (s := s3x)).bd (i := (k : Int)) (by omega) W
            have pl := fun W (q : St W w.heap.size s3x g3x cap3x n L3x) => list_row q HMN.out hm hn HN.out (by omega) HF.out hfn
            have eC : (Vu.all s3x m n).partO k 0 1 n = C9 := (row_is (by omega)).trans hC
            have pc : ∀ W, Calls Try.prog 34 #[U.V, .int .i64 k] W (Ans W C9.V) := fun W => by rw [← eC, ← hU]; exact pc W
            rw [hU] at xs
            rw [hC] at pl
            clear eC hU hC
            obtain ⟨v0, v1, v2, v3, v4, v5, v6, v7, v8⟩ := Vbx.cells xs
            clear xs
            go_wp2_with fail
            with_reducible refine (pc _).mono ?_
            rintro e9 wb1 ⟨rfl, hb⟩
            clear v0 v1 v2 v3 v4 v5 v6 v7 v8 pc
            replace S9 := S9.on hb
            clear hb
            go_wp2_with fail
            with_reducible refine (pl _ (S9.st (by decide))).mono ?_
            rintro e9 wb2 ⟨gxr, YL9, rfl, RX, hgx, IX, hb⟩
            clear pl hgx
            replace S9 := S9.on hb
            clear hb
            have HIXY := Lib.hid IX
            by_cases c3 : k + 2 < n
            · as_aux_lemma =>
                obtain ⟨iy, hiy⟩ : ∃ i, n - f = i := ⟨_, rfl⟩
                rw [hiy] at IX ⊢
                have FX := RX.fl IX.wd (by rw [IX.len]; unfold maxLen; omega)
                rw [IX.len] at FX
                have HIy := Lib.hid hiy
                have HIXy := Lib.hid IX
                have i0y : 0 < iy := by omega
                have d3 : ¬ ((iy : Nat) : Int) < 2 := by have := HF.out; have := HIy.out; omega
                have i5y : iy ≤ 512 := by omega
                clear RX IX hiy
                have hne : w.heap.size ≠ bs := fun q => by have h9 := S9.ka; rw [q, S9.ks] at h9; exact absurd h9 (by decide)
                have pd := Lib.hid (do_right FX i0y i5y (S9.oa (by decide)) HN.out hm hn (p := f) (f := f) (by have := HIy.out; have := HF.out; omega) (by omega) (S9.xa (by decide)) (S9.xs (by decide)) hne S9.la)
                clear hne
                go_wp2_with fail
                with_reducible refine pd.out.mono ?_
                rintro e9 wdy ⟨gvy, t1y, bey, vy, A3y, c3y, L3y, s3y, g3y, cap3y, hry, Wmy, W8y, rfl, FVy, hgvy, IVy, hmt, hmb, bty, bby, F3, hl3, I3y, xa3, xs3, st3, g1, g2, g3, hhr⟩
                clear pd FX
                have S3 := S9.put g1 g2 g3 hhr xa3 xs3 F3 hl3 st3
                have HMTy := Lib.hid hmt
                have HMBy := Lib.hid hmb
                have HIVy := Lib.hid IVy
                have HI3y := Lib.hid I3y
                have hvly := Lib.hid IVy.len
                have hsd : wb2.heap.size ≤ wdy.heap.size := by have q1 := g1.size; have q2 := g2.size; have q3 := g3.size; omega
                have tn : ∀ b, wb2.heap.size ≤ b → tgU own9 wb2.heap.size 0 b = 0 := fun b q => by unfold tgU; rw [if_neg (by omega)]
                have T0 : Tg (tgU own9 wb2.heap.size 0) (some ⟨gvy, 0, none⟩) 0 := fun x q => by injection q with q; subst q; exact tn _ hgvy.1
                have hgh := tn wdy.heap.size hsd
                obtain ⟨owny, hoy⟩ : ∃ o, tgU own9 wb2.heap.size 0 = o := ⟨_, rfl⟩
                rw [hoy] at S3 T0 hgh
                clear S9 hoy tn hmt hmb IVy I3y F3 hl3 xa3 xs3 st3 g1 g2 g3 hhr hsd
                have DH := Blk.new wdy [.slice (some ⟨gvy, 0, none⟩) iy iy, .float .f64 t1y] 51
                obtain ⟨ghy, eH⟩ : ∃ H, wdy.heap.size = H := ⟨_, rfl⟩
                rw [eH] at DH hgh
                have hbA := (Below.refl _ wdy).alloc (Nat.le_refl _) (.cells #[.slice (some ⟨gvy, 0, none⟩) iy iy, .float .f64 t1y] 51)
                have S4 := S3.on hbA
                have F4 := FVy.on hbA
                clear S3 FVy hbA hgvy
                go_upto_region 21 with fail
                try simp only [eH] at ⊢
                clear eH
                generalize wdy.alloc (.cells #[.slice (some ⟨gvy, 0, none⟩) iy iy, .float .f64 t1y] 51) = wey at S4 F4 DH ⊢
                obtain ⟨cH0, cH1, cH2, cH3⟩ := Rbx.cells DH
                skip
                clear cH0 cH1 cH2 cH3
                have hHL := Lib.hid HK.out.gl
                have hDL := Lib.hid HK.out.el
                replace S4 := S4.drew
                replace F4 := F4.drew
                replace DH := DH.drew
                have bz := Below.refl wey.drew.heap.size wey.drew
                rename_i hz9
                clear hz9
                rename_i K0 hK0
                have key : ∀ (on9 : Nat → Nat) (AE9 AS9 : Option Addr) (cE9 cS9 : Nat) (W9 : World) (X3 X4 X5 X15 X16 X17 X18 X19 X36 X37 X38 X39 X40 X41 X42 X43 X44 X45 X46 X47 X48 X49 X50 X51 X52 X53 X54 X55 X56 X57 X58 X59 X60 X61 X62 X63 X64 X65 X66 X67 X68 X69 X70 X71 X72 X73 X74 X75 X76 X77 X78 X79 X80 X81 X82 X83 X84 X85 X86 X87 X88 X89 X90 X91 X92 X93 X94 X95 X96 X97 X98 X99 X100 X101 X102 X103 X104 X105 X106 X107 X108 X109 : Value), PS 99 w W9 m n N w.heap.size (w.heap.size + 1) bb bs s3y g3y cap3y on9 A3y c3y L3y (.slice AF9 (d.length + 1) cF9) (.slice AE9 (e.length + 1) cE9) AF9 AE9 AR9 AS9 cF9 cE9 cR9 cS9 (d ++ [(bex : Int)]) (e ++ [(bey : Int)]) (hs ++ [⟨some ⟨gvx, 0, none⟩, ix, vx, t1x⟩]) (gs ++ [⟨some ⟨gvy, 0, none⟩, iy, vy, t1y⟩]) → K0 { tmps := #[mV m n A0 N c0, .pointer (some ⟨w.heap.size, 0, none⟩), .pointer (some ⟨w.heap.size + 1, 0, none⟩), X3, X4, X5, .pointer (some ⟨bs, 0, none⟩), .int .i64 0, .func (.func (27 : Nat)) #[] #[.pointer (some ⟨w.heap.size, 0, none⟩), .pointer (some ⟨bs, 0, none⟩)], .pointer (some ⟨bb, 0, none⟩), .slice AR9 (hs.length + 1) cR9, .slice AS9 (gs.length + 1) cS9, .int .i64 m, .int .i64 n, .int .i64 k, X15, X16, X17, X18, X19, .tuple #[(Vu.all s0 m n).V, .int .i64 0], .agg #[.int .i64 m, .int .i64 n, .slice A0 N c0], .tuple #[(Vu.all s0 m n).V, .int .i64 0], (Vu.all s0 m n).V, .int .i64 0, .int .i64 0, .bool false, undef, undef, .func (.func (27 : Nat)) #[] #[.pointer (some ⟨w.heap.size, 0, none⟩), .pointer (some ⟨bs, 0, none⟩)], .pointer (some ⟨w.heap.size, 0, none⟩), .int .i64 m, .pointer (some ⟨w.heap.size, 1, none⟩), .int .i64 n, .int .i64 n, .int .i64 k, X36, X37, X38, X39, X40, X41, X42, X43, X44, X45, X46, X47, X48, X49, X50, X51, X52, X53, X54, X55, X56, X57, X58, X59, X60, X61, X62, X63, X64, X65, X66, X67, X68, X69, X70, X71, X72, X73, X74, X75, X76, X77, X78, X79, X80, X81, X82, X83, X84, X85, X86, X87, X88, X89, X90, X91, X92, X93, X94, X95, X96, X97, X98, X99, X100, X101, X102, X103, X104, X105, X106, X107, X108, X109, undef, undef, undef], defers := [] } W9 := by
                  as_aux_lemma =>
                    intro on9 AE9 AS9 cE9 cS9 W9 X3 X4 X5 X15 X16 X17 X18 X19 X36 X37 X38 X39 X40 X41 X42 X43 X44 X45 X46 X47 X48 X49 X50 X51 X52 X53 X54 X55 X56 X57 X58 X59 X60 X61 X62 X63 X64 X65 X66 X67 X68 X69 X70 X71 X72 X73 X74 X75 X76 X77 X78 X79 X80 X81 X82 X83 X84 X85 X86 X87 X88 X89 X90 X91 X92 X93 X94 X95 X96 X97 X98 X99 X100 X101 X102 X103 X104 X105 X106 X107 X108 X109 S10
                    have HSY := Lib.hid (bdY_is HF.out (by rw [HIy.out]; exact HIXy.out))
                    have HY9 : Hid (fa (bey : Int) = mkB (bdY L3x n k)) := Lib.hid (by rw [fa_nat, HMBy.out]; exact mkB_same HSY.out)
                    have HTY : Hid (af t1y = mkT (bdY L3x n k)) := Lib.hid (by rw [HMTy.out]; exact mkT_same HSY.out)
                    have ei : n - 1 - k = n - f := by have := HF.out; omega
                    have HVY : Hid (Is vy (n - 1 - k) (mkV (bdY L3x n k))) := Lib.hid (by rw [ei, HIy.out]; exact HIVy.out.congr (fun i _ => mkV_same HSY.out i))
                    have HL9 : Hid (Is L3y (m * n) (rT L3x vy m n (k + 1) (n - 1 - k) (k + 1) (af t1y))) := Lib.hid (by have h9 := HI3y.out; rw [HN.out] at h9; rw [ei, HIy.out, HF.out]; exact h9)
                    have HGL := Lib.hid HK.out.gl
                    have HEL := Lib.hid HK.out.el
                    clear ei
                    rw [show d.length + 1 = (d ++ [(bex : Int)]).length by simp] at S10
                    rw [show e.length + 1 = (e ++ [(bey : Int)]).length by simp] at S10
                    have K2 := BdK.next (L := L3y) (M := L3x) (e2 := (e ++ [(bey : Int)])) (gs2 := (gs ++ [⟨some ⟨gvy, 0, none⟩, iy, vy, t1y⟩])) (r := ⟨some ⟨gvx, 0, none⟩, ix, vx, t1x⟩) (x := (bex : Int)) HK.out hlt HX9.out (by have := bbx; omega) HVX.out HTX.out HM9.out ⟨HL9.out.len, HL9.out.wd⟩ (by rw [List.length_append, HK.out.el]; show min k (n - 1) + 1 = _; omega) (fun j hj _ => by rw [D_append, HK.out.el, if_pos (by omega)]) (fun _ => by rw [D_append, HK.out.el, if_neg (by omega), show k - min k (n - 1) = 0 by omega, if_pos c3]; exact HY9.out) (wd_push9 HK.out.ew (by have := bby; omega)) (by rw [List.length_append, HK.out.gl]; show min k (n - 2) + 1 = _; omega) (fun j q hj hq => by rw [List.getElem?_append_left (by have := HK.out.gl; omega)] at hq; exact hq) (fun q hq => by rw [List.getElem?_append_right (by have := HK.out.gl; omega), HK.out.gl, show k - min k (n - 2) = 0 by omega] at hq; obtain rfl : ⟨some ⟨gvy, 0, none⟩, iy, vy, t1y⟩ = q := (by simpa using hq); exact ⟨HVY.out, HTY.out, HL9.out⟩) (fun h9 => absurd c3 h9)
                    have HK2 := Lib.hid K2
                    clear K2
                    go_wp2_with fail
                    go_roundw
                    case rel => exact ⟨k + 1, (fun i => if i = k + 1 then L3y else Ls i), (fun i => if i = k then L3x else Ms i), on9, s3y, g3y, cap3y, A3y, AF9, AE9, AR9, AS9, c3y, cF9, cE9, cR9, cS9, (d ++ [(bex : Int)]), (e ++ [(bey : Int)]), (hs ++ [⟨some ⟨gvx, 0, none⟩, ix, vx, t1x⟩]), (gs ++ [⟨some ⟨gvy, 0, none⟩, iy, vy, t1y⟩]), by omega, (by rw [HF.out]), by simp, by simp, (by show PS _ _ _ _ _ _ _ _ _ _ _ _ _ _ _ _ (if k + 1 = k + 1 then L3y else Ls (k + 1)) _ _ _ _ _ _ _ _ _ _ _ _ _ _; rw [if_pos rfl]; exact S10), HK2.out, (by show (if 0 = k + 1 then L3y else Ls 0) = l; rw [if_neg (by omega)]; exact HL0.out)⟩
                    case measure => have h9 := HF.out; simp [intOf]; omega
                refine wp_region_late [11] (S := fun w9 : World => Rbx w9 ghy (some ⟨gvy, 0, none⟩) iy iy t1y ∧ Tbx w9 bb AF9 (d.length + 1) cF9 Ae e.length ce) (by kernel_rfl) ⟨DH, S4.xb (by decide)⟩ (fun hS => ?_)
                generalize wey.drew = wly at hS S4 F4 DH  bz ⊢
                refine wpAnyL_take (i := 0) (v := ?v0_7) rfl (by kernel_rfl) (by kernel_rfl) (by kernel_rfl) (fun _ _ _ h => h) (Or.inl ⟨by rfl, ?hy0_7⟩) (by assumption) ?rest0_7
                case hy0_7 => (intro w9 hSw; clear hSw; go_simp; try with_reducible rfl)
                try simp only [Act.put, List.setIfInBounds_toArray, List.set_cons_zero, List.set_cons_succ, List.getElem_toArray, List.getElem_cons_zero, List.getElem_cons_succ]
                refine wpAnyL_take (i := 1) (v := ?v1_8) rfl (by kernel_rfl) (by kernel_rfl) (by kernel_rfl) (fun _ _ _ h => h) (Or.inl ⟨by rfl, ?hy1_8⟩) (by assumption) ?rest1_8
                case hy1_8 => (intro w9 hSw; obtain ⟨ma1, ma2⟩ := hSw; obtain ⟨z0, z1, _, _⟩ := Tbx.cells ma2; obtain ⟨y0, y1, _, _⟩ := Rbx.cells ma1; go_simp; try with_reducible rfl)
                try simp only [Act.put, List.setIfInBounds_toArray, List.set_cons_zero, List.set_cons_succ, List.getElem_toArray, List.getElem_cons_zero, List.getElem_cons_succ]
                refine wpAnyL_take (i := 4) (v := ?v4_9) rfl (by kernel_rfl) (by kernel_rfl) (by kernel_rfl) (fun _ _ _ h => h) (Or.inl ⟨by rfl, ?hy4_9⟩) (by assumption) ?rest4_9
                case hy4_9 => (intro w9 hSw; clear hSw; go_simp; try with_reducible rfl)
                try simp only [Act.put, List.setIfInBounds_toArray, List.set_cons_zero, List.set_cons_succ, List.getElem_toArray, List.getElem_cons_zero, List.getElem_cons_succ]
                refine wpAnyL_take (i := 5) (v := ?v5_10) rfl (by kernel_rfl) (by kernel_rfl) (by kernel_rfl) (fun _ _ _ h => h) (Or.inl ⟨by rfl, ?hy5_10⟩) (by assumption) ?rest5_10
                case hy5_10 => (intro w9 hSw; obtain ⟨ma1, ma2⟩ := hSw; obtain ⟨z0, z1, _, _⟩ := Tbx.cells ma2; obtain ⟨y0, y1, _, _⟩ := Rbx.cells ma1; go_simp; try with_reducible rfl)
                try simp only [Act.put, List.setIfInBounds_toArray, List.set_cons_zero, List.set_cons_succ, List.getElem_toArray, List.getElem_cons_zero, List.getElem_cons_succ]
                refine wpAnyL_take (i := 6) (v := ?v6_11) rfl (by kernel_rfl) (by kernel_rfl) (by kernel_rfl) (fun _ _ _ h => h) (Or.inl ⟨by rfl, ?hy6_11⟩) (by assumption) ?rest6_11
                case hy6_11 => (intro w9 hSw; clear hSw; go_simp; try with_reducible rfl)
                try simp only [Act.put, List.setIfInBounds_toArray, List.set_cons_zero, List.set_cons_succ, List.getElem_toArray, List.getElem_cons_zero, List.getElem_cons_succ]
                refine wpAnyL_ready (rs := [2, 7]) (by kernel_rfl) (by simp) ?_
                refine (AllReadyL.cons rfl (fun K hK => ?_) (AllReadyL.cons rfl (fun K hK => ?_) AllReadyL.nil))
                · go_simp
                  have S5 := S4.tags 0
                  replace hgh := tgU_lt (i := 0) (n := wly.heap.size) hgh (Blk.lt DH)
                  replace T0 := T0.up 0 (n := wly.heap.size) (fun x hx => by injection hx with hx; subst hx; exact fl_lt F4 i0y)
                  have DQ := Blk.new wly [.slice (some ⟨gvy, 0, none⟩) iy iy, .float .f64 t1y] 51
                  have hgq := tgU_at owny wly.heap.size 0
                  obtain ⟨ony1, ho9⟩ : ∃ o, tgU owny wly.heap.size 0 = o := ⟨_, rfl⟩
                  rw [ho9] at S5 hgh T0 hgq
                  clear ho9
                  replace S4 := S5
                  clear S5
                  obtain ⟨HR9, eR9⟩ : ∃ H, wly.heap.size = H := ⟨_, rfl⟩
                  rw [eR9] at DQ hgq
                  have hbA := (Below.refl _ wly).alloc (Nat.le_refl _) (.cells #[.slice (some ⟨gvy, 0, none⟩) iy iy, .float .f64 t1y] 51)
                  replace S4 := S4.on hbA
                  replace F4 := F4.on hbA
                  replace DH := DH.on hbA
                  clear hbA
                  replace bz := bz.alloc bz.size (.cells #[.slice (some ⟨gvy, 0, none⟩) iy iy, .float .f64 t1y] 51)
                  try simp only [eR9] at ⊢
                  clear eR9
                  generalize wly.alloc (.cells #[.slice (some ⟨gvy, 0, none⟩) iy iy, .float .f64 t1y] 51) = wzy2 at S4 F4 DH DQ bz ⊢
                  clear hS; refine hK.out _ _ ⟨DH, S4.xb (by decide)⟩ (fun hS => ?_); clear hK K
                  try simp only [Act.put, List.setIfInBounds_toArray, List.set_cons_zero, List.set_cons_succ, List.getElem_toArray, List.getElem_cons_zero, List.getElem_cons_succ]
                  refine wpAnyL_ready (rs := [3, 7]) (by kernel_rfl) (by simp) ?_
                  refine (AllReadyL.cons rfl (fun K hK => ?_) (AllReadyL.cons rfl (fun K hK => ?_) AllReadyL.nil))
                  · have q0 := Blk.cell DQ 0 rfl
                    have q1 := Blk.cell DQ 1 rfl
                    refine step_appR wzy2 rfl _ _ (by rfl) w.heap.size Ar cr gs gs.length rfl (by rfl) (S4.og (by decide)) _ 1 ⟨some ⟨gvy, 0, none⟩, iy, vy, t1y⟩ (by rfl) (by show _ = some (Value.slice _ vy.length _); rw [hvly.out]; exact q0) (by rw [add_at]; exact q1) (by have := hHL.out; omega) S4.bw.size ?_
                    intro AR3 cR3 wR3 hOR hgR hoR
                    clear q0 q1 DQ hgq
                    have hT := S4.tr.push hoR (fun x q => (S4.lr x q).2)
                    have S5 := S4.tags 4
                    replace hgh := tgU_lt (i := 4) (n := wzy2.heap.size) hgh (Blk.lt DH)
                    replace T0 := T0.up 4 (n := wzy2.heap.size) (fun x hx => by injection hx with hx; subst hx; exact fl_lt F4 i0y)
                    obtain ⟨ony4, ho9⟩ : ∃ o, tgU ony1 wzy2.heap.size 4 = o := ⟨_, rfl⟩
                    rw [ho9] at S5 hgh T0 hT
                    clear ho9
                    have hG : Gr w ony4 4 wzy2 wR3 := Gr.ofA hgR S5.tr (fun x q => (S5.lr x q).1)
                    replace DH := hG.blk DH hgh (by decide)
                    replace F4 := hG.fl F4 T0 (by decide)
                    clear bz
                    have bz := Below.refl wR3.heap.size wR3
                    have F42 : FL wR3 (some ⟨gvy, 0, none⟩) vy.length iy vy := by rw [hvly.out]; exact F4
                    replace S4 := (S5.mv hG).fillR (r := ⟨some ⟨gvy, 0, none⟩, iy, vy, t1y⟩) hOR hT F42 bty T0 (fun x hx => by injection hx with hx; subst hx; exact fl_lt F4 i0y)
                    clear F42 S5 hG hT hOR hgR hoR
                    clear hS; refine hK.out _ _ ⟨DH, S4.xb (by decide)⟩ (fun hS => ?_); clear hK K
                    try simp only [Act.put, List.setIfInBounds_toArray, List.set_cons_zero, List.set_cons_succ, List.getElem_toArray, List.getElem_cons_zero, List.getElem_cons_succ]
                    refine wpAnyL_ready (rs := [7]) (by kernel_rfl) (by simp) ?_
                    refine AllReadyL.cons rfl (fun K hK => ?_) AllReadyL.nil
                    go_simp
                    have S5 := S4.tags 0
                    replace hgh := tgU_lt (i := 0) (n := wR3.heap.size) hgh (Blk.lt DH)
                    replace T0 := T0.up 0 (n := wR3.heap.size) (fun x hx => by injection hx with hx; subst hx; exact fl_lt F4 i0y)
                    have FS := RowF.one wR3 (bey : Int)
                    have hgf := tgU_at ony4 wR3.heap.size 0
                    obtain ⟨ony5, ho9⟩ : ∃ o, tgU ony4 wR3.heap.size 0 = o := ⟨_, rfl⟩
                    rw [ho9] at S5 hgh T0 hgf
                    clear ho9
                    replace S4 := S5
                    clear S5
                    obtain ⟨HF9, eF9⟩ : ∃ H, wR3.heap.size = H := ⟨_, rfl⟩
                    rw [eF9] at FS hgf
                    have hbA := (Below.refl _ wR3).alloc (Nat.le_refl _) (.cells #[.float .f64 bey] 49)
                    replace S4 := S4.on hbA
                    replace F4 := F4.on hbA
                    replace DH := DH.on hbA
                    clear hbA
                    replace bz := bz.alloc bz.size (.cells #[.float .f64 bey] 49)
                    replace FS : RowF (wR3.alloc (.cells #[.float .f64 bey] 49)) HF9 [(bey : Int)] := FS
                    try simp only [eF9] at ⊢
                    clear eF9
                    generalize wR3.alloc (.cells #[.float .f64 bey] 49) = wzy6 at S4 F4 DH FS bz ⊢
                    clear hS; refine hK.out _ _ ⟨DH, S4.xb (by decide)⟩ (fun hS => ?_); clear hK K
                    try simp only [Act.put, List.setIfInBounds_toArray, List.set_cons_zero, List.set_cons_succ, List.getElem_toArray, List.getElem_cons_zero, List.getElem_cons_succ]
                    refine wpAnyL_ready (rs := [8]) (by kernel_rfl) (by simp) ?_
                    refine AllReadyL.cons rfl (fun K hK => ?_) AllReadyL.nil
                    have hsrc : NumF wzy6 wzy6.heap.size (some ⟨HF9, 0, none⟩) 1 [(bey : Int)] := FS.nums (c := 1) (B := wzy6.heap.size) 0 1 (by simp) (by omega) (by unfold maxLen; omega) (RowF.lt FS)
                    refine step_appF wzy6 rfl _ _ (by rfl) w.heap.size Ae ce e (by rfl) (S4.oe (by decide)) _ (some ⟨HF9, 0, none⟩) 1 [(bey : Int)] (by rfl) hsrc (by have := hDL.out; simp; omega) S4.bw.size ?_
                    intro AF7 cF7 wF7 hOF hgF hoF
                    clear hsrc FS hgf
                    have hT := S4.te.push hoF (fun x q => (S4.le x q).2)
                    have S5 := S4.tags 2
                    replace hgh := tgU_lt (i := 2) (n := wzy6.heap.size) hgh (Blk.lt DH)
                    replace T0 := T0.up 2 (n := wzy6.heap.size) (fun x hx => by injection hx with hx; subst hx; exact fl_lt F4 i0y)
                    obtain ⟨ony8, ho9⟩ : ∃ o, tgU ony5 wzy6.heap.size 2 = o := ⟨_, rfl⟩
                    rw [ho9] at S5 hgh T0 hT
                    clear ho9
                    have hG : Gr w ony8 2 wzy6 wF7 := Gr.ofA hgF S5.te (fun x q => (S5.le x q).1)
                    replace DH := hG.blk DH hgh (by decide)
                    replace F4 := hG.fl F4 T0 (by decide)
                    clear bz
                    have bz := Below.refl wF7.heap.size wF7
                    replace S4 := (S5.mv hG).fillE hOF hT
                    clear S5 hG hT hOF hgF hoF
                    clear hS; refine hK.out _ _ ⟨DH, S4.xb (by decide)⟩ (fun hS => ?_); clear hK K
                    try simp only [Act.put, List.setIfInBounds_toArray, List.set_cons_zero, List.set_cons_succ, List.getElem_toArray, List.getElem_cons_zero, List.getElem_cons_succ]
                    refine wpAnyL_take (i := 9) (v := ?v9_12) rfl (by kernel_rfl) (by kernel_rfl) (by kernel_rfl) (fun _ _ _ h => h) (Or.inl ⟨by rfl, ?hy9_12⟩) (by assumption) ?rest9_12
                    case hy9_12 => (intro w9 hSw; clear hSw; go_simp; try with_reducible rfl)
                    try simp only [Act.put, List.setIfInBounds_toArray, List.set_cons_zero, List.set_cons_succ, List.getElem_toArray, List.getElem_cons_zero, List.getElem_cons_succ]
                    refine wpAnyL_take (i := 10) (v := ?v10_13) rfl (by kernel_rfl) (by kernel_rfl) (by kernel_rfl) (fun _ _ _ h => h) (Or.inl ⟨by rfl, ?hy10_13⟩) (by assumption) ?rest10_13
                    case hy10_13 => (intro w9 hSw; clear hSw; go_simp; try with_reducible rfl)
                    try simp only [Act.put, List.setIfInBounds_toArray, List.set_cons_zero, List.set_cons_succ, List.getElem_toArray, List.getElem_cons_zero, List.getElem_cons_succ]
                    obtain ⟨q0, q1, q2, q3⟩ := Tbx.cells (S4.xb (by decide))
                    refine wpAnyL_ready (rs := [11]) (by kernel_rfl) (by simp) ?_
                    refine AllReadyL.lat (by rfl) rfl (fun K hK => ?_) AllReadyL.nil
                    go_simp
                    clear q0 q1 q2 q3
                    refine hK.out _ _ trivial (fun _ => ?_)
                    clear hK K
                    try simp only [Act.put, List.setIfInBounds_toArray, List.set_cons_zero, List.set_cons_succ, List.getElem_toArray, List.getElem_cons_zero, List.getElem_cons_succ]
                    refine wpAnyL_done (by kernel_rfl) ?_ _
                    have S10 := (S4.mv (Gr.of (grown_setCell (World.grownBy.refl wF7 _) 1 (.slice AF7 (e ++ [(bey : Int)]).length cF7)) S4.kb S4.b0.2.2.1)).fillB (Blk.set_ (S4.xb (by decide)) 1 (.slice AF7 (e ++ [(bey : Int)]).length cF7))
                    rw [show (e ++ [(bey : Int)]).length = e.length + 1 by simp] at S10
                    exact key _ _ _ _ _ _ _ _ _ _ _ _ _ _ _ _ _ _ _ _ _ _ _ _ _ _ _ _ _ _ _ _ _ _ _ _ _ _ _ _ _ _ _ _ _ _ _ _ _ _ _ _ _ _ _ _ _ _ _ _ _ _ _ _ _ _ _ _ _ _ _ _ _ _ _ _ _ _ _ _ _ _ _ _ _ _ _ _ S10
                  go_simp
                  have S5 := S4.tags 0
                  replace hgh := tgU_lt (i := 0) (n := wzy2.heap.size) hgh (Blk.lt DH)
                  replace T0 := T0.up 0 (n := wzy2.heap.size) (fun x hx => by injection hx with hx; subst hx; exact fl_lt F4 i0y)
                  replace hgq := tgU_lt (i := 0) (n := wzy2.heap.size) hgq (Blk.lt DQ)
                  have FS := RowF.one wzy2 (bey : Int)
                  have hgf := tgU_at ony1 wzy2.heap.size 0
                  obtain ⟨ony3, ho9⟩ : ∃ o, tgU ony1 wzy2.heap.size 0 = o := ⟨_, rfl⟩
                  rw [ho9] at S5 hgh T0 hgq hgf
                  clear ho9
                  replace S4 := S5
                  clear S5
                  obtain ⟨HF9, eF9⟩ : ∃ H, wzy2.heap.size = H := ⟨_, rfl⟩
                  rw [eF9] at FS hgf
                  have hbA := (Below.refl _ wzy2).alloc (Nat.le_refl _) (.cells #[.float .f64 bey] 49)
                  replace S4 := S4.on hbA
                  replace F4 := F4.on hbA
                  replace DH := DH.on hbA
                  replace DQ := DQ.on hbA
                  clear hbA
                  replace bz := bz.alloc bz.size (.cells #[.float .f64 bey] 49)
                  replace FS : RowF (wzy2.alloc (.cells #[.float .f64 bey] 49)) HF9 [(bey : Int)] := FS
                  try simp only [eF9] at ⊢
                  clear eF9
                  generalize wzy2.alloc (.cells #[.float .f64 bey] 49) = wzy4 at S4 F4 DH DQ FS bz ⊢
                  clear hS; refine hK.out _ _ ⟨DH, S4.xb (by decide)⟩ (fun hS => ?_); clear hK K
                  try simp only [Act.put, List.setIfInBounds_toArray, List.set_cons_zero, List.set_cons_succ, List.getElem_toArray, List.getElem_cons_zero, List.getElem_cons_succ]
                  refine wpAnyL_ready (rs := [3]) (by kernel_rfl) (by simp) ?_
                  refine AllReadyL.cons rfl (fun K hK => ?_) AllReadyL.nil
                  have q0 := Blk.cell DQ 0 rfl
                  have q1 := Blk.cell DQ 1 rfl
                  refine step_appR wzy4 rfl _ _ (by rfl) w.heap.size Ar cr gs gs.length rfl (by rfl) (S4.og (by decide)) _ 1 ⟨some ⟨gvy, 0, none⟩, iy, vy, t1y⟩ (by rfl) (by show _ = some (Value.slice _ vy.length _); rw [hvly.out]; exact q0) (by rw [add_at]; exact q1) (by have := hHL.out; omega) S4.bw.size ?_
                  intro AR5 cR5 wR5 hOR hgR hoR
                  clear q0 q1 DQ hgq
                  have hT := S4.tr.push hoR (fun x q => (S4.lr x q).2)
                  have S5 := S4.tags 4
                  replace hgh := tgU_lt (i := 4) (n := wzy4.heap.size) hgh (Blk.lt DH)
                  replace T0 := T0.up 4 (n := wzy4.heap.size) (fun x hx => by injection hx with hx; subst hx; exact fl_lt F4 i0y)
                  replace hgf := tgU_lt (i := 4) (n := wzy4.heap.size) hgf (RowF.lt FS)
                  obtain ⟨ony6, ho9⟩ : ∃ o, tgU ony3 wzy4.heap.size 4 = o := ⟨_, rfl⟩
                  rw [ho9] at S5 hgh T0 hgf hT
                  clear ho9
                  have hG : Gr w ony6 4 wzy4 wR5 := Gr.ofA hgR S5.tr (fun x q => (S5.lr x q).1)
                  replace DH := hG.blk DH hgh (by decide)
                  replace F4 := hG.fl F4 T0 (by decide)
                  replace FS := hG.row FS hgf (by decide)
                  clear bz
                  have bz := Below.refl wR5.heap.size wR5
                  have F42 : FL wR5 (some ⟨gvy, 0, none⟩) vy.length iy vy := by rw [hvly.out]; exact F4
                  replace S4 := (S5.mv hG).fillR (r := ⟨some ⟨gvy, 0, none⟩, iy, vy, t1y⟩) hOR hT F42 bty T0 (fun x hx => by injection hx with hx; subst hx; exact fl_lt F4 i0y)
                  clear F42 S5 hG hT hOR hgR hoR
                  clear hS; refine hK.out _ _ ⟨DH, S4.xb (by decide)⟩ (fun hS => ?_); clear hK K
                  try simp only [Act.put, List.setIfInBounds_toArray, List.set_cons_zero, List.set_cons_succ, List.getElem_toArray, List.getElem_cons_zero, List.getElem_cons_succ]
                  refine wpAnyL_ready (rs := [8]) (by kernel_rfl) (by simp) ?_
                  refine AllReadyL.cons rfl (fun K hK => ?_) AllReadyL.nil
                  have hsrc : NumF wR5 wR5.heap.size (some ⟨HF9, 0, none⟩) 1 [(bey : Int)] := FS.nums (c := 1) (B := wR5.heap.size) 0 1 (by simp) (by omega) (by unfold maxLen; omega) (RowF.lt FS)
                  refine step_appF wR5 rfl _ _ (by rfl) w.heap.size Ae ce e (by rfl) (S4.oe (by decide)) _ (some ⟨HF9, 0, none⟩) 1 [(bey : Int)] (by rfl) hsrc (by have := hDL.out; simp; omega) S4.bw.size ?_
                  intro AF7 cF7 wF7 hOF hgF hoF
                  clear hsrc FS hgf
                  have hT := S4.te.push hoF (fun x q => (S4.le x q).2)
                  have S5 := S4.tags 2
                  replace hgh := tgU_lt (i := 2) (n := wR5.heap.size) hgh (Blk.lt DH)
                  replace T0 := T0.up 2 (n := wR5.heap.size) (fun x hx => by injection hx with hx; subst hx; exact fl_lt F4 i0y)
                  obtain ⟨ony8, ho9⟩ : ∃ o, tgU ony6 wR5.heap.size 2 = o := ⟨_, rfl⟩
                  rw [ho9] at S5 hgh T0 hT
                  clear ho9
                  have hG : Gr w ony8 2 wR5 wF7 := Gr.ofA hgF S5.te (fun x q => (S5.le x q).1)
                  replace DH := hG.blk DH hgh (by decide)
                  replace F4 := hG.fl F4 T0 (by decide)
                  clear bz
                  have bz := Below.refl wF7.heap.size wF7
                  replace S4 := (S5.mv hG).fillE hOF hT
                  clear S5 hG hT hOF hgF hoF
                  clear hS; refine hK.out _ _ ⟨DH, S4.xb (by decide)⟩ (fun hS => ?_); clear hK K
                  try simp only [Act.put, List.setIfInBounds_toArray, List.set_cons_zero, List.set_cons_succ, List.getElem_toArray, List.getElem_cons_zero, List.getElem_cons_succ]
                  refine wpAnyL_take (i := 9) (v := ?v9_14) rfl (by kernel_rfl) (by kernel_rfl) (by kernel_rfl) (fun _ _ _ h => h) (Or.inl ⟨by rfl, ?hy9_14⟩) (by assumption) ?rest9_14
                  case hy9_14 => (intro w9 hSw; clear hSw; go_simp; try with_reducible rfl)
                  try simp only [Act.put, List.setIfInBounds_toArray, List.set_cons_zero, List.set_cons_succ, List.getElem_toArray, List.getElem_cons_zero, List.getElem_cons_succ]
                  refine wpAnyL_take (i := 10) (v := ?v10_15) rfl (by kernel_rfl) (by kernel_rfl) (by kernel_rfl) (fun _ _ _ h => h) (Or.inl ⟨by rfl, ?hy10_15⟩) (by assumption) ?rest10_15
                  case hy10_15 => (intro w9 hSw; clear hSw; go_simp; try with_reducible rfl)
                  try simp only [Act.put, List.setIfInBounds_toArray, List.set_cons_zero, List.set_cons_succ, List.getElem_toArray, List.getElem_cons_zero, List.getElem_cons_succ]
                  obtain ⟨q0, q1, q2, q3⟩ := Tbx.cells (S4.xb (by decide))
                  refine wpAnyL_ready (rs := [11]) (by kernel_rfl) (by simp) ?_
                  refine AllReadyL.lat (by rfl) rfl (fun K hK => ?_) AllReadyL.nil
                  go_simp
                  clear q0 q1 q2 q3
                  refine hK.out _ _ trivial (fun _ => ?_)
                  clear hK K
                  try simp only [Act.put, List.setIfInBounds_toArray, List.set_cons_zero, List.set_cons_succ, List.getElem_toArray, List.getElem_cons_zero, List.getElem_cons_succ]
                  refine wpAnyL_done (by kernel_rfl) ?_ _
                  have S10 := (S4.mv (Gr.of (grown_setCell (World.grownBy.refl wF7 _) 1 (.slice AF7 (e ++ [(bey : Int)]).length cF7)) S4.kb S4.b0.2.2.1)).fillB (Blk.set_ (S4.xb (by decide)) 1 (.slice AF7 (e ++ [(bey : Int)]).length cF7))
                  rw [show (e ++ [(bey : Int)]).length = e.length + 1 by simp] at S10
                  exact key _ _ _ _ _ _ _ _ _ _ _ _ _ _ _ _ _ _ _ _ _ _ _ _ _ _ _ _ _ _ _ _ _ _ _ _ _ _ _ _ _ _ _ _ _ _ _ _ _ _ _ _ _ _ _ _ _ _ _ _ _ _ _ _ _ _ _ _ _ _ _ _ _ _ _ _ _ _ _ _ _ _ _ _ _ _ _ _ S10
                go_simp
                have S5 := S4.tags 0
                replace hgh := tgU_lt (i := 0) (n := wly.heap.size) hgh (Blk.lt DH)
                replace T0 := T0.up 0 (n := wly.heap.size) (fun x hx => by injection hx with hx; subst hx; exact fl_lt F4 i0y)
                have FS := RowF.one wly (bey : Int)
                have hgf := tgU_at owny wly.heap.size 0
                obtain ⟨ony1, ho9⟩ : ∃ o, tgU owny wly.heap.size 0 = o := ⟨_, rfl⟩
                rw [ho9] at S5 hgh T0 hgf
                clear ho9
                replace S4 := S5
                clear S5
                obtain ⟨HF9, eF9⟩ : ∃ H, wly.heap.size = H := ⟨_, rfl⟩
                rw [eF9] at FS hgf
                have hbA := (Below.refl _ wly).alloc (Nat.le_refl _) (.cells #[.float .f64 bey] 49)
                replace S4 := S4.on hbA
                replace F4 := F4.on hbA
                replace DH := DH.on hbA
                clear hbA
                replace bz := bz.alloc bz.size (.cells #[.float .f64 bey] 49)
                replace FS : RowF (wly.alloc (.cells #[.float .f64 bey] 49)) HF9 [(bey : Int)] := FS
                try simp only [eF9] at ⊢
                clear eF9
                generalize wly.alloc (.cells #[.float .f64 bey] 49) = wzy2 at S4 F4 DH FS bz ⊢
                clear hS; refine hK.out _ _ ⟨DH, S4.xb (by decide)⟩ (fun hS => ?_); clear hK K
                try simp only [Act.put, List.setIfInBounds_toArray, List.set_cons_zero, List.set_cons_succ, List.getElem_toArray, List.getElem_cons_zero, List.getElem_cons_succ]
                refine wpAnyL_ready (rs := [2]) (by kernel_rfl) (by simp) ?_
                refine AllReadyL.cons rfl (fun K hK => ?_) AllReadyL.nil
                go_simp
                have S5 := S4.tags 0
                replace hgh := tgU_lt (i := 0) (n := wzy2.heap.size) hgh (Blk.lt DH)
                replace T0 := T0.up 0 (n := wzy2.heap.size) (fun x hx => by injection hx with hx; subst hx; exact fl_lt F4 i0y)
                replace hgf := tgU_lt (i := 0) (n := wzy2.heap.size) hgf (RowF.lt FS)
                have DQ := Blk.new wzy2 [.slice (some ⟨gvy, 0, none⟩) iy iy, .float .f64 t1y] 51
                have hgq := tgU_at ony1 wzy2.heap.size 0
                obtain ⟨ony3, ho9⟩ : ∃ o, tgU ony1 wzy2.heap.size 0 = o := ⟨_, rfl⟩
                rw [ho9] at S5 hgh T0 hgf hgq
                clear ho9
                replace S4 := S5
                clear S5
                obtain ⟨HR9, eR9⟩ : ∃ H, wzy2.heap.size = H := ⟨_, rfl⟩
                rw [eR9] at DQ hgq
                have hbA := (Below.refl _ wzy2).alloc (Nat.le_refl _) (.cells #[.slice (some ⟨gvy, 0, none⟩) iy iy, .float .f64 t1y] 51)
                replace S4 := S4.on hbA
                replace F4 := F4.on hbA
                replace DH := DH.on hbA
                replace FS := FS.on hbA
                clear hbA
                replace bz := bz.alloc bz.size (.cells #[.slice (some ⟨gvy, 0, none⟩) iy iy, .float .f64 t1y] 51)
                try simp only [eR9] at ⊢
                clear eR9
                generalize wzy2.alloc (.cells #[.slice (some ⟨gvy, 0, none⟩) iy iy, .float .f64 t1y] 51) = wzy4 at S4 F4 DH FS DQ bz ⊢
                clear hS; refine hK.out _ _ ⟨DH, S4.xb (by decide)⟩ (fun hS => ?_); clear hK K
                try simp only [Act.put, List.setIfInBounds_toArray, List.set_cons_zero, List.set_cons_succ, List.getElem_toArray, List.getElem_cons_zero, List.getElem_cons_succ]
                refine wpAnyL_ready (rs := [3]) (by kernel_rfl) (by simp) ?_
                refine AllReadyL.cons rfl (fun K hK => ?_) AllReadyL.nil
                have q0 := Blk.cell DQ 0 rfl
                have q1 := Blk.cell DQ 1 rfl
                refine step_appR wzy4 rfl _ _ (by rfl) w.heap.size Ar cr gs gs.length rfl (by rfl) (S4.og (by decide)) _ 1 ⟨some ⟨gvy, 0, none⟩, iy, vy, t1y⟩ (by rfl) (by show _ = some (Value.slice _ vy.length _); rw [hvly.out]; exact q0) (by rw [add_at]; exact q1) (by have := hHL.out; omega) S4.bw.size ?_
                intro AR5 cR5 wR5 hOR hgR hoR
                clear q0 q1 DQ hgq
                have hT := S4.tr.push hoR (fun x q => (S4.lr x q).2)
                have S5 := S4.tags 4
                replace hgh := tgU_lt (i := 4) (n := wzy4.heap.size) hgh (Blk.lt DH)
                replace T0 := T0.up 4 (n := wzy4.heap.size) (fun x hx => by injection hx with hx; subst hx; exact fl_lt F4 i0y)
                replace hgf := tgU_lt (i := 4) (n := wzy4.heap.size) hgf (RowF.lt FS)
                obtain ⟨ony6, ho9⟩ : ∃ o, tgU ony3 wzy4.heap.size 4 = o := ⟨_, rfl⟩
                rw [ho9] at S5 hgh T0 hgf hT
                clear ho9
                have hG : Gr w ony6 4 wzy4 wR5 := Gr.ofA hgR S5.tr (fun x q => (S5.lr x q).1)
                replace DH := hG.blk DH hgh (by decide)
                replace F4 := hG.fl F4 T0 (by decide)
                replace FS := hG.row FS hgf (by decide)
                clear bz
                have bz := Below.refl wR5.heap.size wR5
                have F42 : FL wR5 (some ⟨gvy, 0, none⟩) vy.length iy vy := by rw [hvly.out]; exact F4
                replace S4 := (S5.mv hG).fillR (r := ⟨some ⟨gvy, 0, none⟩, iy, vy, t1y⟩) hOR hT F42 bty T0 (fun x hx => by injection hx with hx; subst hx; exact fl_lt F4 i0y)
                clear F42 S5 hG hT hOR hgR hoR
                clear hS; refine hK.out _ _ ⟨DH, S4.xb (by decide)⟩ (fun hS => ?_); clear hK K
                try simp only [Act.put, List.setIfInBounds_toArray, List.set_cons_zero, List.set_cons_succ, List.getElem_toArray, List.getElem_cons_zero, List.getElem_cons_succ]
                refine wpAnyL_ready (rs := [8]) (by kernel_rfl) (by simp) ?_
                refine AllReadyL.cons rfl (fun K hK => ?_) AllReadyL.nil
                have hsrc : NumF wR5 wR5.heap.size (some ⟨HF9, 0, none⟩) 1 [(bey : Int)] := FS.nums (c := 1) (B := wR5.heap.size) 0 1 (by simp) (by omega) (by unfold maxLen; omega) (RowF.lt FS)
                refine step_appF wR5 rfl _ _ (by rfl) w.heap.size Ae ce e (by rfl) (S4.oe (by decide)) _ (some ⟨HF9, 0, none⟩) 1 [(bey : Int)] (by rfl) hsrc (by have := hDL.out; simp; omega) S4.bw.size ?_
                intro AF7 cF7 wF7 hOF hgF hoF
                clear hsrc FS hgf
                have hT := S4.te.push hoF (fun x q => (S4.le x q).2)
                have S5 := S4.tags 2
                replace hgh := tgU_lt (i := 2) (n := wR5.heap.size) hgh (Blk.lt DH)
                replace T0 := T0.up 2 (n := wR5.heap.size) (fun x hx => by injection hx with hx; subst hx; exact fl_lt F4 i0y)
                obtain ⟨ony8, ho9⟩ : ∃ o, tgU ony6 wR5.heap.size 2 = o := ⟨_, rfl⟩
                rw [ho9] at S5 hgh T0 hT
                clear ho9
                have hG : Gr w ony8 2 wR5 wF7 := Gr.ofA hgF S5.te (fun x q => (S5.le x q).1)
                replace DH := hG.blk DH hgh (by decide)
                replace F4 := hG.fl F4 T0 (by decide)
                clear bz
                have bz := Below.refl wF7.heap.size wF7
                replace S4 := (S5.mv hG).fillE hOF hT
                clear S5 hG hT hOF hgF hoF
                clear hS; refine hK.out _ _ ⟨DH, S4.xb (by decide)⟩ (fun hS => ?_); clear hK K
                try simp only [Act.put, List.setIfInBounds_toArray, List.set_cons_zero, List.set_cons_succ, List.getElem_toArray, List.getElem_cons_zero, List.getElem_cons_succ]
                refine wpAnyL_take (i := 9) (v := ?v9_16) rfl (by kernel_rfl) (by kernel_rfl) (by kernel_rfl) (fun _ _ _ h => h) (Or.inl ⟨by rfl, ?hy9_16⟩) (by assumption) ?rest9_16
                case hy9_16 => (intro w9 hSw; clear hSw; go_simp; try with_reducible rfl)
                try simp only [Act.put, List.setIfInBounds_toArray, List.set_cons_zero, List.set_cons_succ, List.getElem_toArray, List.getElem_cons_zero, List.getElem_cons_succ]
                refine wpAnyL_take (i := 10) (v := ?v10_17) rfl (by kernel_rfl) (by kernel_rfl) (by kernel_rfl) (fun _ _ _ h => h) (Or.inl ⟨by rfl, ?hy10_17⟩) (by assumption) ?rest10_17
                case hy10_17 => (intro w9 hSw; clear hSw; go_simp; try with_reducible rfl)
                try simp only [Act.put, List.setIfInBounds_toArray, List.set_cons_zero, List.set_cons_succ, List.getElem_toArray, List.getElem_cons_zero, List.getElem_cons_succ]
                obtain ⟨q0, q1, q2, q3⟩ := Tbx.cells (S4.xb (by decide))
                refine wpAnyL_ready (rs := [11]) (by kernel_rfl) (by simp) ?_
                refine AllReadyL.lat (by rfl) rfl (fun K hK => ?_) AllReadyL.nil
                go_simp
                clear q0 q1 q2 q3
                refine hK.out _ _ trivial (fun _ => ?_)
                clear hK K
                try simp only [Act.put, List.setIfInBounds_toArray, List.set_cons_zero, List.set_cons_succ, List.getElem_toArray, List.getElem_cons_zero, List.getElem_cons_succ]
                refine wpAnyL_done (by kernel_rfl) ?_ _
                have S10 := (S4.mv (Gr.of (grown_setCell (World.grownBy.refl wF7 _) 1 (.slice AF7 (e ++ [(bey : Int)]).length cF7)) S4.kb S4.b0.2.2.1)).fillB (Blk.set_ (S4.xb (by decide)) 1 (.slice AF7 (e ++ [(bey : Int)]).length cF7))
                rw [show (e ++ [(bey : Int)]).length = e.length + 1 by simp] at S10
                exact key _ _ _ _ _ _ _ _ _ _ _ _ _ _ _ _ _ _ _ _ _ _ _ _ _ _ _ _ _ _ _ _ _ _ _ _ _ _ _ _ _ _ _ _ _ _ _ _ _ _ _ _ _ _ _ _ _ _ _ _ _ _ _ _ _ _ _ _ _ _ _ _ _ _ _ _ _ _ _ _ _ _ _ _ _ _ _ _ S10
            · as_aux_lemma =>
                have d3 : ((n - f : Nat) : Int) < 2 := by have := HF.out; omega
                obtain ⟨iy, hiy⟩ : ∃ i, n - f = i := ⟨_, rfl⟩
                rw [hiy] at IX d3 ⊢
                have HIy := Lib.hid hiy
                clear hiy
                have hsrc : NumF wb2 wb2.heap.size (some ⟨gxr, 0, none⟩) iy YL9 := by
                  have h9 := RX.nums (c := iy) (B := wb2.heap.size) 0 iy (by rw [IX.len]; omega) (Nat.le_refl _) (by unfold maxLen; omega) RX.lt
                  rw [List.drop_zero, List.take_of_length_le (by rw [IX.len]; exact Nat.le_refl _)] at h9
                  exact h9
                have hXl := Lib.hid IX.len
                have hXw := Lib.hid IX.wd
                have HDL := Lib.hid HK.out.el
                clear RX IX
                obtain ⟨p0, p1, _, _⟩ := Tbx.cells (S9.xb (by decide))
                go_upto_region 22 with (at_builtin; refine wpList_appF _ rfl _ _ rfl w.heap.size Ae ce e rfl (S9.oe (by decide)) _ _ _ YL9 (by rw [hXl.out]; rfl) hsrc (by have := HDL.out; rw [hXl.out]; omega) S9.bw.size ?_; intro AE9 cE9 wE9 hO9 hg9 ho9; have T9 := (S9.tags 2).mv (Gr.ofA hg9 (S9.tags 2).te (fun x q => ((S9.tags 2).le x q).1)); obtain ⟨r0, r1, r2, r3⟩ := Tbx.cells (T9.xb (by decide)))
                have hT := S9.te.push ho9 (fun x q => (S9.le x q).2)
                have S10 := T9.fillE hO9 hT
                have S11 := (S10.mv (Gr.of (grown_setCell (World.grownBy.refl wE9 _) 1 (.slice AE9 (e ++ YL9).length cE9)) S10.kb S10.b0.2.2.1)).fillB (Blk.set_ (S10.xb (by decide)) 1 (.slice AE9 (e ++ YL9).length cE9))
                clear S9 S10 T9 hT hO9 hg9 ho9 hsrc p0 p1 r0 r1 r2 r3
                have hle : (e ++ YL9).length = e.length + YL9.length := List.length_append
                rw [hle] at S11
                have HLE := Lib.hid hle
                clear hle
                obtain ⟨W11, hW11⟩ : ∃ W, wE9.setCell ⟨bb, 1, none⟩ (.slice AE9 (e.length + YL9.length) cE9) = W := ⟨_, rfl⟩
                rw [hW11] at S11 ⊢
                clear hW11
                rw [show d.length + 1 = (d ++ [(bex : Int)]).length by simp] at S11
                rw [← HLE.out] at S11
                have K2 := BdK.next (L := L3x) (M := L3x) (e2 := (e ++ YL9)) (gs2 := gs) (r := ⟨some ⟨gvx, 0, none⟩, ix, vx, t1x⟩) (x := (bex : Int)) HK.out hlt HX9.out (by have := bbx; omega) HVX.out HTX.out HM9.out HML.out (by rw [List.length_append, hXl.out, HK.out.el]; have := HIy.out; have := HF.out; omega) (fun j hj _ => by rw [D_append, HK.out.el, if_pos (by omega)]) (fun h9 => by rw [D_append, HK.out.el, if_neg (by omega), show k - min k (n - 1) = 0 by omega, if_neg c3]; have h8 := HIXY.out.at_ 0 (by have := HF.out; omega); rw [h8]; show fa (D L3x (k * n + (f + 0))) = fa (D L3x (k * n + (k + 1))); rw [Nat.add_zero, HF.out]) (wd_app9 HK.out.ew hXw.out) (by rw [HK.out.gl]; have := HF.out; omega) (fun j q _ hq => hq) (fun q hq => absurd (List.getElem?_eq_some_iff.1 hq).1 (by have := HK.out.gl; omega)) (fun _ => rfl)
                have HK2 := Lib.hid K2
                clear K2
                go_wp2_with fail
                go_roundw
                case rel => exact ⟨k + 1, (fun i => if i = k + 1 then L3x else Ls i), (fun i => if i = k then L3x else Ms i), (tgU own9 wb2.heap.size 2), s3x, g3x, cap3x, A3x, AF9, AE9, AR9, Ar, c3x, cF9, cE9, cR9, cr, (d ++ [(bex : Int)]), (e ++ YL9), (hs ++ [⟨some ⟨gvx, 0, none⟩, ix, vx, t1x⟩]), gs, by omega, (by rw [HF.out]), by simp, by simp, (by show PS _ _ _ _ _ _ _ _ _ _ _ _ _ _ _ _ (if k + 1 = k + 1 then L3x else Ls (k + 1)) _ _ _ _ _ _ _ _ _ _ _ _ _ _; rw [if_pos rfl]; exact S11), HK2.out, (by show (if 0 = k + 1 then L3x else Ls 0) = l; rw [if_neg (by omega)]; exact HL0.out)⟩
                case measure => have h9 := HF.out; simp [intOf]; omega
        refine wp_region_late [11] (S := fun w9 : World => Rbx w9 ghx (some ⟨gvx, 0, none⟩) ix ix t1x ∧ Tbx w9 bb Ad d.length cd Ae e.length ce) (by kernel_rfl) ⟨DH, S4.xb (by decide)⟩ (fun hS => ?_)
        generalize wex.drew = wlx at hS S4 F4 DH  bz ⊢
        refine wpAnyL_take (i := 0) (v := ?v0_18) rfl (by kernel_rfl) (by kernel_rfl) (by kernel_rfl) (fun _ _ _ h => h) (Or.inl ⟨by rfl, ?hy0_18⟩) (by assumption) ?rest0_18
        case hy0_18 => (intro w9 hSw; clear hSw; go_simp; try with_reducible rfl)
        try simp only [Act.put, List.setIfInBounds_toArray, List.set_cons_zero, List.set_cons_succ, List.getElem_toArray, List.getElem_cons_zero, List.getElem_cons_succ]
        refine wpAnyL_take (i := 1) (v := ?v1_19) rfl (by kernel_rfl) (by kernel_rfl) (by kernel_rfl) (fun _ _ _ h => h) (Or.inl ⟨by rfl, ?hy1_19⟩) (by assumption) ?rest1_19
        case hy1_19 => (intro w9 hSw; obtain ⟨ma1, ma2⟩ := hSw; obtain ⟨z0, z1, _, _⟩ := Tbx.cells ma2; obtain ⟨y0, y1, _, _⟩ := Rbx.cells ma1; go_simp; try with_reducible rfl)
        try simp only [Act.put, List.setIfInBounds_toArray, List.set_cons_zero, List.set_cons_succ, List.getElem_toArray, List.getElem_cons_zero, List.getElem_cons_succ]
        refine wpAnyL_take (i := 4) (v := ?v4_20) rfl (by kernel_rfl) (by kernel_rfl) (by kernel_rfl) (fun _ _ _ h => h) (Or.inl ⟨by rfl, ?hy4_20⟩) (by assumption) ?rest4_20
        case hy4_20 => (intro w9 hSw; clear hSw; go_simp; try with_reducible rfl)
        try simp only [Act.put, List.setIfInBounds_toArray, List.set_cons_zero, List.set_cons_succ, List.getElem_toArray, List.getElem_cons_zero, List.getElem_cons_succ]
        refine wpAnyL_take (i := 5) (v := ?v5_21) rfl (by kernel_rfl) (by kernel_rfl) (by kernel_rfl) (fun _ _ _ h => h) (Or.inl ⟨by rfl, ?hy5_21⟩) (by assumption) ?rest5_21
        case hy5_21 => (intro w9 hSw; obtain ⟨ma1, ma2⟩ := hSw; obtain ⟨z0, z1, _, _⟩ := Tbx.cells ma2; obtain ⟨y0, y1, _, _⟩ := Rbx.cells ma1; go_simp; try with_reducible rfl)
        try simp only [Act.put, List.setIfInBounds_toArray, List.set_cons_zero, List.set_cons_succ, List.getElem_toArray, List.getElem_cons_zero, List.getElem_cons_succ]
        refine wpAnyL_take (i := 6) (v := ?v6_22) rfl (by kernel_rfl) (by kernel_rfl) (by kernel_rfl) (fun _ _ _ h => h) (Or.inl ⟨by rfl, ?hy6_22⟩) (by assumption) ?rest6_22
        case hy6_22 => (intro w9 hSw; clear hSw; go_simp; try with_reducible rfl)
        try simp only [Act.put, List.setIfInBounds_toArray, List.set_cons_zero, List.set_cons_succ, List.getElem_toArray, List.getElem_cons_zero, List.getElem_cons_succ]
        refine wpAnyL_ready (rs := [2, 7]) (by kernel_rfl) (by simp) ?_
        refine (AllReadyL.cons rfl (fun K hK => ?_) (AllReadyL.cons rfl (fun K hK => ?_) AllReadyL.nil))
        · go_simp
          have S5 := S4.tags 0
          replace hgh := tgU_lt (i := 0) (n := wlx.heap.size) hgh (Blk.lt DH)
          replace T0 := T0.up 0 (n := wlx.heap.size) (fun x hx => by injection hx with hx; subst hx; exact fl_lt F4 i0x)
          have DQ := Blk.new wlx [.slice (some ⟨gvx, 0, none⟩) ix ix, .float .f64 t1x] 51
          have hgq := tgU_at ownx wlx.heap.size 0
          obtain ⟨onx1, ho9⟩ : ∃ o, tgU ownx wlx.heap.size 0 = o := ⟨_, rfl⟩
          rw [ho9] at S5 hgh T0 hgq
          clear ho9
          replace S4 := S5
          clear S5
          obtain ⟨HR9, eR9⟩ : ∃ H, wlx.heap.size = H := ⟨_, rfl⟩
          rw [eR9] at DQ hgq
          have hbA := (Below.refl _ wlx).alloc (Nat.le_refl _) (.cells #[.slice (some ⟨gvx, 0, none⟩) ix ix, .float .f64 t1x] 51)
          replace S4 := S4.on hbA
          replace F4 := F4.on hbA
          replace DH := DH.on hbA
          clear hbA
          replace bz := bz.alloc bz.size (.cells #[.slice (some ⟨gvx, 0, none⟩) ix ix, .float .f64 t1x] 51)
          try simp only [eR9] at ⊢
          clear eR9
          generalize wlx.alloc (.cells #[.slice (some ⟨gvx, 0, none⟩) ix ix, .float .f64 t1x] 51) = wzx2 at S4 F4 DH DQ bz ⊢
          clear hS; refine hK.out _ _ ⟨DH, S4.xb (by decide)⟩ (fun hS => ?_); clear hK K
          try simp only [Act.put, List.setIfInBounds_toArray, List.set_cons_zero, List.set_cons_succ, List.getElem_toArray, List.getElem_cons_zero, List.getElem_cons_succ]
          refine wpAnyL_ready (rs := [3, 7]) (by kernel_rfl) (by simp) ?_
          refine (AllReadyL.cons rfl (fun K hK => ?_) (AllReadyL.cons rfl (fun K hK => ?_) AllReadyL.nil))
          · have q0 := Blk.cell DQ 0 rfl
            have q1 := Blk.cell DQ 1 rfl
            refine step_appR wzx2 rfl _ _ (by rfl) w.heap.size Al cl hs hs.length rfl (by rfl) (S4.ol (by decide)) _ 1 ⟨some ⟨gvx, 0, none⟩, ix, vx, t1x⟩ (by rfl) (by show _ = some (Value.slice _ vx.length _); rw [hvlx.out]; exact q0) (by rw [add_at]; exact q1) (by have := hHL.out; omega) S4.bw.size ?_
            intro AR3 cR3 wR3 hOR hgR hoR
            clear q0 q1 DQ hgq
            have hT := S4.tl.push hoR (fun x q => (S4.ll x q).2)
            have S5 := S4.tags 3
            replace hgh := tgU_lt (i := 3) (n := wzx2.heap.size) hgh (Blk.lt DH)
            replace T0 := T0.up 3 (n := wzx2.heap.size) (fun x hx => by injection hx with hx; subst hx; exact fl_lt F4 i0x)
            obtain ⟨onx4, ho9⟩ : ∃ o, tgU onx1 wzx2.heap.size 3 = o := ⟨_, rfl⟩
            rw [ho9] at S5 hgh T0 hT
            clear ho9
            have hG : Gr w onx4 3 wzx2 wR3 := Gr.ofA hgR S5.tl (fun x q => (S5.ll x q).1)
            replace DH := hG.blk DH hgh (by decide)
            replace F4 := hG.fl F4 T0 (by decide)
            clear bz
            have bz := Below.refl wR3.heap.size wR3
            have F42 : FL wR3 (some ⟨gvx, 0, none⟩) vx.length ix vx := by rw [hvlx.out]; exact F4
            replace S4 := (S5.mv hG).fillL (r := ⟨some ⟨gvx, 0, none⟩, ix, vx, t1x⟩) hOR hT F42 btx T0 (fun x hx => by injection hx with hx; subst hx; exact fl_lt F4 i0x)
            clear F42 S5 hG hT hOR hgR hoR
            clear hS; refine hK.out _ _ ⟨DH, S4.xb (by decide)⟩ (fun hS => ?_); clear hK K
            try simp only [Act.put, List.setIfInBounds_toArray, List.set_cons_zero, List.set_cons_succ, List.getElem_toArray, List.getElem_cons_zero, List.getElem_cons_succ]
            refine wpAnyL_ready (rs := [7]) (by kernel_rfl) (by simp) ?_
            refine AllReadyL.cons rfl (fun K hK => ?_) AllReadyL.nil
            go_simp
            have S5 := S4.tags 0
            replace hgh := tgU_lt (i := 0) (n := wR3.heap.size) hgh (Blk.lt DH)
            replace T0 := T0.up 0 (n := wR3.heap.size) (fun x hx => by injection hx with hx; subst hx; exact fl_lt F4 i0x)
            have FS := RowF.one wR3 (bex : Int)
            have hgf := tgU_at onx4 wR3.heap.size 0
            obtain ⟨onx5, ho9⟩ : ∃ o, tgU onx4 wR3.heap.size 0 = o := ⟨_, rfl⟩
            rw [ho9] at S5 hgh T0 hgf
            clear ho9
            replace S4 := S5
            clear S5
            obtain ⟨HF9, eF9⟩ : ∃ H, wR3.heap.size = H := ⟨_, rfl⟩
            rw [eF9] at FS hgf
            have hbA := (Below.refl _ wR3).alloc (Nat.le_refl _) (.cells #[.float .f64 bex] 49)
            replace S4 := S4.on hbA
            replace F4 := F4.on hbA
            replace DH := DH.on hbA
            clear hbA
            replace bz := bz.alloc bz.size (.cells #[.float .f64 bex] 49)
            replace FS : RowF (wR3.alloc (.cells #[.float .f64 bex] 49)) HF9 [(bex : Int)] := FS
            try simp only [eF9] at ⊢
            clear eF9
            generalize wR3.alloc (.cells #[.float .f64 bex] 49) = wzx6 at S4 F4 DH FS bz ⊢
            clear hS; refine hK.out _ _ ⟨DH, S4.xb (by decide)⟩ (fun hS => ?_); clear hK K
            try simp only [Act.put, List.setIfInBounds_toArray, List.set_cons_zero, List.set_cons_succ, List.getElem_toArray, List.getElem_cons_zero, List.getElem_cons_succ]
            refine wpAnyL_ready (rs := [8]) (by kernel_rfl) (by simp) ?_
            refine AllReadyL.cons rfl (fun K hK => ?_) AllReadyL.nil
            have hsrc : NumF wzx6 wzx6.heap.size (some ⟨HF9, 0, none⟩) 1 [(bex : Int)] := FS.nums (c := 1) (B := wzx6.heap.size) 0 1 (by simp) (by omega) (by unfold maxLen; omega) (RowF.lt FS)
            refine step_appF wzx6 rfl _ _ (by rfl) w.heap.size Ad cd d (by rfl) (S4.od (by decide)) _ (some ⟨HF9, 0, none⟩) 1 [(bex : Int)] (by rfl) hsrc (by have := hDL.out; simp; omega) S4.bw.size ?_
            intro AF7 cF7 wF7 hOF hgF hoF
            clear hsrc FS hgf
            have hT := S4.td.push hoF (fun x q => (S4.ld x q).2)
            have S5 := S4.tags 1
            replace hgh := tgU_lt (i := 1) (n := wzx6.heap.size) hgh (Blk.lt DH)
            replace T0 := T0.up 1 (n := wzx6.heap.size) (fun x hx => by injection hx with hx; subst hx; exact fl_lt F4 i0x)
            obtain ⟨onx8, ho9⟩ : ∃ o, tgU onx5 wzx6.heap.size 1 = o := ⟨_, rfl⟩
            rw [ho9] at S5 hgh T0 hT
            clear ho9
            have hG : Gr w onx8 1 wzx6 wF7 := Gr.ofA hgF S5.td (fun x q => (S5.ld x q).1)
            replace DH := hG.blk DH hgh (by decide)
            replace F4 := hG.fl F4 T0 (by decide)
            clear bz
            have bz := Below.refl wF7.heap.size wF7
            replace S4 := (S5.mv hG).fillD hOF hT
            clear S5 hG hT hOF hgF hoF
            clear hS; refine hK.out _ _ ⟨DH, S4.xb (by decide)⟩ (fun hS => ?_); clear hK K
            try simp only [Act.put, List.setIfInBounds_toArray, List.set_cons_zero, List.set_cons_succ, List.getElem_toArray, List.getElem_cons_zero, List.getElem_cons_succ]
            refine wpAnyL_take (i := 9) (v := ?v9_23) rfl (by kernel_rfl) (by kernel_rfl) (by kernel_rfl) (fun _ _ _ h => h) (Or.inl ⟨by rfl, ?hy9_23⟩) (by assumption) ?rest9_23
            case hy9_23 => (intro w9 hSw; clear hSw; go_simp; try with_reducible rfl)
            try simp only [Act.put, List.setIfInBounds_toArray, List.set_cons_zero, List.set_cons_succ, List.getElem_toArray, List.getElem_cons_zero, List.getElem_cons_succ]
            refine wpAnyL_take (i := 10) (v := ?v10_24) rfl (by kernel_rfl) (by kernel_rfl) (by kernel_rfl) (fun _ _ _ h => h) (Or.inl ⟨by rfl, ?hy10_24⟩) (by assumption) ?rest10_24
            case hy10_24 => (intro w9 hSw; clear hSw; go_simp; try with_reducible rfl)
            try simp only [Act.put, List.setIfInBounds_toArray, List.set_cons_zero, List.set_cons_succ, List.getElem_toArray, List.getElem_cons_zero, List.getElem_cons_succ]
            obtain ⟨q0, q1, q2, q3⟩ := Tbx.cells (S4.xb (by decide))
            refine wpAnyL_ready (rs := [11]) (by kernel_rfl) (by simp) ?_
            refine AllReadyL.lat (by rfl) rfl (fun K hK => ?_) AllReadyL.nil
            go_simp
            clear q0 q1 q2 q3
            refine hK.out _ _ trivial (fun _ => ?_)
            clear hK K
            try simp only [Act.put, List.setIfInBounds_toArray, List.set_cons_zero, List.set_cons_succ, List.getElem_toArray, List.getElem_cons_zero, List.getElem_cons_succ]
            refine wpAnyL_done (by kernel_rfl) ?_ _
            have S10 := (S4.mv (Gr.of (grown_setCell (World.grownBy.refl wF7 _) 0 (.slice AF7 (d ++ [(bex : Int)]).length cF7)) S4.kb S4.b0.2.2.1)).fillB (Blk.set_ (S4.xb (by decide)) 0 (.slice AF7 (d ++ [(bex : Int)]).length cF7))
            rw [show (d ++ [(bex : Int)]).length = d.length + 1 by simp] at S10
            exact key _ _ _ _ _ _ _ _ _ _ _ _ _ _ _ _ _ _ _ _ _ _ _ _ _ _ _ _ _ _ _ _ _ _ _ _ _ _ _ _ _ _ _ _ _ _ _ _ _ _ _ _ _ _ _ _ _ _ _ _ _ _ _ _ _ _ _ _ _ _ _ _ _ _ _ _ _ _ _ _ _ _ _ _ _ _ _ _ S10
          go_simp
          have S5 := S4.tags 0
          replace hgh := tgU_lt (i := 0) (n := wzx2.heap.size) hgh (Blk.lt DH)
          replace T0 := T0.up 0 (n := wzx2.heap.size) (fun x hx => by injection hx with hx; subst hx; exact fl_lt F4 i0x)
          replace hgq := tgU_lt (i := 0) (n := wzx2.heap.size) hgq (Blk.lt DQ)
          have FS := RowF.one wzx2 (bex : Int)
          have hgf := tgU_at onx1 wzx2.heap.size 0
          obtain ⟨onx3, ho9⟩ : ∃ o, tgU onx1 wzx2.heap.size 0 = o := ⟨_, rfl⟩
          rw [ho9] at S5 hgh T0 hgq hgf
          clear ho9
          replace S4 := S5
          clear S5
          obtain ⟨HF9, eF9⟩ : ∃ H, wzx2.heap.size = H := ⟨_, rfl⟩
          rw [eF9] at FS hgf
          have hbA := (Below.refl _ wzx2).alloc (Nat.le_refl _) (.cells #[.float .f64 bex] 49)
          replace S4 := S4.on hbA
          replace F4 := F4.on hbA
          replace DH := DH.on hbA
          replace DQ := DQ.on hbA
          clear hbA
          replace bz := bz.alloc bz.size (.cells #[.float .f64 bex] 49)
          replace FS : RowF (wzx2.alloc (.cells #[.float .f64 bex] 49)) HF9 [(bex : Int)] := FS
          try simp only [eF9] at ⊢
          clear eF9
          generalize wzx2.alloc (.cells #[.float .f64 bex] 49) = wzx4 at S4 F4 DH DQ FS bz ⊢
          clear hS; refine hK.out _ _ ⟨DH, S4.xb (by decide)⟩ (fun hS => ?_); clear hK K
          try simp only [Act.put, List.setIfInBounds_toArray, List.set_cons_zero, List.set_cons_succ, List.getElem_toArray, List.getElem_cons_zero, List.getElem_cons_succ]
          refine wpAnyL_ready (rs := [3]) (by kernel_rfl) (by simp) ?_
          refine AllReadyL.cons rfl (fun K hK => ?_) AllReadyL.nil
          have q0 := Blk.cell DQ 0 rfl
          have q1 := Blk.cell DQ 1 rfl
          refine step_appR wzx4 rfl _ _ (by rfl) w.heap.size Al cl hs hs.length rfl (by rfl) (S4.ol (by decide)) _ 1 ⟨some ⟨gvx, 0, none⟩, ix, vx, t1x⟩ (by rfl) (by show _ = some (Value.slice _ vx.length _); rw [hvlx.out]; exact q0) (by rw [add_at]; exact q1) (by have := hHL.out; omega) S4.bw.size ?_
          intro AR5 cR5 wR5 hOR hgR hoR
          clear q0 q1 DQ hgq
          have hT := S4.tl.push hoR (fun x q => (S4.ll x q).2)
          have S5 := S4.tags 3
          replace hgh := tgU_lt (i := 3) (n := wzx4.heap.size) hgh (Blk.lt DH)
          replace T0 := T0.up 3 (n := wzx4.heap.size) (fun x hx => by injection hx with hx; subst hx; exact fl_lt F4 i0x)
          replace hgf := tgU_lt (i := 3) (n := wzx4.heap.size) hgf (RowF.lt FS)
          obtain ⟨onx6, ho9⟩ : ∃ o, tgU onx3 wzx4.heap.size 3 = o := ⟨_, rfl⟩
          rw [ho9] at S5 hgh T0 hgf hT
          clear ho9
          have hG : Gr w onx6 3 wzx4 wR5 := Gr.ofA hgR S5.tl (fun x q => (S5.ll x q).1)
          replace DH := hG.blk DH hgh (by decide)
          replace F4 := hG.fl F4 T0 (by decide)
          replace FS := hG.row FS hgf (by decide)
          clear bz
          have bz := Below.refl wR5.heap.size wR5
          have F42 : FL wR5 (some ⟨gvx, 0, none⟩) vx.length ix vx := by rw [hvlx.out]; exact F4
          replace S4 := (S5.mv hG).fillL (r := ⟨some ⟨gvx, 0, none⟩, ix, vx, t1x⟩) hOR hT F42 btx T0 (fun x hx => by injection hx with hx; subst hx; exact fl_lt F4 i0x)
          clear F42 S5 hG hT hOR hgR hoR
          clear hS; refine hK.out _ _ ⟨DH, S4.xb (by decide)⟩ (fun hS => ?_); clear hK K
          try simp only [Act.put, List.setIfInBounds_toArray, List.set_cons_zero, List.set_cons_succ, List.getElem_toArray, List.getElem_cons_zero, List.getElem_cons_succ]
          refine wpAnyL_ready (rs := [8]) (by kernel_rfl) (by simp) ?_
          refine AllReadyL.cons rfl (fun K hK => ?_) AllReadyL.nil
          have hsrc : NumF wR5 wR5.heap.size (some ⟨HF9, 0, none⟩) 1 [(bex : Int)] := FS.nums (c := 1) (B := wR5.heap.size) 0 1 (by simp) (by omega) (by unfold maxLen; omega) (RowF.lt FS)
          refine step_appF wR5 rfl _ _ (by rfl) w.heap.size Ad cd d (by rfl) (S4.od (by decide)) _ (some ⟨HF9, 0, none⟩) 1 [(bex : Int)] (by rfl) hsrc (by have := hDL.out; simp; omega) S4.bw.size ?_
          intro AF7 cF7 wF7 hOF hgF hoF
          clear hsrc FS hgf
          have hT := S4.td.push hoF (fun x q => (S4.ld x q).2)
          have S5 := S4.tags 1
          replace hgh := tgU_lt (i := 1) (n := wR5.heap.size) hgh (Blk.lt DH)
          replace T0 := T0.up 1 (n := wR5.heap.size) (fun x hx => by injection hx with hx; subst hx; exact fl_lt F4 i0x)
          obtain ⟨onx8, ho9⟩ : ∃ o, tgU onx6 wR5.heap.size 1 = o := ⟨_, rfl⟩
          rw [ho9] at S5 hgh T0 hT
          clear ho9
          have hG : Gr w onx8 1 wR5 wF7 := Gr.ofA hgF S5.td (fun x q => (S5.ld x q).1)
          replace DH := hG.blk DH hgh (by decide)
          replace F4 := hG.fl F4 T0 (by decide)
          clear bz
          have bz := Below.refl wF7.heap.size wF7
          replace S4 := (S5.mv hG).fillD hOF hT
          clear S5 hG hT hOF hgF hoF
          clear hS; refine hK.out _ _ ⟨DH, S4.xb (by decide)⟩ (fun hS => ?_); clear hK K
          try simp only [Act.put, List.setIfInBounds_toArray, List.set_cons_zero, List.set_cons_succ, List.getElem_toArray, List.getElem_cons_zero, List.getElem_cons_succ]
          refine wpAnyL_take (i := 9) (v := ?v9_25) rfl (by kernel_rfl) (by kernel_rfl) (by kernel_rfl) (fun _ _ _ h => h) (Or.inl ⟨by rfl, ?hy9_25⟩) (by assumption) ?rest9_25
          case hy9_25 => (intro w9 hSw; clear hSw; go_simp; try with_reducible rfl)
          try simp only [Act.put, List.setIfInBounds_toArray, List.set_cons_zero, List.set_cons_succ, List.getElem_toArray, List.getElem_cons_zero, List.getElem_cons_succ]
          refine wpAnyL_take (i := 10) (v := ?v10_26) rfl (by kernel_rfl) (by kernel_rfl) (by kernel_rfl) (fun _ _ _ h => h) (Or.inl ⟨by rfl, ?hy10_26⟩) (by assumption) ?rest10_26
          case hy10_26 => (intro w9 hSw; clear hSw; go_simp; try with_reducible rfl)
          try simp only [Act.put, List.setIfInBounds_toArray, List.set_cons_zero, List.set_cons_succ, List.getElem_toArray, List.getElem_cons_zero, List.getElem_cons_succ]
          obtain ⟨q0, q1, q2, q3⟩ := Tbx.cells (S4.xb (by decide))
          refine wpAnyL_ready (rs := [11]) (by kernel_rfl) (by simp) ?_
          refine AllReadyL.lat (by rfl) rfl (fun K hK => ?_) AllReadyL.nil
          go_simp
          clear q0 q1 q2 q3
          refine hK.out _ _ trivial (fun _ => ?_)
          clear hK K
          try simp only [Act.put, List.setIfInBounds_toArray, List.set_cons_zero, List.set_cons_succ, List.getElem_toArray, List.getElem_cons_zero, List.getElem_cons_succ]
          refine wpAnyL_done (by kernel_rfl) ?_ _
          have S10 := (S4.mv (Gr.of (grown_setCell (World.grownBy.refl wF7 _) 0 (.slice AF7 (d ++ [(bex : Int)]).length cF7)) S4.kb S4.b0.2.2.1)).fillB (Blk.set_ (S4.xb (by decide)) 0 (.slice AF7 (d ++ [(bex : Int)]).length cF7))
          rw [show (d ++ [(bex : Int)]).length = d.length + 1 by simp] at S10
          exact key _ _ _ _ _ _ _ _ _ _ _ _ _ _ _ _ _ _ _ _ _ _ _ _ _ _ _ _ _ _ _ _ _ _ _ _ _ _ _ _ _ _ _ _ _ _ _ _ _ _ _ _ _ _ _ _ _ _ _ _ _ _ _ _ _ _ _ _ _ _ _ _ _ _ _ _ _ _ _ _ _ _ _ _ _ _ _ _ S10
        go_simp
        have S5 := S4.tags 0
        replace hgh := tgU_lt (i := 0) (n := wlx.heap.size) hgh (Blk.lt DH)
        replace T0 := T0.up 0 (n := wlx.heap.size) (fun x hx => by injection hx with hx; subst hx; exact fl_lt F4 i0x)
        have FS := RowF.one wlx (bex : Int)
        have hgf := tgU_at ownx wlx.heap.size 0
        obtain ⟨onx1, ho9⟩ : ∃ o, tgU ownx wlx.heap.size 0 = o := ⟨_, rfl⟩
        rw [ho9] at S5 hgh T0 hgf
        clear ho9
        replace S4 := S5
        clear S5
        obtain ⟨HF9, eF9⟩ : ∃ H, wlx.heap.size = H := ⟨_, rfl⟩
        rw [eF9] at FS hgf
        have hbA := (Below.refl _ wlx).alloc (Nat.le_refl _) (.cells #[.float .f64 bex] 49)
        replace S4 := S4.on hbA
        replace F4 := F4.on hbA
        replace DH := DH.on hbA
        clear hbA
        replace bz := bz.alloc bz.size (.cells #[.float .f64 bex] 49)
        replace FS : RowF (wlx.alloc (.cells #[.float .f64 bex] 49)) HF9 [(bex : Int)] := FS
        try simp only [eF9] at ⊢
        clear eF9
        generalize wlx.alloc (.cells #[.float .f64 bex] 49) = wzx2 at S4 F4 DH FS bz ⊢
        clear hS; refine hK.out _ _ ⟨DH, S4.xb (by decide)⟩ (fun hS => ?_); clear hK K
        try simp only [Act.put, List.setIfInBounds_toArray, List.set_cons_zero, List.set_cons_succ, List.getElem_toArray, List.getElem_cons_zero, List.getElem_cons_succ]
        refine wpAnyL_ready (rs := [2]) (by kernel_rfl) (by simp) ?_
        refine AllReadyL.cons rfl (fun K hK => ?_) AllReadyL.nil
        go_simp
        have S5 := S4.tags 0
        replace hgh := tgU_lt (i := 0) (n := wzx2.heap.size) hgh (Blk.lt DH)
        replace T0 := T0.up 0 (n := wzx2.heap.size) (fun x hx => by injection hx with hx; subst hx; exact fl_lt F4 i0x)
        replace hgf := tgU_lt (i := 0) (n := wzx2.heap.size) hgf (RowF.lt FS)
        have DQ := Blk.new wzx2 [.slice (some ⟨gvx, 0, none⟩) ix ix, .float .f64 t1x] 51
        have hgq := tgU_at onx1 wzx2.heap.size 0
        obtain ⟨onx3, ho9⟩ : ∃ o, tgU onx1 wzx2.heap.size 0 = o := ⟨_, rfl⟩
        rw [ho9] at S5 hgh T0 hgf hgq
        clear ho9
        replace S4 := S5
        clear S5
        obtain ⟨HR9, eR9⟩ : ∃ H, wzx2.heap.size = H := ⟨_, rfl⟩
        rw [eR9] at DQ hgq
        have hbA := (Below.refl _ wzx2).alloc (Nat.le_refl _) (.cells #[.slice (some ⟨gvx, 0, none⟩) ix ix, .float .f64 t1x] 51)
        replace S4 := S4.on hbA
        replace F4 := F4.on hbA
        replace DH := DH.on hbA
        replace FS := FS.on hbA
        clear hbA
        replace bz := bz.alloc bz.size (.cells #[.slice (some ⟨gvx, 0, none⟩) ix ix, .float .f64 t1x] 51)
        try simp only [eR9] at ⊢
        clear eR9
        generalize wzx2.alloc (.cells #[.slice (some ⟨gvx, 0, none⟩) ix ix, .float .f64 t1x] 51) = wzx4 at S4 F4 DH FS DQ bz ⊢
        clear hS; refine hK.out _ _ ⟨DH, S4.xb (by decide)⟩ (fun hS => ?_); clear hK K
        try simp only [Act.put, List.setIfInBounds_toArray, List.set_cons_zero, List.set_cons_succ, List.getElem_toArray, List.getElem_cons_zero, List.getElem_cons_succ]
        refine wpAnyL_ready (rs := [3]) (by kernel_rfl) (by simp) ?_
        refine AllReadyL.cons rfl (fun K hK => ?_) AllReadyL.nil
        have q0 := Blk.cell DQ 0 rfl
        have q1 := Blk.cell DQ 1 rfl
        refine step_appR wzx4 rfl _ _ (by rfl) w.heap.size Al cl hs hs.length rfl (by rfl) (S4.ol (by decide)) _ 1 ⟨some ⟨gvx, 0, none⟩, ix, vx, t1x⟩ (by rfl) (by show _ = some (Value.slice _ vx.length _); rw [hvlx.out]; exact q0) (by rw [add_at]; exact q1) (by have := hHL.out; omega) S4.bw.size ?_
        intro AR5 cR5 wR5 hOR hgR hoR
        clear q0 q1 DQ hgq
        have hT := S4.tl.push hoR (fun x q => (S4.ll x q).2)
        have S5 := S4.tags 3
        replace hgh := tgU_lt (i := 3) (n := wzx4.heap.size) hgh (Blk.lt DH)
        replace T0 := T0.up 3 (n := wzx4.heap.size) (fun x hx => by injection hx with hx; subst hx; exact fl_lt F4 i0x)
        replace hgf := tgU_lt (i := 3) (n := wzx4.heap.size) hgf (RowF.lt FS)
        obtain ⟨onx6, ho9⟩ : ∃ o, tgU onx3 wzx4.heap.size 3 = o := ⟨_, rfl⟩
        rw [ho9] at S5 hgh T0 hgf hT
        clear ho9
        have hG : Gr w onx6 3 wzx4 wR5 := Gr.ofA hgR S5.tl (fun x q => (S5.ll x q).1)
        replace DH := hG.blk DH hgh (by decide)
        replace F4 := hG.fl F4 T0 (by decide)
        replace FS := hG.row FS hgf (by decide)
        clear bz
        have bz := Below.refl wR5.heap.size wR5
        have F42 : FL wR5 (some ⟨gvx, 0, none⟩) vx.length ix vx := by rw [hvlx.out]; exact F4
        replace S4 := (S5.mv hG).fillL (r := ⟨some ⟨gvx, 0, none⟩, ix, vx, t1x⟩) hOR hT F42 btx T0 (fun x hx => by injection hx with hx; subst hx; exact fl_lt F4 i0x)
        clear F42 S5 hG hT hOR hgR hoR
        clear hS; refine hK.out _ _ ⟨DH, S4.xb (by decide)⟩ (fun hS => ?_); clear hK K
        try simp only [Act.put, List.setIfInBounds_toArray, List.set_cons_zero, List.set_cons_succ, List.getElem_toArray, List.getElem_cons_zero, List.getElem_cons_succ]
        refine wpAnyL_ready (rs := [8]) (by kernel_rfl) (by simp) ?_
        refine AllReadyL.cons rfl (fun K hK => ?_) AllReadyL.nil
        have hsrc : NumF wR5 wR5.heap.size (some ⟨HF9, 0, none⟩) 1 [(bex : Int)] := FS.nums (c := 1) (B := wR5.heap.size) 0 1 (by simp) (by omega) (by unfold maxLen; omega) (RowF.lt FS)
        refine step_appF wR5 rfl _ _ (by rfl) w.heap.size Ad cd d (by rfl) (S4.od (by decide)) _ (some ⟨HF9, 0, none⟩) 1 [(bex : Int)] (by rfl) hsrc (by have := hDL.out; simp; omega) S4.bw.size ?_
        intro AF7 cF7 wF7 hOF hgF hoF
        clear hsrc FS hgf
        have hT := S4.td.push hoF (fun x q => (S4.ld x q).2)
        have S5 := S4.tags 1
        replace hgh := tgU_lt (i := 1) (n := wR5.heap.size) hgh (Blk.lt DH)
        replace T0 := T0.up 1 (n := wR5.heap.size) (fun x hx => by injection hx with hx; subst hx; exact fl_lt F4 i0x)
        obtain ⟨onx8, ho9⟩ : ∃ o, tgU onx6 wR5.heap.size 1 = o := ⟨_, rfl⟩
        rw [ho9] at S5 hgh T0 hT
        clear ho9
        have hG : Gr w onx8 1 wR5 wF7 := Gr.ofA hgF S5.td (fun x q => (S5.ld x q).1)
        replace DH := hG.blk DH hgh (by decide)
        replace F4 := hG.fl F4 T0 (by decide)
        clear bz
        have bz := Below.refl wF7.heap.size wF7
        replace S4 := (S5.mv hG).fillD hOF hT
        clear S5 hG hT hOF hgF hoF
        clear hS; refine hK.out _ _ ⟨DH, S4.xb (by decide)⟩ (fun hS => ?_); clear hK K
        try simp only [Act.put, List.setIfInBounds_toArray, List.set_cons_zero, List.set_cons_succ, List.getElem_toArray, List.getElem_cons_zero, List.getElem_cons_succ]
        refine wpAnyL_take (i := 9) (v := ?v9_27) rfl (by kernel_rfl) (by kernel_rfl) (by kernel_rfl) (fun _ _ _ h => h) (Or.inl ⟨by rfl, ?hy9_27⟩) (by assumption) ?rest9_27
        case hy9_27 => (intro w9 hSw; clear hSw; go_simp; try with_reducible rfl)
        try simp only [Act.put, List.setIfInBounds_toArray, List.set_cons_zero, List.set_cons_succ, List.getElem_toArray, List.getElem_cons_zero, List.getElem_cons_succ]
        refine wpAnyL_take (i := 10) (v := ?v10_28) rfl (by kernel_rfl) (by kernel_rfl) (by kernel_rfl) (fun _ _ _ h => h) (Or.inl ⟨by rfl, ?hy10_28⟩) (by assumption) ?rest10_28
        case hy10_28 => (intro w9 hSw; clear hSw; go_simp; try with_reducible rfl)
        try simp only [Act.put, List.setIfInBounds_toArray, List.set_cons_zero, List.set_cons_succ, List.getElem_toArray, List.getElem_cons_zero, List.getElem_cons_succ]
        obtain ⟨q0, q1, q2, q3⟩ := Tbx.cells (S4.xb (by decide))
        refine wpAnyL_ready (rs := [11]) (by kernel_rfl) (by simp) ?_
        refine AllReadyL.lat (by rfl) rfl (fun K hK => ?_) AllReadyL.nil
        go_simp
        clear q0 q1 q2 q3
        refine hK.out _ _ trivial (fun _ => ?_)
        clear hK K
        try simp only [Act.put, List.setIfInBounds_toArray, List.set_cons_zero, List.set_cons_succ, List.getElem_toArray, List.getElem_cons_zero, List.getElem_cons_succ]
        refine wpAnyL_done (by kernel_rfl) ?_ _
        have S10 := (S4.mv (Gr.of (grown_setCell (World.grownBy.refl wF7 _) 0 (.slice AF7 (d ++ [(bex : Int)]).length cF7)) S4.kb S4.b0.2.2.1)).fillB (Blk.set_ (S4.xb (by decide)) 0 (.slice AF7 (d ++ [(bex : Int)]).length cF7))
        rw [show (d ++ [(bex : Int)]).length = d.length + 1 by simp] at S10
        exact key _ _ _ _ _ _ _ _ _ _ _ _ _ _ _ _ _ _ _ _ _ _ _ _ _ _ _ _ _ _ _ _ _ _ _ _ _ _ _ _ _ _ _ _ _ _ _ _ _ _ _ _ _ _ _ _ _ _ _ _ _ _ _ _ _ _ _ _ _ _ _ _ _ _ _ _ _ _ _ _ _ _ _ _ _ _ _ _ S10
    · as_aux_lemma =>
        obtain rfl : k = n := by omega
        have k1 : ¬ (k : Int) < k := by omega
        obtain ⟨p0, p1, _, _⟩ := Tbx.cells (S.xb (by decide))
        obtain ⟨z0, z1, z2, z3⟩ := Tbx.cells (S.xz (by decide))
        have HK := Lib.hid K
        clear K
        go_wp2_with fail
        have DY := Blk.set_ (Blk.set_ (S.xz (by decide)) 0 (.slice Ad d.length cd)) 1 (.slice Ae e.length ce)
        have x0 := Blk.cell DY 0 rfl
        have x1 := Blk.cell DY 1 rfl
        have hG : Gr w own 10 wr ((wr.setCell ⟨w.heap.size + 1, 0, none⟩ (.slice Ad d.length cd)).setCell ⟨w.heap.size + 1, 1, none⟩ (.slice Ae e.length ce)) := Gr.of (grown_setCell (grown_setCell (World.grownBy.refl wr _) 0 _) 1 _) S.kz S.b0.2.1
        have T := S.mv hG
        refine bodyPost_ret (v := .tuple #[tV Ad d.length cd Ae e.length ce, .slice Al hs.length cl, .slice Ar gs.length cr, .int .i64 0]) (by simp [results, Try.results9, go_sem, x0, x1]) rfl ?_
        exact ⟨Ls, Ms, Ad, cd, d, Ae, ce, e, Al, cl, hs, Ar, cr, gs, rfl, (T.od (by decide)).fl HK.out.dw, (T.oe (by decide)).fl HK.out.ew, (T.ol (by decide)).rl (fun r hr => ⟨T.eh (by decide) r hr, (T.fh r hr).1⟩), (T.og (by decide)).rl (fun r hr => ⟨T.eg (by decide) r hr, (T.fg r hr).1⟩), HK.out, HL0.out, T.bw⟩
end Go.Proofs.Ytbaeabmmokgomaa
