/-
  Layer 7: the laws' once. (Written by wip/tools/gen_vxy.py.)
-/
import Derived.Test.YtceoefgjjekgaaaVxT
import Derived.ChangeKeysEq
namespace Go.Proofs.Ytceoefgjjekgaaa
open Go.RowKit Go.Bw Go.Sort Go.Shelf
set_option linter.unusedVariables false
set_option linter.unusedSimpArgs false
attribute [local go_sem] Oper.semAt_some run_store_float

/-- between two rounds -/
def OnI (w : World) (H H9 B3 : Nat) (v : Vu) (B s g cap c n : Nat) (l : List Int) (r : Ru) (most : Int) (A3 : Option Addr) (c3 : Nat) (F : List Int) (Bn : Nat) (k : Nat) (lx : List Int) (W : World) : Prop :=
  lx = l ∧ Rd v B s g cap c n Bn l W ∧ Rbx W (H + 1) r ∧ Blk W (H + 2) [.int .i64 most] ∧ Blk W (H + 3) [.bool false] ∧ Blk W (H + 4) [.int .i64 (k : Int)] ∧ Blk W H9 [.slice A3 F.length c3] ∧ OwnF W B3 A3 c3 F ∧ Below w.heap.size w W
/-- within one -/
def OnX (w : World) (H H9 B3 : Nat) (v : Vu) (B s g cap c n : Nat) (l : List Int) (r : Ru) (most : Int) (A3 : Option Addr) (c3 : Nat) (F : List Int) (Bn : Nat) (k : Nat) (lx : List Int) (a' : Act) (W : World) : Prop :=
  OnI w H H9 B3 v B s g cap c n l r most A3 c3 F Bn k lx W ∧ ∃ (bx : Nat) (X0 X1 X2 X3 X8 X12 X13 X14 X15 X16 X17 X18 X19 X20 X21 X22 X23 X24 X25 X26 X27 X28 X29 X30 X31 X32 X33 X34 X35 X36 X37 X38 X39 X40 X41 X42 X43 X44 X45 X46 X47 X48 X49 X50 X51 X52 X53 X54 X55 X56 : Value), Blk W bx [.int .i64 (v.ei k), .int .i64 (v.ej k)] ∧ a' = { tmps := #[X0, X1, X2, X3, .pointer (some ⟨H + 1, 0, none⟩), .pointer (some ⟨H + 2, 0, none⟩), .pointer (some ⟨H + 3, 0, none⟩), .pointer (some ⟨H + 4, 0, none⟩), X8, .pointer (some ⟨H9, 0, none⟩), .pointer (some ⟨bx, 0, none⟩), .float .f64 (v.at_ c l (v.ei k) (v.ej k)).toNat, X12, X13, X14, X15, X16, X17, X18, X19, X20, X21, X22, X23, X24, X25, X26, X27, X28, X29, X30, X31, X32, X33, X34, X35, X36, X37, X38, X39, X40, X41, X42, X43, X44, X45, X46, X47, X48, X49, X50, X51, X52, X53, X54, X55, X56], defers := [] }
def OnE (w : World) (H : Nat) (W : World) : Prop := Blk W (H + 3) [.bool true] ∧ Below w.heap.size w W
section
variable {w : World} {H H9 B3 : Nat} {v : Vu} {B s g cap c n : Nat} {l : List Int} {r : Ru} {most : Int} {A3 : Option Addr} {c3 : Nat} {F : List Int} {Bn : Nat}
theorem OnI.ownV {BB k : Nat} {lx : List Int} (hB : w.heap.size ≤ BB) : OwnV BB (OnI w H H9 B3 v B s g cap c n l r most A3 c3 F Bn k lx) := by
  rintro W W' row ⟨e, h1, h2, h3, h4, h5, h6, h7, h8⟩ hg hr
  exact ⟨e, ⟨h1.1.ownV hg hr, fun hp => ⟨(h1.2 hp).1.ownV hg hr, (h1.2 hp).2⟩⟩, h2.ownV hg hr, h3.ownV hg hr, h4.ownV hg hr, h5.ownV hg hr, h6.ownV hg hr, h7.ownV hg hr, below_ownV h8 hg hr hB⟩
theorem OnI.on {k : Nat} {lx : List Int} {W W' : World} (h : OnI w H H9 B3 v B s g cap c n l r most A3 c3 F Bn k lx W) (hb : Below W.heap.size W W') : OnI w H H9 B3 v B s g cap c n l r most A3 c3 F Bn k lx W' := by
  obtain ⟨e, h1, h2, h3, h4, h5, h6, h7, h8⟩ := h
  exact ⟨e, h1.on hb, h2.on hb, h3.on hb, h4.on hb, h5.on hb, h6.on hb, h7.on_ hb, h8.trans (hb.mono h8.size)⟩
theorem OnX.ownV {BB k : Nat} {lx : List Int} {a' : Act} (hB : w.heap.size ≤ BB) : OwnV BB (OnX w H H9 B3 v B s g cap c n l r most A3 c3 F Bn k lx a') := by
  rintro W W' row ⟨hI, bx, X0, X1, X2, X3, X8, X12, X13, X14, X15, X16, X17, X18, X19, X20, X21, X22, X23, X24, X25, X26, X27, X28, X29, X30, X31, X32, X33, X34, X35, X36, X37, X38, X39, X40, X41, X42, X43, X44, X45, X46, X47, X48, X49, X50, X51, X52, X53, X54, X55, X56, hb, e⟩ hg hr
  exact ⟨OnI.ownV hB W W' row hI hg hr, bx, X0, X1, X2, X3, X8, X12, X13, X14, X15, X16, X17, X18, X19, X20, X21, X22, X23, X24, X25, X26, X27, X28, X29, X30, X31, X32, X33, X34, X35, X36, X37, X38, X39, X40, X41, X42, X43, X44, X45, X46, X47, X48, X49, X50, X51, X52, X53, X54, X55, X56, hb.ownV hg hr, e⟩
theorem OnE.ownV {BB : Nat} (hB : w.heap.size ≤ BB) : OwnV BB (OnE w H) := by
  rintro W W' row ⟨h4, h5⟩ hg hr
  exact ⟨h4.ownV hg hr, below_ownV h5 hg hr hB⟩
end
theorem infoInt1 : (Try.prog.info? 3).map (fun i => i.size) = some 1 := by kernel_rfl
theorem cellsInt1 : Try.prog.cellsOf 3 = 1 := by kernel_rfl
theorem run_eqIn_arr (d : Nat) (I J : Int) (W : World) : (Op.equalIn (d + 3) 28 (.agg #[.int .i64 I, .int .i64 J]) (.agg #[.int .i64 I, .int .i64 J])).run Try.prog W = .ok true W := by
  obtain ⟨i, hi⟩ : ∃ i, Try.prog.info? 3 = some i := by
    have := infoInt1
    cases h : Try.prog.info? 3 with
    | none => rw [h] at this; cases this
    | some i => exact ⟨i, rfl⟩
  rw [run_equalIn_array (P := Try.prog) W (d + 2) _ _ Try.underlying28 hi, cellsInt1]
  simp [List.range, List.range.loop, Op.eqItems, part, isAgg, run_underlying Try.underlying3, Op.equalIn]
theorem run_neq_arr (I J : Int) (W : World) : (binOp .neq 28 (.agg #[.int .i64 I, .int .i64 J]) (.agg #[.int .i64 I, .int .i64 J])).run Try.prog W = .ok (.bool false) W := by
  have hr := run_eqIn_arr 9997 I J W
  simp only [binOp]
  simp [Op.equal, Op.maxDepth, hr]
theorem run_eqIn_fn (d Bn : Nat) (W : World) : (Op.equalIn (d + 1) 78 (.func (.func 75) #[] #[.pointer (some ⟨Bn, 0, none⟩)]) .nilFunc).run Try.prog W = .ok false W := by
  simp [Op.equalIn, run_underlying Try.underlying78]
theorem run_func_nil (Bn : Nat) (W : World) : (binOp .eql 78 (.func (.func 75) #[] #[.pointer (some ⟨Bn, 0, none⟩)]) .nilFunc).run Try.prog W = .ok (.bool false) W := by
  have hr := run_eqIn_fn 9999 Bn W
  simp only [binOp]
  simp [Op.equal, Op.maxDepth, hr]
section
variable {w : World} {v : Vu} {B s g cap c n cd : Nat} {l : List Int} {K : Int} {A : Option Addr} {r : Ru} {B2 : Nat}
set_option maxRecDepth 100000 in
set_option maxHeartbeats 8000000 in
theorem once_true (hv : Vk v s c n K) (hs : v.p ≠ none → St w B s g cap c l ∧ l.length = n) (hr : Rk w A n cd r v c) (hsr : Sr w B2 A n cd l) (most : Int) :
    Calls Try.prog 37 #[v.V, Ru.V r, .int .i64 most] w (Ans w (.bool true)) := by
  have HSG := Lib.hid (show v.p ≠ none → s < w.heap.size ∧ g < w.heap.size from fun hp => ⟨(hs hp).1.lt, (hs hp).1.gt.2⟩)
  have DV := ((((Blk.new w v.L 30).alloc (.cells (Ru.L r).toArray 51)).alloc (.cells #[.int .i64 most] 3)).alloc (.cells #[.bool false] 4)).alloc (.cells #[.int .i64 0] 3)
  have DR := (((Blk.new (w.alloc (.cells v.L.toArray 30)) (Ru.L r) 51).alloc (.cells #[.int .i64 most] 3)).alloc (.cells #[.bool false] 4)).alloc (.cells #[.int .i64 0] 3)
  have DM := ((Blk.new ((w.alloc (.cells v.L.toArray 30)).alloc (.cells (Ru.L r).toArray 51)) [.int .i64 most] 3).alloc (.cells #[.bool false] 4)).alloc (.cells #[.int .i64 0] 3)
  have DO := (Blk.new (((w.alloc (.cells v.L.toArray 30)).alloc (.cells (Ru.L r).toArray 51)).alloc (.cells #[.int .i64 most] 3)) [.bool false] 4).alloc (.cells #[.int .i64 0] 3)
  have DN := Blk.new ((((w.alloc (.cells v.L.toArray 30)).alloc (.cells (Ru.L r).toArray 51)).alloc (.cells #[.int .i64 most] 3)).alloc (.cells #[.bool false] 4)) [.int .i64 0] 3
  rw [World.size_alloc] at DR
  rw [World.size_alloc, World.size_alloc] at DM
  rw [World.size_alloc, World.size_alloc, World.size_alloc] at DO
  rw [World.size_alloc, World.size_alloc, World.size_alloc, World.size_alloc] at DN
  have bw := (((((Below.refl _ w).alloc (Nat.le_refl _) (.cells v.L.toArray 30)).alloc (by simp) (.cells (Ru.L r).toArray 51)).alloc (by simp; omega) (.cells #[.int .i64 most] 3)).alloc (by simp; omega) (.cells #[.bool false] 4)).alloc (by simp; omega) (.cells #[.int .i64 0] 3)
  have hsz : (((((w.alloc (.cells v.L.toArray 30)).alloc (.cells (Ru.L r).toArray 51)).alloc (.cells #[.int .i64 most] 3)).alloc (.cells #[.bool false] 4)).alloc (.cells #[.int .i64 0] 3)).heap.size = w.heap.size + 5 := by simp
  replace hs : v.p ≠ none → St (((((w.alloc (.cells v.L.toArray 30)).alloc (.cells (Ru.L r).toArray 51)).alloc (.cells #[.int .i64 most] 3)).alloc (.cells #[.bool false] 4)).alloc (.cells #[.int .i64 0] 3)) B s g cap c l ∧ l.length = n := fun hp => ⟨(hs hp).1.on bw, (hs hp).2⟩
  have hWd := hsr.wd
  have HRC := Lib.hid hr.C
  have pl := fun (W' : World) (hb : Below w.heap.size w W') => rList_any (hr.on hb) (hsr.on hb) hv
  have HV := Lib.hid hv
  have HW : Hid (∀ i j, 0 ≤ v.at_ c l i j ∧ v.at_ c l i j ≤ 18446744073709551615) := Lib.hid (fun i j => at_bd (fun hp => hWd) hv.none_ i j)
  have HFL := Lib.hid (fl_length v c l)
  have HFD := Lib.hid (show ∀ k, k < (v.R * v.C).toNat → D (v.fl c l) k = v.at_ c l (v.ei k) (v.ej k) from fun k hk => fl_D v c l hk)
  have HCC : Hid (∀ k, k < (v.R * v.C).toNat → 0 < v.C ∧ v.C ≤ 512 ∧ k < 262144) := Lib.hid (fun k hk => by
    have h1 := hv.bd.C
    have h2 := (prod_bd hv.bd.R.1 hv.bd.R.2 h1.1 h1.2).2
    refine ⟨?_, h1.2, by omega⟩
    rcases Int.lt_or_le 0 v.C with h | h
    · exact h
    · have : v.C = 0 := by omega
      rw [this] at hk; simp at hk)
  obtain ⟨F, hF⟩ : ∃ F, v.fl c l = F := ⟨_, rfl⟩
  simp only [hF] at pl HFL HFD
  clear hF hv hr hsr hWd
  have pall := All_any v
  obtain ⟨V, hV⟩ : ∃ V, v = V := ⟨_, rfl⟩
  have HhV := Lib.hid hV
  rw [hV] at HSG HV HRC HW HFL HFD HCC
  clear hV
  obtain ⟨H, hH⟩ : ∃ H, w.heap.size = H := ⟨_, rfl⟩
  have HH := Lib.hid hH
  refine (callsIn_wide (n := 5)).1 ?_
  refine callsIn_of_wp_marks Try.func37 rfl trivial ?_ rfl
  simp only [Try.ntmps37, List.size_toArray, List.length_cons, List.length_nil, Nat.reduceAdd, Nat.reduceSub, Array.replicate_succ, Array.replicate_zero, List.push_toArray, List.append_toArray, List.nil_append, List.cons_append]
  clear hH
  have hfn := run_func_nil (w.heap.size + 5)
  obtain ⟨v0, v1, v2, v3, v4, v5, v6, v7, v8⟩ := Vbx.cells DV
  obtain ⟨p, f0, f1, d0, d1, r0, r1, R, C⟩ := v
  gi_wp2
  generalize (((((w.alloc (.cells (Vu.L ⟨p, f0, f1, d0, d1, r0, r1, R, C⟩).toArray 30)).alloc (.cells (Ru.L r).toArray 51)).alloc (.cells #[.int .i64 most] 3)).alloc (.cells #[.bool false] 4)).alloc (.cells #[.int .i64 0] 3)) = W at DV DR DM DO DN bw hsz hs v0 v1 v2 v3 v4 v5 v6 v7 v8 ⊢
  clear v0 v1 v2 v3 v4 v5 v6 v7 v8
  have DB := Blk.new W (Vu.L ⟨p, f0, f1, d0, d1, r0, r1, R, C⟩) 30
  rw [hsz] at DB
  have bl := (Below.refl _ W).alloc (Nat.le_refl _) (.cells (Vu.L ⟨p, f0, f1, d0, d1, r0, r1, R, C⟩).toArray 30)
  replace DR := DR.on bl
  replace DM := DM.on bl
  replace DO := DO.on bl
  replace DN := DN.on bl
  have bw6 := bw.trans (bl.mono bw.size)
  have hs6 : (⟨p, f0, f1, d0, d1, r0, r1, R, C⟩ : Vu).p ≠ none → St (W.alloc (.cells (Vu.L ⟨p, f0, f1, d0, d1, r0, r1, R, C⟩).toArray 30)) B s g cap c l ∧ l.length = n := fun hp => ⟨(hs hp).1.on bl, (hs hp).2⟩
  have hsz6 : (W.alloc (.cells (Vu.L ⟨p, f0, f1, d0, d1, r0, r1, R, C⟩).toArray 30)).heap.size = w.heap.size + 6 := by rw [World.size_alloc, hsz]
  obtain ⟨q0, q1, q2, q3, q4⟩ := Rbx.cells DR
  gi_wp2_with (first
    | (refine ⟨trivial, ?_⟩; gi_at_call 55; refine (callsIn_wide.2 (pall _)).mono ?_; rintro e w2 ⟨rfl, rfl⟩)
    | (refine ⟨trivial, ?_⟩; gi_at_call 34; refine (callsIn_wide.2 (pl _ bw6)).mono ?_; rintro e w3 ⟨A3, c3, rfl, hown, hb⟩))
  clear q0 q1 q2 q3 q4 pall pl bl hs bw DV hfn
  rw [hsz6] at hown
  have hsz3 := hb.size
  rw [hsz6] at hsz3
  obtain ⟨H9, hH9⟩ : ∃ H9, w3.heap.size = H9 := ⟨_, rfl⟩
  have DL := Blk.new w3 [.slice A3 F.length c3] 22
  rw [hH9] at DL
  have bl := (Below.refl _ w3).alloc (Nat.le_refl _) (.cells #[.slice A3 F.length c3] 22)
  have hO := (hown.on_ bl)
  replace DB := (DB.on hb).on bl
  replace DR := (DR.on hb).on bl
  replace DM := (DM.on hb).on bl
  replace DO := (DO.on hb).on bl
  replace DN := (DN.on hb).on bl
  have bz : Below w.heap.size w (w3.alloc (.cells #[.slice A3 F.length c3] 22)) := (bw6.trans (hb.mono bw6.size)).trans (bl.mono (by omega))
  replace hs6 : (⟨p, f0, f1, d0, d1, r0, r1, R, C⟩ : Vu).p ≠ none → St (w3.alloc (.cells #[.slice A3 F.length c3] 22)) B s g cap c l ∧ l.length = n := fun hp => ⟨((hs6 hp).1.on hb).on bl, (hs6 hp).2⟩
  have hszW : (w3.alloc (.cells #[.slice A3 F.length c3] 22)).heap.size = H9 + 1 := by rw [World.size_alloc, hH9]
  clear hown bw6 hb bl hsz hsz6
  generalize w3.alloc (.cells #[.slice A3 F.length c3] 22) = W0 at DB DR DM DO DN DL hO hs6 bz hszW ⊢
  have hBB : w.heap.size ≤ W0.heap.size := bz.size
  rw [HhV.out] at DB hs6 ⊢
  have hH9b : w.heap.size + 6 ≤ H9 := by omega
  have h0 : OnI w w.heap.size H9 (w.heap.size + 6) V B s g cap c n l r most A3 c3 F (w.heap.size + 5) 0 l W0 := ⟨rfl, ⟨DB, hs6⟩, DR, DM, DO, DN, DL, hO, bz⟩
  clear DB DR DM DO DN DL hO hs6 bz
  refine rangeFunc_V (by omega) (gf := 75) (lb := #[.pointer (some ⟨w.heap.size + 5, 0, none⟩)]) rfl (enters_of Try.func75 (by kernel_rfl) rfl)
    (all_seq (v := V) (B := B) (s := s) (g := g) (cap := cap) (c := c) (N0 := n) (Bn := w.heap.size + 5) (by omega) HV.out) (fun _ _ => rfl)
    (OnI w w.heap.size H9 (w.heap.size + 6) V B s g cap c n l r most A3 c3 F (w.heap.size + 5)) (OnE w w.heap.size) (fun k lx W h => by rw [h.1]; exact h.2.1) (fun _ _ => OnI.ownV hBB) (OnE.ownV hBB) h0
    (OnX w w.heap.size H9 (w.heap.size + 6) V B s g cap c n l r most A3 c3 F (w.heap.size + 5)) (fun _ _ _ => OnX.ownV hBB) ?assign ?body ?done ?stop
  case assign =>
    intro lp k lx W K hI hK
    unfold enc
    gi_wp2
    obtain rfl := hI.1
    exact hK _ _ (keepsFrom_below ((Below.refl _ W).alloc (Nat.le_refl _) _)) ⟨hI.on ((Below.refl _ W).alloc (Nat.le_refl _) _), W.heap.size, _, _, _, _, _, _, _, _, _, _, _, _, _, _, _, _, _, _, _, _, _, _, _, _, _, _, _, _, _, _, _, _, _, _, _, _, _, _, _, _, _, _, _, _, _, _, _, _, _, _, Blk.new W [.int .i64 _, .int .i64 _] _, rfl⟩
  case body =>
    rintro lp k lx a' W hlp ⟨⟨rfl, h1, h2, h3, h4, h5, h6, h7, h8⟩, bx, X0, X1, X2, X3, X8, X12, X13, X14, X15, X16, X17, X18, X19, X20, X21, X22, X23, X24, X25, X26, X27, X28, X29, X30, X31, X32, X33, X34, X35, X36, X37, X38, X39, X40, X41, X42, X43, X44, X45, X46, X47, X48, X49, X50, X51, X52, X53, X54, X55, X56, hbx, rfl⟩ hk
    obtain ⟨hc0, hc5, hkb⟩ := HCC.out k hk
    have eF := HFD.out k hk
    obtain ⟨x0, x1⟩ := HW.out (V.ei k) (V.ej k)
    obtain ⟨ad3, hA3, hb3, hc3⟩ := h7.nums.at_ (k := k) (by rw [HFL.out]; exact hk)
    rw [eF] at hc3
    have hkF : (k : Int) < F.length := by have := HFL.out; omega
    have k0 : (0 : Int) ≤ k := by omega
    have hrC : r.C = V.C := HRC.out
    have hCn : V.C = ((V.C.toNat : Nat) : Int) := by omega
    have eI : (k : Int).tdiv r.C = V.ei k := by rw [hrC, hCn]; unfold Vu.ei; exact (Int.ofNat_tdiv k V.C.toNat).symm
    have eJ : (k : Int).tmod r.C = V.ej k := by rw [hrC, hCn]; unfold Vu.ej; exact (Int.ofNat_tmod k V.C.toNat).symm
    have bI : 0 ≤ V.ei k ∧ V.ei k ≤ k := ⟨Int.natCast_nonneg _, Int.ofNat_le.2 (Nat.div_le_self k V.C.toNat)⟩
    have bJ : 0 ≤ V.ej k ∧ V.ej k ≤ k := ⟨Int.natCast_nonneg _, Int.ofNat_le.2 (Nat.mod_le k V.C.toNat)⟩
    obtain ⟨I, hI⟩ : ∃ I, V.ei k = I := ⟨_, rfl⟩
    obtain ⟨J, hJ⟩ : ∃ J, V.ej k = J := ⟨_, rfl⟩
    obtain ⟨X, hX⟩ : ∃ X, V.at_ c lx (V.ei k) (V.ej k) = X := ⟨_, rfl⟩
    rw [hX] at x0 x1 hc3 ⊢
    rw [hI] at hbx eI bI
    rw [hJ] at hbx eJ bJ
    obtain ⟨Cr, hCr⟩ : ∃ Cr, r.C = Cr := ⟨_, rfl⟩
    have bC : 0 < Cr ∧ Cr ≤ 512 := by omega
    rw [hCr] at eI eJ
    have HCr := Lib.hid hCr
    have HA3 := Lib.hid hA3
    have eI2 : (k : Int) / Cr = I := by rw [← eI, Int.tdiv_eq_ediv_of_nonneg k0]
    have eJ2 : (k : Int) % Cr = J := by rw [← eJ, Int.tmod_eq_emod_of_nonneg k0]
    have wI : IntKind.i64.wrap I = I := (IntWalk.i64_left _).trans (IntWalk.wrap64_in _ (by omega))
    have wJ : IntKind.i64.wrap J = J := (IntWalk.i64_left _).trans (IntWalk.wrap64_in _ (by omega))
    have wk : IntKind.i64.wrap ((k : Int) + 1) = (k : Int) + 1 := (IntWalk.i64_left _).trans (IntWalk.wrap64_in _ (by omega))
    have c00 : (Cr == 0) = false := by simp; omega
    have c01 : Cr ≠ 0 := by omega
    have pB := fun W => rbits_any x0 x1 W
    obtain ⟨X1, hX1⟩ : ∃ Z, one X = Z := ⟨_, rfl⟩
    simp only [hX1] at pB
    have hnx : (X1 != X1) = false := by simp
    have hge : decide ((F.length : Int) ≤ (k : Int)) = false := decide_eq_false (by omega)
    have hge2 : decide (F.length ≤ k) = false := decide_eq_false (by omega)
    have hna := run_neq_arr I J
    clear hX1 hX hI hJ hCr hA3 hrC hCn eF
    gi_wp2
    refine wpIn_region_S (S := fun w9 : World => Blk w9 (w.heap.size + 4) [.int .i64 (k : Int)] ∧ Blk w9 H9 [.slice A3 F.length c3] ∧ Blk w9 bx [.int .i64 I, .int .i64 J] ∧ Rbx w9 (w.heap.size + 1) r ∧ w9.cell? (ad3.add k) = some (.float .f64 X.toNat)) (by kernel_rfl) (by kernel_rfl) ⟨h5.drew, h6.drew, hbx.drew, h2.drew, hc3⟩ (fun hS => ?_)
    refine wpAnyS_take (i := 0) (v := ?v0_1) rfl (by kernel_rfl) (by kernel_rfl) (by kernel_rfl) (fun _ _ _ h => h) (Or.inl ⟨by rfl, ?hy0_1⟩) (by assumption) ?rest0_1
    case hy0_1 => (intro w9 hSw; obtain ⟨m0, m1, m2, m3, m4⟩ := hSw; have y0 := Blk.cell m0 0 rfl; have y1 := Blk.cell m1 0 rfl; rw [HA3.out] at y1; have y2 := Blk.cell m2 0 rfl; have y3 := Blk.cell m2 1 rfl; obtain ⟨z0, z1, z2, z3, z4⟩ := Rbx.cells m3; rw [HCr.out] at z2; go_simp; try with_reducible rfl)
    try simp only [Act.put, List.setIfInBounds_toArray, List.set_cons_zero, List.set_cons_succ, List.getElem_toArray, List.getElem_cons_zero, List.getElem_cons_succ]
    refine wpAnyS_take (i := 1) (v := ?v1_2) rfl (by kernel_rfl) (by kernel_rfl) (by kernel_rfl) (fun _ _ _ h => h) (Or.inl ⟨by rfl, ?hy1_2⟩) (by assumption) ?rest1_2
    case hy1_2 => (intro w9 hSw; obtain ⟨m0, m1, m2, m3, m4⟩ := hSw; have y0 := Blk.cell m0 0 rfl; have y1 := Blk.cell m1 0 rfl; rw [HA3.out] at y1; have y2 := Blk.cell m2 0 rfl; have y3 := Blk.cell m2 1 rfl; obtain ⟨z0, z1, z2, z3, z4⟩ := Rbx.cells m3; rw [HCr.out] at z2; go_simp; try with_reducible rfl)
    try simp only [Act.put, List.setIfInBounds_toArray, List.set_cons_zero, List.set_cons_succ, List.getElem_toArray, List.getElem_cons_zero, List.getElem_cons_succ]
    refine wpAnyS_take (i := 2) (v := ?v2_3) rfl (by kernel_rfl) (by kernel_rfl) (by kernel_rfl) (fun _ _ _ h => h) (Or.inl ⟨by rfl, ?hy2_3⟩) (by assumption) ?rest2_3
    case hy2_3 => (intro w9 hSw; obtain ⟨m0, m1, m2, m3, m4⟩ := hSw; have y0 := Blk.cell m0 0 rfl; have y1 := Blk.cell m1 0 rfl; rw [HA3.out] at y1; have y2 := Blk.cell m2 0 rfl; have y3 := Blk.cell m2 1 rfl; obtain ⟨z0, z1, z2, z3, z4⟩ := Rbx.cells m3; rw [HCr.out] at z2; go_simp; try with_reducible rfl)
    try simp only [Act.put, List.setIfInBounds_toArray, List.set_cons_zero, List.set_cons_succ, List.getElem_toArray, List.getElem_cons_zero, List.getElem_cons_succ]
    refine wpAnyS_take (i := 3) (v := ?v3_4) rfl (by kernel_rfl) (by kernel_rfl) (by kernel_rfl) (fun _ _ _ h => h) (Or.inl ⟨by rfl, ?hy3_4⟩) (by assumption) ?rest3_4
    case hy3_4 => (intro w9 hSw; clear hSw; go_simp; try with_reducible rfl)
    try simp only [Act.put, List.setIfInBounds_toArray, List.set_cons_zero, List.set_cons_succ, List.getElem_toArray, List.getElem_cons_zero, List.getElem_cons_succ]
    refine wpAnyS_take (i := 4) (v := ?v4_5) rfl (by kernel_rfl) (by kernel_rfl) (by kernel_rfl) (fun _ _ _ h => h) (Or.inl ⟨by rfl, ?hy4_5⟩) (by assumption) ?rest4_5
    case hy4_5 => (intro w9 hSw; clear hSw; go_simp; try with_reducible rfl)
    try simp only [Act.put, List.setIfInBounds_toArray, List.set_cons_zero, List.set_cons_succ, List.getElem_toArray, List.getElem_cons_zero, List.getElem_cons_succ]
    refine wpAnyS_take (i := 5) (v := ?v5_6) rfl (by kernel_rfl) (by kernel_rfl) (by kernel_rfl) (fun _ _ _ h => h) (Or.inl ⟨by rfl, ?hy5_6⟩) (by assumption) ?rest5_6
    case hy5_6 => (intro w9 hSw; obtain ⟨m0, m1, m2, m3, m4⟩ := hSw; have y0 := Blk.cell m0 0 rfl; have y1 := Blk.cell m1 0 rfl; rw [HA3.out] at y1; have y2 := Blk.cell m2 0 rfl; have y3 := Blk.cell m2 1 rfl; obtain ⟨z0, z1, z2, z3, z4⟩ := Rbx.cells m3; rw [HCr.out] at z2; go_simp; try with_reducible rfl)
    try simp only [Act.put, List.setIfInBounds_toArray, List.set_cons_zero, List.set_cons_succ, List.getElem_toArray, List.getElem_cons_zero, List.getElem_cons_succ]
    refine wpAnyS_take (i := 6) (v := ?v6_7) rfl (by kernel_rfl) (by kernel_rfl) (by kernel_rfl) (fun _ _ _ h => h) (Or.inl ⟨by rfl, ?hy6_7⟩) (by assumption) ?rest6_7
    case hy6_7 => (intro w9 hSw; obtain ⟨m0, m1, m2, m3, m4⟩ := hSw; have y0 := Blk.cell m0 0 rfl; have y1 := Blk.cell m1 0 rfl; rw [HA3.out] at y1; have y2 := Blk.cell m2 0 rfl; have y3 := Blk.cell m2 1 rfl; obtain ⟨z0, z1, z2, z3, z4⟩ := Rbx.cells m3; rw [HCr.out] at z2; go_simp; try with_reducible rfl)
    try simp only [Act.put, List.setIfInBounds_toArray, List.set_cons_zero, List.set_cons_succ, List.getElem_toArray, List.getElem_cons_zero, List.getElem_cons_succ]
    refine wpAnyS_take (i := 7) (v := ?v7_8) rfl (by kernel_rfl) (by kernel_rfl) (by kernel_rfl) (fun _ _ _ h => h) (Or.inl ⟨by rfl, ?hy7_8⟩) (by assumption) ?rest7_8
    case hy7_8 => (intro w9 hSw; clear hSw; go_simp; try with_reducible rfl)
    try simp only [Act.put, List.setIfInBounds_toArray, List.set_cons_zero, List.set_cons_succ, List.getElem_toArray, List.getElem_cons_zero, List.getElem_cons_succ]
    refine wpAnyS_take (i := 8) (v := ?v8_9) rfl (by kernel_rfl) (by kernel_rfl) (by kernel_rfl) (fun _ _ _ h => h) (Or.inl ⟨by rfl, ?hy8_9⟩) (by assumption) ?rest8_9
    case hy8_9 => (intro w9 hSw; obtain ⟨m0, m1, m2, m3, m4⟩ := hSw; have y0 := Blk.cell m0 0 rfl; have y1 := Blk.cell m1 0 rfl; rw [HA3.out] at y1; have y2 := Blk.cell m2 0 rfl; have y3 := Blk.cell m2 1 rfl; obtain ⟨z0, z1, z2, z3, z4⟩ := Rbx.cells m3; rw [HCr.out] at z2; go_simp; try with_reducible rfl)
    try simp only [Act.put, List.setIfInBounds_toArray, List.set_cons_zero, List.set_cons_succ, List.getElem_toArray, List.getElem_cons_zero, List.getElem_cons_succ]
    refine wpAnyS_take (i := 9) (v := ?v9_10) rfl (by kernel_rfl) (by kernel_rfl) (by kernel_rfl) (fun _ _ _ h => h) (Or.inl ⟨by rfl, ?hy9_10⟩) (by assumption) ?rest9_10
    case hy9_10 => (intro w9 hSw; clear hSw; go_simp; try with_reducible rfl)
    try simp only [Act.put, List.setIfInBounds_toArray, List.set_cons_zero, List.set_cons_succ, List.getElem_toArray, List.getElem_cons_zero, List.getElem_cons_succ]
    refine wpAnyS_take (i := 10) (v := ?v10_11) rfl (by kernel_rfl) (by kernel_rfl) (by kernel_rfl) (fun _ _ _ h => h) (Or.inl ⟨by rfl, ?hy10_11⟩) (by assumption) ?rest10_11
    case hy10_11 => (intro w9 hSw; obtain ⟨m0, m1, m2, m3, m4⟩ := hSw; have y0 := Blk.cell m0 0 rfl; have y1 := Blk.cell m1 0 rfl; rw [HA3.out] at y1; have y2 := Blk.cell m2 0 rfl; have y3 := Blk.cell m2 1 rfl; obtain ⟨z0, z1, z2, z3, z4⟩ := Rbx.cells m3; rw [HCr.out] at z2; go_simp; try with_reducible rfl)
    try simp only [Act.put, List.setIfInBounds_toArray, List.set_cons_zero, List.set_cons_succ, List.getElem_toArray, List.getElem_cons_zero, List.getElem_cons_succ]
    refine wpAnyS_take (i := 11) (v := ?v11_12) rfl (by kernel_rfl) (by kernel_rfl) (by kernel_rfl) (fun _ _ _ h => h) (Or.inl ⟨by rfl, ?hy11_12⟩) (by assumption) ?rest11_12
    case hy11_12 => (intro w9 hSw; clear hSw; go_simp; try with_reducible rfl)
    try simp only [Act.put, List.setIfInBounds_toArray, List.set_cons_zero, List.set_cons_succ, List.getElem_toArray, List.getElem_cons_zero, List.getElem_cons_succ]
    refine wpAnyS_take (i := 12) (v := ?v12_13) rfl (by kernel_rfl) (by kernel_rfl) (by kernel_rfl) (fun _ _ _ h => h) (Or.inl ⟨by rfl, ?hy12_13⟩) (by assumption) ?rest12_13
    case hy12_13 => (intro w9 hSw; obtain ⟨m0, m1, m2, m3, m4⟩ := hSw; have y0 := Blk.cell m0 0 rfl; have y1 := Blk.cell m1 0 rfl; rw [HA3.out] at y1; have y2 := Blk.cell m2 0 rfl; have y3 := Blk.cell m2 1 rfl; obtain ⟨z0, z1, z2, z3, z4⟩ := Rbx.cells m3; rw [HCr.out] at z2; go_simp; try with_reducible rfl)
    try simp only [Act.put, List.setIfInBounds_toArray, List.set_cons_zero, List.set_cons_succ, List.getElem_toArray, List.getElem_cons_zero, List.getElem_cons_succ]
    refine wpAnyS_take (i := 13) (v := ?v13_14) rfl (by kernel_rfl) (by kernel_rfl) (by kernel_rfl) (fun _ _ _ h => h) (Or.inl ⟨by rfl, ?hy13_14⟩) (by assumption) ?rest13_14
    case hy13_14 => (intro w9 hSw; clear hSw; go_simp; try with_reducible rfl)
    try simp only [Act.put, List.setIfInBounds_toArray, List.set_cons_zero, List.set_cons_succ, List.getElem_toArray, List.getElem_cons_zero, List.getElem_cons_succ]
    refine wpAnyS_take (i := 14) (v := ?v14_15) rfl (by kernel_rfl) (by kernel_rfl) (by kernel_rfl) (fun _ _ _ h => h) (Or.inl ⟨by rfl, ?hy14_15⟩) (by assumption) ?rest14_15
    case hy14_15 => (intro w9 hSw; clear hSw; go_simp; try with_reducible rfl)
    try simp only [Act.put, List.setIfInBounds_toArray, List.set_cons_zero, List.set_cons_succ, List.getElem_toArray, List.getElem_cons_zero, List.getElem_cons_succ]
    refine wpAnyS_take (i := 15) (v := ?v15_16) rfl (by kernel_rfl) (by kernel_rfl) (by kernel_rfl) (fun _ _ _ h => h) (Or.inl ⟨by rfl, ?hy15_16⟩) (by assumption) ?rest15_16
    case hy15_16 => (intro w9 hSw; clear hSw; go_simp; try with_reducible rfl)
    try simp only [Act.put, List.setIfInBounds_toArray, List.set_cons_zero, List.set_cons_succ, List.getElem_toArray, List.getElem_cons_zero, List.getElem_cons_succ]
    refine wpAnyS_take (i := 16) (v := ?v16_17) rfl (by kernel_rfl) (by kernel_rfl) (by kernel_rfl) (fun _ _ _ h => h) (Or.inl ⟨by rfl, ?hy16_17⟩) (by assumption) ?rest16_17
    case hy16_17 => (intro w9 hSw; clear hSw; go_simp; try with_reducible rfl)
    try simp only [Act.put, List.setIfInBounds_toArray, List.set_cons_zero, List.set_cons_succ, List.getElem_toArray, List.getElem_cons_zero, List.getElem_cons_succ]
    refine wpAnyS_take (i := 17) (v := ?v17_18) rfl (by kernel_rfl) (by kernel_rfl) (by kernel_rfl) (fun _ _ _ h => h) (Or.inl ⟨by rfl, ?hy17_18⟩) (by assumption) ?rest17_18
    case hy17_18 => (intro w9 hSw; clear hSw; go_simp; try with_reducible rfl)
    try simp only [Act.put, List.setIfInBounds_toArray, List.set_cons_zero, List.set_cons_succ, List.getElem_toArray, List.getElem_cons_zero, List.getElem_cons_succ]
    refine wpAnyS_take (i := 18) (v := ?v18_19) rfl (by kernel_rfl) (by kernel_rfl) (by kernel_rfl) (fun _ _ _ h => h) (Or.inl ⟨by rfl, ?hy18_19⟩) (by assumption) ?rest18_19
    case hy18_19 => (intro w9 hSw; clear hSw; go_simp; try with_reducible rfl)
    try simp only [Act.put, List.setIfInBounds_toArray, List.set_cons_zero, List.set_cons_succ, List.getElem_toArray, List.getElem_cons_zero, List.getElem_cons_succ]
    refine wpAnyS_take (i := 20) (v := ?v20_20) rfl (by kernel_rfl) (by kernel_rfl) (by kernel_rfl) (fun _ _ _ h => h) (Or.inl ⟨by rfl, ?hy20_20⟩) (by assumption) ?rest20_20
    case hy20_20 => (intro w9 hSw; obtain ⟨m0, m1, m2, m3, m4⟩ := hSw; have y0 := Blk.cell m0 0 rfl; have y1 := Blk.cell m1 0 rfl; rw [HA3.out] at y1; have y2 := Blk.cell m2 0 rfl; have y3 := Blk.cell m2 1 rfl; obtain ⟨z0, z1, z2, z3, z4⟩ := Rbx.cells m3; rw [HCr.out] at z2; go_simp; try with_reducible rfl)
    try simp only [Act.put, List.setIfInBounds_toArray, List.set_cons_zero, List.set_cons_succ, List.getElem_toArray, List.getElem_cons_zero, List.getElem_cons_succ]
    refine wpAnyS_take (i := 21) (v := ?v21_21) rfl (by kernel_rfl) (by kernel_rfl) (by kernel_rfl) (fun _ _ _ h => h) (Or.inl ⟨by rfl, ?hy21_21⟩) (by assumption) ?rest21_21
    case hy21_21 => (intro w9 hSw; obtain ⟨m0, m1, m2, m3, m4⟩ := hSw; have y0 := Blk.cell m0 0 rfl; have y1 := Blk.cell m1 0 rfl; rw [HA3.out] at y1; have y2 := Blk.cell m2 0 rfl; have y3 := Blk.cell m2 1 rfl; obtain ⟨z0, z1, z2, z3, z4⟩ := Rbx.cells m3; rw [HCr.out] at z2; go_simp; try with_reducible rfl)
    try simp only [Act.put, List.setIfInBounds_toArray, List.set_cons_zero, List.set_cons_succ, List.getElem_toArray, List.getElem_cons_zero, List.getElem_cons_succ]
    refine wpAnyS_take (i := 22) (v := ?v22_22) rfl (by kernel_rfl) (by kernel_rfl) (by kernel_rfl) (fun _ _ _ h => h) (Or.inl ⟨by rfl, ?hy22_22⟩) (by assumption) ?rest22_22
    case hy22_22 => (intro w9 hSw; clear hSw; go_simp; try with_reducible rfl)
    try simp only [Act.put, List.setIfInBounds_toArray, List.set_cons_zero, List.set_cons_succ, List.getElem_toArray, List.getElem_cons_zero, List.getElem_cons_succ]
    refine wpAnyS_take (i := 23) (v := ?v23_23) rfl (by kernel_rfl) (by kernel_rfl) (by kernel_rfl) (fun _ _ _ h => h) (Or.inl ⟨by rfl, ?hy23_23⟩) (by assumption) ?rest23_23
    case hy23_23 => (intro w9 hSw; obtain ⟨m0, m1, m2, m3, m4⟩ := hSw; have y0 := Blk.cell m0 0 rfl; have y1 := Blk.cell m1 0 rfl; rw [HA3.out] at y1; have y2 := Blk.cell m2 0 rfl; have y3 := Blk.cell m2 1 rfl; obtain ⟨z0, z1, z2, z3, z4⟩ := Rbx.cells m3; rw [HCr.out] at z2; go_simp; try with_reducible rfl)
    try simp only [Act.put, List.setIfInBounds_toArray, List.set_cons_zero, List.set_cons_succ, List.getElem_toArray, List.getElem_cons_zero, List.getElem_cons_succ]
    refine wpAnyS_ready (rs := [19]) (by kernel_rfl) (by simp) ?_
    refine AllReadyS.cons rfl (fun K hK => ?_) AllReadyS.nil
    go_simp
    with_reducible refine (pB _).mono ?_
    rintro e v1 ⟨rfl, rfl⟩
    refine hK.out _ _ ⟨h5.drew, h6.drew, hbx.drew, h2.drew, hc3⟩ (fun hH => ?_)
    clear hK K hS
    have hS := hH
    clear hH
    try simp only [Act.put, List.setIfInBounds_toArray, List.set_cons_zero, List.set_cons_succ, List.getElem_toArray, List.getElem_cons_zero, List.getElem_cons_succ]
    refine wpAnyS_ready (rs := [24]) (by kernel_rfl) (by simp) ?_
    refine AllReadyS.cons rfl (fun K hK => ?_) AllReadyS.nil
    go_simp
    with_reducible refine (pB _).mono ?_
    rintro e v2 ⟨rfl, rfl⟩
    refine hK.out _ _ ⟨h5.drew, h6.drew, hbx.drew, h2.drew, hc3⟩ (fun hH => ?_)
    clear hK K hS
    have hS := hH
    clear hH
    try simp only [Act.put, List.setIfInBounds_toArray, List.set_cons_zero, List.set_cons_succ, List.getElem_toArray, List.getElem_cons_zero, List.getElem_cons_succ]
    refine wpAnyS_take (i := 25) (v := ?v25_24) rfl (by kernel_rfl) (by kernel_rfl) (by kernel_rfl) (fun _ _ _ h => h) (Or.inl ⟨by rfl, ?hy25_24⟩) (by assumption) ?rest25_24
    case hy25_24 => (intro w9 hSw; clear hSw; go_simp; try with_reducible rfl)
    try simp only [Act.put, List.setIfInBounds_toArray, List.set_cons_zero, List.set_cons_succ, List.getElem_toArray, List.getElem_cons_zero, List.getElem_cons_succ]
    refine wpAnyS_take (i := 26) (v := ?v26_25) rfl (by kernel_rfl) (by kernel_rfl) (by kernel_rfl) (fun _ _ _ h => h) (Or.inl ⟨by rfl, ?hy26_25⟩) (by assumption) ?rest26_25
    case hy26_25 => (intro w9 hSw; clear hSw; go_simp; try with_reducible rfl)
    try simp only [Act.put, List.setIfInBounds_toArray, List.set_cons_zero, List.set_cons_succ, List.getElem_toArray, List.getElem_cons_zero, List.getElem_cons_succ]
    refine wpAnyS_done (by kernel_rfl) ?_ _
    have j5 := h5.drew
    have j4 := h4.drew
    have j3 := h3.drew
    have hsz8 := h8.size
    have kp : KeepsFrom W0.heap.size W W.drew := keepsFrom_below (Below.refl _ W).drew
    have bz8 := h8.drew
    have g1 : Vbx W.drew (w.heap.size + 5) V := h1.1.drew
    have g1s : V.p ≠ none → St W.drew B s g cap c lx ∧ lx.length = n := fun hp => ⟨(h1.2 hp).1.drew, (h1.2 hp).2⟩
    have g2 : Rbx W.drew (w.heap.size + 1) r := h2.drew
    have g6 : Blk W.drew H9 [.slice A3 F.length c3] := h6.drew
    have g7 : OwnF W.drew (w.heap.size + 6) A3 c3 F := h7
    clear hS h1 h2 h3 h4 h5 h6 hbx hc3 hb3 h8
    generalize W.drew = W9 at j5 j4 j3 kp bz8 g1 g1s g2 g6 g7 ⊢
    have e5 := Blk.cell j5 0 rfl
    have f5 := Blk.free j5 0
    have e3 := Blk.cell j3 0 rfl
    have e4 := Blk.cell j4 0 rfl
    have f4 := Blk.free j4 0
    by_cases hm : ((k : Int) + 1) = most
    · subst hm
      have hmm : (((k : Int) + 1) == ((k : Int) + 1)) = true := by simp
      gi_wp2
      refine ⟨kp.trans (((KeepsOthers.setCell _ _ _).trans (KeepsOthers.setCell _ _ _)).from _), ?_, ?_⟩
      · exact Blk.set_ (Blk.far j4 (p := ⟨w.heap.size + 4, 0, none⟩) (by simp) _) 0 (.bool true)
      · exact (bz8.setCell (p := ⟨w.heap.size + 4, 0, none⟩) (by simp) _).setCell (p := ⟨w.heap.size + 3, 0, none⟩) (by simp) _
    · have hmm : (((k : Int) + 1) == most) = false := by simp [hm]
      gi_wp2
      have hA9 : ∀ a, A3 = some a → a.block ≠ w.heap.size + 4 := fun a e => by have := (g7.gt e).1; omega
      refine ⟨kp.trans ((KeepsOthers.setCell _ _ _).from _), lx, rfl, ⟨Blk.far g1 (p := ⟨w.heap.size + 4, 0, none⟩) (by simp) _, fun hp => ⟨(g1s hp).1.farG (p := ⟨w.heap.size + 4, 0, none⟩) (by have := (HSG.out hp).1; simp; omega) (by have := (HSG.out hp).2; simp; omega) _, (g1s hp).2⟩⟩, Blk.far g2 (p := ⟨w.heap.size + 4, 0, none⟩) (by simp) _, Blk.far j3 (p := ⟨w.heap.size + 4, 0, none⟩) (by simp) _, Blk.far j4 (p := ⟨w.heap.size + 4, 0, none⟩) (by simp) _, ?_, Blk.far g6 (p := ⟨w.heap.size + 4, 0, none⟩) (by simp; omega) _, g7.farB hA9 0 _, bz8.setCell (p := ⟨w.heap.size + 4, 0, none⟩) (by simp) _⟩
      have := Blk.set_ j5 0 (.int .i64 ((k : Int) + 1))
      simpa using this
  case done =>
    rintro D lx W hD ⟨rfl, h1, h2, h3, h4, h5, h6, h7, h8⟩ hK
    rw [← HFL.out] at h5
    have q5 := Blk.cell h5 0 rfl
    have q6 := Blk.cell h6 0 rfl
    have q4 := Blk.cell h4 0 rfl
    have q4f := Blk.free h4 0
    have q5b : W.cell? ⟨w.heap.size + 1 + 1 + 1 + 1, 0, none⟩ = _ := q5
    have q4b : W.cell? ⟨w.heap.size + 1 + 1 + 1, 0, none⟩ = _ := q4
    have q4c : W.frozen? ⟨w.heap.size + 1 + 1 + 1, 0, none⟩ = false := q4f
    gi_wp2
    have hK' : (W.setCell ⟨w.heap.size + 3, 0, none⟩ (.bool true)).heap[D]? = some (.deferred (some [])) := (KeepsOthers.setCell W ⟨w.heap.size + 3, 0, none⟩ _).same D _ hK rfl
    refine ⟨by simp, .inl ⟨_, _, rfl, run_takeDeferred hK', ?_⟩⟩
    have m1 : Blk _ (w.heap.size + 3) [.bool true] := (Blk.set_ h4 0 (.bool true)).ownV (grownBy_putObj' _ D (.deferred none)) (noCells_put hK' rfl)
    have m2 := Blk.cell m1 0 rfl
    refine ⟨.bool true, by simp [results, Try.results37, go_sem, m2], rfl, ?_⟩
    exact below_ownV ((h8.setCell (p := ⟨w.heap.size + 3, 0, none⟩) (by simp) _)) (grownBy_putObj' _ D (.deferred none)) (noCells_put hK' rfl) (by omega)
  case stop =>
    rintro D W hD ⟨h4, h5⟩ hK
    gi_wp2
    refine ⟨by simp, .inl ⟨_, _, rfl, run_takeDeferred hK, ?_⟩⟩
    have m1 : Blk _ (w.heap.size + 3) [.bool true] := h4.ownV (grownBy_putObj' _ D (.deferred none)) (noCells_put hK rfl)
    have m2 := Blk.cell m1 0 rfl
    refine ⟨.bool true, by simp [results, Try.results37, go_sem, m2], rfl, ?_⟩
    exact below_ownV h5 (grownBy_putObj' _ D (.deferred none)) (noCells_put hK rfl) (by omega)
end
end Go.Proofs.Ytceoefgjjekgaaa
