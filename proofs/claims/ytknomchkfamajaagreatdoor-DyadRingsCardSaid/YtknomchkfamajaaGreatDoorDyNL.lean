/-
  Layer 3, the laws: the theorem of layer 3. (Written by a script of wip/tools.)
-/
import Derived.Test.YtknomchkfamajaaGreatDoorDyLZ
import Derived.Test.YtknomchkfamajaaGreatDoorDyNK
namespace Go.Proofs.YtknomchkfamajaaGreatDoor
open Go.RowKit Go.Sort Go.Bw
set_option linter.unusedVariables false
set_option linter.unusedSimpArgs false

section
variable {b : Bool} {A : Option Addr} {n c : Nat} {x : Int} {l : List Int} {w : World}
variable {b2 : Bool} {A2 : Option Addr} {n2 c2 : Nat} {x2 : Int} {l2 : List Int} {d d2 R : Nf}

/-- a number as it stands in memory, within bounds -/
def Nst (b : Bool) (l : List Int) (x : Int) (d : Nf) : Prop := l.length ≤ 4096 ∧ okE x = true ∧ val 18446744073709551616 l < 2 ^ 131072 ∧ nfl b (val 18446744073709551616 l) x = d ∧ d.Ok
theorem Nst.of (hd : Dn b l x d) (hl : Lim 18446744073709551616 l) (i : d.In (-9000) 9000) : Nst b l x d := by
  refine ⟨hd.2.1, by rw [← hd.exp]; exact in_okE hd.2.2.2 i (by omega) (by omega), ?_, hd.is hl, hd.2.2.2⟩
  rw [← hd.man hl]
  exact Int.lt_of_lt_of_le (i.lt (by omega)) (pw_mono (by omega))
theorem nAdd (h : Lv w A l.length c l) (s1 : Nst b l x d) (h2 : Lv w A2 l2.length c2 l2) (s2 : Nst b2 l2 x2 d2) (hT : Tab w) (i1 : d.In (-9000) 9000) (i2 : d2.In (-9000) 9000) (e : sumN d d2 = R) :
    Calls Tryz.prog 38 #[dyV b A l.length c x, dyV b2 A2 l2.length c2 x2] w (DyK R 0 w) := by
  obtain ⟨k1, o1, v1, e1, y1⟩ := s1
  obtain ⟨k2, o2, v2, e2, y2⟩ := s2
  have := dAdd_any (b := b) (b2 := b2) (x := x) (x2 := x2) h k1 h2 k2 hT (by rw [e1, e2]; exact fun _ => .inr ⟨-9000, 9000, i1, i2, by omega, by omega⟩)
  rw [e1, e2] at this
  have q : addQ x x2 d d2 = (R, 0) := by
    unfold addQ may2
    rw [o1, o2, if_pos (show (true && true) = true from rfl), addR_near i1 i2 (by omega), doneR_near (sumN_ok _ _) (sumN_in y1 y2 i1 i2 (by omega)) (by omega) (by omega), e]
  rw [q] at this
  exact this
theorem nSub (h : Lv w A l.length c l) (s1 : Nst b l x d) (h2 : Lv w A2 l2.length c2 l2) (s2 : Nst b2 l2 x2 d2) (hT : Tab w) (i1 : d.In (-9000) 9000) (i2 : d2.In (-9000) 9000) (e : sumN d (negN d2) = R) :
    Calls Tryz.prog 40 #[dyV b A l.length c x, dyV b2 A2 l2.length c2 x2] w (DyK R 0 w) := by
  obtain ⟨k1, o1, v1, e1, y1⟩ := s1
  obtain ⟨k2, o2, v2, e2, y2⟩ := s2
  have i3 := negN_in y2 i2
  have := dSub_any (b := b) (b2 := b2) (x := x) (x2 := x2) h k1 h2 k2 hT (by rw [e1, e2]; exact fun _ => .inr ⟨-9000, 9000, i1, i3, by omega, by omega⟩)
  rw [e1, e2] at this
  have q : addQ x x2 d (negN d2) = (R, 0) := by
    unfold addQ may2
    rw [o1, o2, if_pos (show (true && true) = true from rfl), addR_near i1 i3 (by omega), doneR_near (sumN_ok _ _) (sumN_in y1 (negN_ok _) i1 i3 (by omega)) (by omega) (by omega), e]
  rw [q] at this
  exact this
theorem mul_bnd {u v : Int} (p1 : 0 ≤ u) (p2 : 0 ≤ v) (a1 : u < 2 ^ 131072) (a2 : v < 2 ^ 131072) : u * v < 18446744073709551616 ^ 4096 := by
  rw [pow64, show 64 * 4096 = 131072 + 131072 from rfl, Int.pow_add]
  have h0 : (0 : Int) < 2 ^ 131072 := Int.pow_pos (by omega)
  generalize (2 : Int) ^ 131072 = R at *
  calc u * v ≤ u * R := Int.mul_le_mul_of_nonneg_left (by omega) p1
    _ < R * R := Int.mul_lt_mul_of_pos_right a1 h0
theorem nMul (h : Lv w A l.length c l) (s1 : Nst b l x d) (h2 : Lv w A2 l2.length c2 l2) (s2 : Nst b2 l2 x2 d2) (hT : Tab w) (i1 : d.In (-9000) 9000) (i2 : d2.In (-9000) 9000) (e : mulN d d2 = R) :
    Calls Tryz.prog 42 #[dyV b A l.length c x, dyV b2 A2 l2.length c2 x2] w (DyK R 0 w) := by
  obtain ⟨k1, o1, v1, e1, y1⟩ := s1
  obtain ⟨k2, o2, v2, e2, y2⟩ := s2
  have := dMul_any (b := b) (b2 := b2) (x := x) (x2 := x2) h k1 h2 k2 hT (fun _ => mul_bnd (lim_val h.lim) (lim_val h2.lim) v1 v2)
  rw [e1, e2] at this
  have q : mulQ x x2 d d2 = (R, 0) := by
    unfold mulQ may2 mulR
    rw [o1, o2, if_pos (show (true && true) = true from rfl), doneR_near (mulN_ok _ _) (mulN_in i1 i2) (by omega) (by omega), e]
  rw [q] at this
  exact this
theorem nCmp (h : Lv w A l.length c l) (s1 : Nst b l x d) (h2 : Lv w A2 l2.length c2 l2) (s2 : Nst b2 l2 x2 d2) (hT : Tab w) (i1 : d.In (-9000) 9000) (i2 : d2.In (-9000) 9000) {s : Int} (e : sgn (sumN d (negN d2)) = s) :
    Calls Tryz.prog 52 #[dyV b A l.length c x, dyV b2 A2 l2.length c2 x2] w fun e w' => e = .returned (.tuple #[.int .i64 s, .int .i64 0]) ∧ Below w.heap.size w w' := by
  obtain ⟨k1, o1, v1, e1, y1⟩ := s1
  obtain ⟨k2, o2, v2, e2, y2⟩ := s2
  have hc : OrdC d d2 (sgn (sumN d (negN d2))) 0 := @ord_near d d2 (-9000) 9000 i1 i2 y1 y2 (by omega) (by omega)
  rw [e, ← e1, ← e2] at hc
  exact dCmp_yes (b := b) (b2 := b2) (x := x) (x2 := x2) h k1 h2 k2 hT o1 o2 hc
theorem nNorm (h : Lv w A l.length c l) (s1 : Nst b l x d) (hT : Tab w) (i1 : d.In (-9000) 9000) :
    Calls Tryz.prog 16 #[dyV b A l.length c x] w (DyK d 0 w) := by
  obtain ⟨k1, o1, v1, e1, y1⟩ := s1
  have := dNorm_yes (b := b) (x := x) h k1 hT o1
  rw [e1, doneR_near y1 i1 (by omega) (by omega)] at this
  exact this
theorem nSign (hd : Dn b l x d) (h : Lv w A l.length c l) (hT : Tab w) (i1 : d.In (-9000) 9000) {s : Int} (e : sgn d = s) :
    Calls Tryz.prog 21 #[dyV b A l.length c x] w fun e w' => e = .returned (.int .i64 s) ∧ Below w.heap.size w w' := by
  have := dSign_in h hd hT (in_okE hd.2.2.2 i1 (by omega) (by omega))
  rw [e] at this
  exact this
def three (a b c : De) : List Value := [.bool a.b, .slice a.A a.l.length a.c, .int .i64 a.x, .bool b.b, .slice b.A b.l.length b.c, .int .i64 b.x, .bool c.b, .slice c.A c.l.length c.c, .int .i64 c.x]
theorem Dl.three {W : World} {g : Nat} {a b c : De} (hg : Blk W g (three a b c)) (ha : Lv W a.A a.l.length a.c a.l) (hb : Lv W b.A b.l.length b.c b.l) (hc : Lv W c.A c.l.length c.c c.l)
    (ba : -9223372036854775808 ≤ a.x ∧ a.x ≤ 9223372036854775807) (bb : -9223372036854775808 ≤ b.x ∧ b.x ≤ 9223372036854775807) (bc : -9223372036854775808 ≤ c.x ∧ c.x ≤ 9223372036854775807) : Dl W (some ⟨g, 0, none⟩) 3 3 [a, b, c] := by
  refine ⟨rfl, by omega, fun e he => ?_, fun _ => ⟨_, rfl, hg.lt, fun i e he => ?_⟩⟩
  · simp only [List.mem_cons, List.not_mem_nil, or_false] at he
    rcases he with rfl | rfl | rfl
    · exact ⟨ha, ba⟩
    · exact ⟨hb, bb⟩
    · exact ⟨hc, bc⟩
  · rw [add_at, add_at, add_at]
    match i, he with
    | 0, he => cases he; exact ⟨hg.cell 0 rfl, hg.cell 1 rfl, hg.cell 2 rfl⟩
    | 1, he => cases he; exact ⟨hg.cell 3 rfl, hg.cell 4 rfl, hg.cell 5 rfl⟩
    | 2, he => cases he; exact ⟨hg.cell 6 rfl, hg.cell 7 rfl, hg.cell 8 rfl⟩
    | k + 3, he => simp at he
variable {ba bb bc : Bool} {Aa Ab Ac : Option Addr} {ca cb cc : Nat} {xa xb xc : Int} {la lb lc : List Int}
set_option maxRecDepth 100000 in
set_option maxHeartbeats 8000000 in
theorem rings_not (ma : Lv w Aa la.length ca la) (ya0 : -9223372036854775808 ≤ xa) (ya1 : xa ≤ 9223372036854775807) (mb : Lv w Ab lb.length cb lb) (yb0 : -9223372036854775808 ≤ xb) (yb1 : xb ≤ 9223372036854775807) (mc : Lv w Ac lc.length cc lc) (yc0 : -9223372036854775808 ≤ xc) (yc1 : xc ≤ 9223372036854775807) (hok : ¬ (∀ e ∈ [(⟨ba, Aa, ca, xa, la⟩ : De), ⟨bb, Ab, cb, xb, lb⟩, ⟨bc, Ac, cc, xc, lc⟩], e.ok)) (hT : Tab w) (hP : PowT w) :
    Calls Tryz.prog 12 #[dyV ba Aa la.length ca xa, dyV bb Ab lb.length cb xb, dyV bc Ac lc.length cc xc] w fun e w' => e = .returned (.bool true) ∧ Below w.heap.size w w' := by
  have PB := Blk.new w [.bool ba, .slice Aa la.length ca, .int .i64 xa] 24
  have QB := Blk.new (w.alloc (.cells #[.bool ba, .slice Aa la.length ca, .int .i64 xa] 24)) [.bool bb, .slice Ab lb.length cb, .int .i64 xb] 24
  simp only [World.size_alloc] at QB
  replace PB := Blk.alloc PB (.cells #[.bool bb, .slice Ab lb.length cb, .int .i64 xb] 24)
  have RB := Blk.new ((w.alloc (.cells #[.bool ba, .slice Aa la.length ca, .int .i64 xa] 24)).alloc (.cells #[.bool bb, .slice Ab lb.length cb, .int .i64 xb] 24)) [.bool bc, .slice Ac lc.length cc, .int .i64 xc] 24
  simp only [World.size_alloc] at RB
  replace PB := Blk.alloc PB (.cells #[.bool bc, .slice Ac lc.length cc, .int .i64 xc] 24)
  replace QB := Blk.alloc QB (.cells #[.bool bc, .slice Ac lc.length cc, .int .i64 xc] 24)
  have bw : Below w.heap.size w (((w.alloc (.cells #[.bool ba, .slice Aa la.length ca, .int .i64 xa] 24)).alloc (.cells #[.bool bb, .slice Ab lb.length cb, .int .i64 xb] 24)).alloc (.cells #[.bool bc, .slice Ac lc.length cc, .int .i64 xc] 24)) := by go_grown
  obtain ⟨PB_0, PB_1, PB_2, PB_f0, PB_f1, PB_f2⟩ := Dbx.cells PB
  obtain ⟨QB_0, QB_1, QB_2, QB_f0, QB_f1, QB_f2⟩ := Dbx.cells QB
  obtain ⟨RB_0, RB_1, RB_2, RB_f0, RB_f1, RB_f2⟩ := Dbx.cells RB
  replace ma := ma.on bw
  replace mb := mb.on bw
  replace mc := mc.on bw
  go_enter Tryz.func12, Tryz.ntmps12
  go_wp2_with fail
  with_reducible refine (dknown_any _ (hT.onD (by go_grown)) (hP.on (by go_grown))).mono ?_
  rintro e w1 ⟨rfl, hb⟩
  clear PB_0 PB_1 PB_2 PB_f0 PB_f1 PB_f2
  clear QB_0 QB_1 QB_2 QB_f0 QB_f1 QB_f2
  clear RB_0 RB_1 RB_2 RB_f0 RB_f1 RB_f2
  have hs1 := hb.size
  try simp only [World.size_alloc, World.size_setCell] at hs1
  replace bw : Below w.heap.size w w1 := dy_end (by go_grown) hb
  replace ma := Lv.on ma hb
  replace mb := Lv.on mb hb
  replace mc := Lv.on mc hb
  replace PB := Blk.on PB hb
  replace QB := Blk.on QB hb
  replace RB := Blk.on RB hb
  clear hb
  obtain ⟨PB_0, PB_1, PB_2, PB_f0, PB_f1, PB_f2⟩ := Dbx.cells PB
  obtain ⟨QB_0, QB_1, QB_2, QB_f0, QB_f1, QB_f2⟩ := Dbx.cells QB
  obtain ⟨RB_0, RB_1, RB_2, RB_f0, RB_f1, RB_f2⟩ := Dbx.cells RB
  go_wp2_with fail
  have NB : Blk (w1.alloc (.cells #[.bool ba, .slice Aa la.length ca, .int .i64 xa, .bool bb, .slice Ab lb.length cb, .int .i64 xb, .bool bc, .slice Ac lc.length cc, .int .i64 xc] 24)) w1.heap.size (three ⟨ba, Aa, ca, xa, la⟩ ⟨bb, Ab, cb, xb, lb⟩ ⟨bc, Ac, cc, xc, lc⟩) := Blk.new w1 _ _
  have hd := Dl.three NB (Lv.alloc ma (.cells #[.bool ba, .slice Aa la.length ca, .int .i64 xa, .bool bb, .slice Ab lb.length cb, .int .i64 xb, .bool bc, .slice Ac lc.length cc, .int .i64 xc] 24)) (Lv.alloc mb (.cells #[.bool ba, .slice Aa la.length ca, .int .i64 xa, .bool bb, .slice Ab lb.length cb, .int .i64 xb, .bool bc, .slice Ac lc.length cc, .int .i64 xc] 24)) (Lv.alloc mc (.cells #[.bool ba, .slice Aa la.length ca, .int .i64 xa, .bool bb, .slice Ab lb.length cb, .int .i64 xb, .bool bc, .slice Ac lc.length cc, .int .i64 xc] 24)) ⟨ya0, ya1⟩ ⟨yb0, yb1⟩ ⟨yc0, yc1⟩
  have hp := (small_any hd).resolve_right (fun q => hok q.1)
  clear hd NB
  with_reducible refine hp.mono ?_
  rintro e v0 ⟨rfl, rfl⟩
  clear hp
  go_wp2_with fail
  go_ret
  exact ⟨rfl, by go_grown⟩

set_option maxRecDepth 100000 in
set_option maxHeartbeats 16000000 in
theorem rings_main (ma : Lv w Aa la.length ca la) (ya0 : -9223372036854775808 ≤ xa) (ya1 : xa ≤ 9223372036854775807) (mb : Lv w Ab lb.length cb lb) (yb0 : -9223372036854775808 ≤ xb) (yb1 : xb ≤ 9223372036854775807) (mc : Lv w Ac lc.length cc lc) (yc0 : -9223372036854775808 ≤ xc) (yc1 : xc ≤ 9223372036854775807) (HOK : Hid (∀ e ∈ [(⟨ba, Aa, ca, xa, la⟩ : De), ⟨bb, Ab, cb, xb, lb⟩, ⟨bc, Ac, cc, xc, lc⟩], e.ok)) {na nb nc nS nU nX nY nT nZ nD nK nL nM : Nf} {sg : Int} (sa : Nst ba la xa na) (sb : Nst bb lb xb nb) (sc : Nst bc lc xc nc) (ia : na.In (-9000) 9000) (ib : nb.In (-9000) 9000) (ic : nc.In (-9000) 9000) (iS : nS.In (-9000) 9000) (iU : nU.In (-9000) 9000) (iX : nX.In (-9000) 9000) (iY : nY.In (-9000) 9000) (iT : nT.In (-9000) 9000) (iZ : nZ.In (-9000) 9000) (iD : nD.In (-9000) 9000) (iK : nK.In (-9000) 9000) (iL : nL.In (-9000) 9000) (iM : nM.In (-9000) 9000) (E1 : Hid (sumN na nb = nS)) (E2 : Hid (sumN nb na = nS)) (E3 : Hid (mulN nS nc = nU)) (E4 : Hid (mulN na nc = nX)) (E5 : Hid (mulN nc nb = nY)) (E6 : Hid (sumN nX nY = nU)) (E7 : Hid (sumN nS nc = nT)) (E8 : Hid (sumN nb nc = nZ)) (E9 : Hid (sumN na nZ = nT)) (E10 : Hid (sumN na (negN nb) = nD)) (E11 : Hid (sumN nS (negN nb) = na)) (E12 : Hid (sgn (sumN na (negN nb)) = sg)) (E13 : Hid (mulN nS nD = nK)) (E14 : Hid (mulN na na = nL)) (E15 : Hid (mulN nb nb = nM)) (E16 : Hid (sumN nL (negN nM) = nK)) (E17 : Hid (sgn nD = sg)) (hT : Tab w) (hP : PowT w) :
    Calls Tryz.prog 12 #[dyV ba Aa la.length ca xa, dyV bb Ab lb.length cb xb, dyV bc Ac lc.length cc xc] w fun e w' => e = .returned (.bool true) ∧ Below w.heap.size w w' := by
  have PB := Blk.new w [.bool ba, .slice Aa la.length ca, .int .i64 xa] 24
  have QB := Blk.new (w.alloc (.cells #[.bool ba, .slice Aa la.length ca, .int .i64 xa] 24)) [.bool bb, .slice Ab lb.length cb, .int .i64 xb] 24
  simp only [World.size_alloc] at QB
  replace PB := Blk.alloc PB (.cells #[.bool bb, .slice Ab lb.length cb, .int .i64 xb] 24)
  have RB := Blk.new ((w.alloc (.cells #[.bool ba, .slice Aa la.length ca, .int .i64 xa] 24)).alloc (.cells #[.bool bb, .slice Ab lb.length cb, .int .i64 xb] 24)) [.bool bc, .slice Ac lc.length cc, .int .i64 xc] 24
  simp only [World.size_alloc] at RB
  replace PB := Blk.alloc PB (.cells #[.bool bc, .slice Ac lc.length cc, .int .i64 xc] 24)
  replace QB := Blk.alloc QB (.cells #[.bool bc, .slice Ac lc.length cc, .int .i64 xc] 24)
  have bw : Below w.heap.size w (((w.alloc (.cells #[.bool ba, .slice Aa la.length ca, .int .i64 xa] 24)).alloc (.cells #[.bool bb, .slice Ab lb.length cb, .int .i64 xb] 24)).alloc (.cells #[.bool bc, .slice Ac lc.length cc, .int .i64 xc] 24)) := by go_grown
  obtain ⟨PB_0, PB_1, PB_2, PB_f0, PB_f1, PB_f2⟩ := Dbx.cells PB
  obtain ⟨QB_0, QB_1, QB_2, QB_f0, QB_f1, QB_f2⟩ := Dbx.cells QB
  obtain ⟨RB_0, RB_1, RB_2, RB_f0, RB_f1, RB_f2⟩ := Dbx.cells RB
  replace ma := ma.on bw
  replace mb := mb.on bw
  replace mc := mc.on bw
  go_enter Tryz.func12, Tryz.ntmps12
  go_wp2_with fail
  with_reducible refine (dknown_any _ (hT.onD (by go_grown)) (hP.on (by go_grown))).mono ?_
  rintro e w1 ⟨rfl, hb⟩
  clear PB_0 PB_1 PB_2 PB_f0 PB_f1 PB_f2
  clear QB_0 QB_1 QB_2 QB_f0 QB_f1 QB_f2
  clear RB_0 RB_1 RB_2 RB_f0 RB_f1 RB_f2
  have hs1 := hb.size
  try simp only [World.size_alloc, World.size_setCell] at hs1
  replace bw : Below w.heap.size w w1 := dy_end (by go_grown) hb
  replace ma := Lv.on ma hb
  replace mb := Lv.on mb hb
  replace mc := Lv.on mc hb
  replace PB := Blk.on PB hb
  replace QB := Blk.on QB hb
  replace RB := Blk.on RB hb
  clear hb
  obtain ⟨PB_0, PB_1, PB_2, PB_f0, PB_f1, PB_f2⟩ := Dbx.cells PB
  obtain ⟨QB_0, QB_1, QB_2, QB_f0, QB_f1, QB_f2⟩ := Dbx.cells QB
  obtain ⟨RB_0, RB_1, RB_2, RB_f0, RB_f1, RB_f2⟩ := Dbx.cells RB
  go_wp2_with fail
  have NB : Blk (w1.alloc (.cells #[.bool ba, .slice Aa la.length ca, .int .i64 xa, .bool bb, .slice Ab lb.length cb, .int .i64 xb, .bool bc, .slice Ac lc.length cc, .int .i64 xc] 24)) w1.heap.size (three ⟨ba, Aa, ca, xa, la⟩ ⟨bb, Ab, cb, xb, lb⟩ ⟨bc, Ac, cc, xc, lc⟩) := Blk.new w1 _ _
  have hd := Dl.three NB (Lv.alloc ma (.cells #[.bool ba, .slice Aa la.length ca, .int .i64 xa, .bool bb, .slice Ab lb.length cb, .int .i64 xb, .bool bc, .slice Ac lc.length cc, .int .i64 xc] 24)) (Lv.alloc mb (.cells #[.bool ba, .slice Aa la.length ca, .int .i64 xa, .bool bb, .slice Ab lb.length cb, .int .i64 xb, .bool bc, .slice Ac lc.length cc, .int .i64 xc] 24)) (Lv.alloc mc (.cells #[.bool ba, .slice Aa la.length ca, .int .i64 xa, .bool bb, .slice Ab lb.length cb, .int .i64 xb, .bool bc, .slice Ac lc.length cc, .int .i64 xc] 24)) ⟨ya0, ya1⟩ ⟨yb0, yb1⟩ ⟨yc0, yc1⟩
  have hp := small_all hd HOK.out (B := true) (by decide)
  clear hd NB
  with_reducible refine hp.mono ?_
  rintro e v0 ⟨rfl, rfl⟩
  clear hp
  replace ma := Lv.alloc ma (.cells #[.bool ba, .slice Aa la.length ca, .int .i64 xa, .bool bb, .slice Ab lb.length cb, .int .i64 xb, .bool bc, .slice Ac lc.length cc, .int .i64 xc] 24)
  replace mb := Lv.alloc mb (.cells #[.bool ba, .slice Aa la.length ca, .int .i64 xa, .bool bb, .slice Ab lb.length cb, .int .i64 xb, .bool bc, .slice Ac lc.length cc, .int .i64 xc] 24)
  replace mc := Lv.alloc mc (.cells #[.bool ba, .slice Aa la.length ca, .int .i64 xa, .bool bb, .slice Ab lb.length cb, .int .i64 xb, .bool bc, .slice Ac lc.length cc, .int .i64 xc] 24)
  clear PB_0 PB_1 PB_2 PB_f0 PB_f1 PB_f2
  replace PB := Blk.alloc PB (.cells #[.bool ba, .slice Aa la.length ca, .int .i64 xa, .bool bb, .slice Ab lb.length cb, .int .i64 xb, .bool bc, .slice Ac lc.length cc, .int .i64 xc] 24)
  clear QB_0 QB_1 QB_2 QB_f0 QB_f1 QB_f2
  replace QB := Blk.alloc QB (.cells #[.bool ba, .slice Aa la.length ca, .int .i64 xa, .bool bb, .slice Ab lb.length cb, .int .i64 xb, .bool bc, .slice Ac lc.length cc, .int .i64 xc] 24)
  clear RB_0 RB_1 RB_2 RB_f0 RB_f1 RB_f2
  replace RB := Blk.alloc RB (.cells #[.bool ba, .slice Aa la.length ca, .int .i64 xa, .bool bb, .slice Ab lb.length cb, .int .i64 xb, .bool bc, .slice Ac lc.length cc, .int .i64 xc] 24)
  have bw9 := bw
  replace bw : Below w.heap.size w (w1.alloc (.cells #[.bool ba, .slice Aa la.length ca, .int .i64 xa, .bool bb, .slice Ab lb.length cb, .int .i64 xb, .bool bc, .slice Ac lc.length cc, .int .i64 xc] 24)) := by go_grown
  clear bw9
  obtain ⟨PB_0, PB_1, PB_2, PB_f0, PB_f1, PB_f2⟩ := Dbx.cells PB
  obtain ⟨QB_0, QB_1, QB_2, QB_f0, QB_f1, QB_f2⟩ := Dbx.cells QB
  obtain ⟨RB_0, RB_1, RB_2, RB_f0, RB_f1, RB_f2⟩ := Dbx.cells RB
  go_wp2_with fail
  with_reducible refine (nAdd ma sa mb sb (hT.onD (by go_grown)) ia ib E1.out).mono ?_
  rintro e w101 ⟨b1, q1, A1, c1, x1, rfl, hd1, m1, hb⟩
  clear PB_0 PB_1 PB_2 PB_f0 PB_f1 PB_f2
  clear QB_0 QB_1 QB_2 QB_f0 QB_f1 QB_f2
  clear RB_0 RB_1 RB_2 RB_f0 RB_f1 RB_f2
  have hs1 := hb.size
  try simp only [World.size_alloc] at hs1
  replace bw : Below w.heap.size w w101 := dy_end (by go_grown) hb
  replace ma := Lv.on ma hb
  replace mb := Lv.on mb hb
  replace mc := Lv.on mc hb
  replace PB := Blk.on PB hb
  replace QB := Blk.on QB hb
  replace RB := Blk.on RB hb
  clear hb
  have s1 := Nst.of hd1 m1.lim iS
  obtain ⟨PB_0, PB_1, PB_2, PB_f0, PB_f1, PB_f2⟩ := Dbx.cells PB
  obtain ⟨QB_0, QB_1, QB_2, QB_f0, QB_f1, QB_f2⟩ := Dbx.cells QB
  obtain ⟨RB_0, RB_1, RB_2, RB_f0, RB_f1, RB_f2⟩ := Dbx.cells RB
  clear PB_0 PB_1 PB_2 PB_f0 PB_f1 PB_f2
  clear QB_0 QB_1 QB_2 QB_f0 QB_f1 QB_f2
  clear RB_0 RB_1 RB_2 RB_f0 RB_f1 RB_f2
  replace ma := Lv.alloc ma (.cells #[.bool b1, .slice A1 q1.length c1, .int .i64 x1] 24)
  replace mb := Lv.alloc mb (.cells #[.bool b1, .slice A1 q1.length c1, .int .i64 x1] 24)
  replace mc := Lv.alloc mc (.cells #[.bool b1, .slice A1 q1.length c1, .int .i64 x1] 24)
  replace m1 := Lv.alloc m1 (.cells #[.bool b1, .slice A1 q1.length c1, .int .i64 x1] 24)
  replace PB := Blk.alloc PB (.cells #[.bool b1, .slice A1 q1.length c1, .int .i64 x1] 24)
  replace QB := Blk.alloc QB (.cells #[.bool b1, .slice A1 q1.length c1, .int .i64 x1] 24)
  replace RB := Blk.alloc RB (.cells #[.bool b1, .slice A1 q1.length c1, .int .i64 x1] 24)
  have Z1 := Blk.new w101 [.bool b1, .slice A1 q1.length c1, .int .i64 x1] 24
  obtain ⟨PB_0, PB_1, PB_2, PB_f0, PB_f1, PB_f2⟩ := Dbx.cells PB
  obtain ⟨QB_0, QB_1, QB_2, QB_f0, QB_f1, QB_f2⟩ := Dbx.cells QB
  obtain ⟨RB_0, RB_1, RB_2, RB_f0, RB_f1, RB_f2⟩ := Dbx.cells RB
  obtain ⟨Z1_0, Z1_1, Z1_2, Z1_f0, Z1_f1, Z1_f2⟩ := Dbx.cells Z1
  go_wp2_with fail
  with_reducible refine (nAdd mb sb ma sa (hT.onD (by go_grown)) ib ia E2.out).mono ?_
  rintro e w102 ⟨b2, q2, A2, c2, x2, rfl, hd2, m2, hb⟩
  clear PB_0 PB_1 PB_2 PB_f0 PB_f1 PB_f2
  clear QB_0 QB_1 QB_2 QB_f0 QB_f1 QB_f2
  clear RB_0 RB_1 RB_2 RB_f0 RB_f1 RB_f2
  clear Z1_0 Z1_1 Z1_2 Z1_f0 Z1_f1 Z1_f2
  have hs2 := hb.size
  try simp only [World.size_alloc] at hs2
  replace bw : Below w.heap.size w w102 := dy_end (by go_grown) hb
  replace ma := Lv.on ma hb
  replace mb := Lv.on mb hb
  replace mc := Lv.on mc hb
  replace m1 := Lv.on m1 hb
  replace PB := Blk.on PB hb
  replace QB := Blk.on QB hb
  replace RB := Blk.on RB hb
  replace Z1 := Blk.on Z1 hb
  clear hb
  obtain ⟨PB_0, PB_1, PB_2, PB_f0, PB_f1, PB_f2⟩ := Dbx.cells PB
  obtain ⟨QB_0, QB_1, QB_2, QB_f0, QB_f1, QB_f2⟩ := Dbx.cells QB
  obtain ⟨RB_0, RB_1, RB_2, RB_f0, RB_f1, RB_f2⟩ := Dbx.cells RB
  obtain ⟨Z1_0, Z1_1, Z1_2, Z1_f0, Z1_f1, Z1_f2⟩ := Dbx.cells Z1
  clear PB_0 PB_1 PB_2 PB_f0 PB_f1 PB_f2
  clear QB_0 QB_1 QB_2 QB_f0 QB_f1 QB_f2
  clear RB_0 RB_1 RB_2 RB_f0 RB_f1 RB_f2
  clear Z1_0 Z1_1 Z1_2 Z1_f0 Z1_f1 Z1_f2
  replace ma := Lv.alloc ma (.cells #[.bool b2, .slice A2 q2.length c2, .int .i64 x2] 24)
  replace mb := Lv.alloc mb (.cells #[.bool b2, .slice A2 q2.length c2, .int .i64 x2] 24)
  replace mc := Lv.alloc mc (.cells #[.bool b2, .slice A2 q2.length c2, .int .i64 x2] 24)
  replace m1 := Lv.alloc m1 (.cells #[.bool b2, .slice A2 q2.length c2, .int .i64 x2] 24)
  replace m2 := Lv.alloc m2 (.cells #[.bool b2, .slice A2 q2.length c2, .int .i64 x2] 24)
  replace PB := Blk.alloc PB (.cells #[.bool b2, .slice A2 q2.length c2, .int .i64 x2] 24)
  replace QB := Blk.alloc QB (.cells #[.bool b2, .slice A2 q2.length c2, .int .i64 x2] 24)
  replace RB := Blk.alloc RB (.cells #[.bool b2, .slice A2 q2.length c2, .int .i64 x2] 24)
  replace Z1 := Blk.alloc Z1 (.cells #[.bool b2, .slice A2 q2.length c2, .int .i64 x2] 24)
  have Z2 := Blk.new w102 [.bool b2, .slice A2 q2.length c2, .int .i64 x2] 24
  obtain ⟨PB_0, PB_1, PB_2, PB_f0, PB_f1, PB_f2⟩ := Dbx.cells PB
  obtain ⟨QB_0, QB_1, QB_2, QB_f0, QB_f1, QB_f2⟩ := Dbx.cells QB
  obtain ⟨RB_0, RB_1, RB_2, RB_f0, RB_f1, RB_f2⟩ := Dbx.cells RB
  obtain ⟨Z1_0, Z1_1, Z1_2, Z1_f0, Z1_f1, Z1_f2⟩ := Dbx.cells Z1
  obtain ⟨Z2_0, Z2_1, Z2_2, Z2_f0, Z2_f1, Z2_f2⟩ := Dbx.cells Z2
  go_wp2_with fail
  with_reducible refine (nMul m1 s1 mc sc (hT.onD (by go_grown)) iS ic E3.out).mono ?_
  rintro e w103 ⟨b3, q3, A3, c3, x3, rfl, hd3, m3, hb⟩
  clear PB_0 PB_1 PB_2 PB_f0 PB_f1 PB_f2
  clear QB_0 QB_1 QB_2 QB_f0 QB_f1 QB_f2
  clear RB_0 RB_1 RB_2 RB_f0 RB_f1 RB_f2
  clear Z1_0 Z1_1 Z1_2 Z1_f0 Z1_f1 Z1_f2
  clear Z2_0 Z2_1 Z2_2 Z2_f0 Z2_f1 Z2_f2
  have hs3 := hb.size
  try simp only [World.size_alloc] at hs3
  replace bw : Below w.heap.size w w103 := dy_end (by go_grown) hb
  replace ma := Lv.on ma hb
  replace mb := Lv.on mb hb
  replace mc := Lv.on mc hb
  replace m1 := Lv.on m1 hb
  replace m2 := Lv.on m2 hb
  replace PB := Blk.on PB hb
  replace QB := Blk.on QB hb
  replace RB := Blk.on RB hb
  replace Z1 := Blk.on Z1 hb
  replace Z2 := Blk.on Z2 hb
  clear hb
  obtain ⟨PB_0, PB_1, PB_2, PB_f0, PB_f1, PB_f2⟩ := Dbx.cells PB
  obtain ⟨QB_0, QB_1, QB_2, QB_f0, QB_f1, QB_f2⟩ := Dbx.cells QB
  obtain ⟨RB_0, RB_1, RB_2, RB_f0, RB_f1, RB_f2⟩ := Dbx.cells RB
  obtain ⟨Z1_0, Z1_1, Z1_2, Z1_f0, Z1_f1, Z1_f2⟩ := Dbx.cells Z1
  obtain ⟨Z2_0, Z2_1, Z2_2, Z2_f0, Z2_f1, Z2_f2⟩ := Dbx.cells Z2
  clear PB_0 PB_1 PB_2 PB_f0 PB_f1 PB_f2
  clear QB_0 QB_1 QB_2 QB_f0 QB_f1 QB_f2
  clear RB_0 RB_1 RB_2 RB_f0 RB_f1 RB_f2
  clear Z1_0 Z1_1 Z1_2 Z1_f0 Z1_f1 Z1_f2
  clear Z2_0 Z2_1 Z2_2 Z2_f0 Z2_f1 Z2_f2
  replace ma := Lv.alloc ma (.cells #[.bool b3, .slice A3 q3.length c3, .int .i64 x3] 24)
  replace mb := Lv.alloc mb (.cells #[.bool b3, .slice A3 q3.length c3, .int .i64 x3] 24)
  replace mc := Lv.alloc mc (.cells #[.bool b3, .slice A3 q3.length c3, .int .i64 x3] 24)
  replace m1 := Lv.alloc m1 (.cells #[.bool b3, .slice A3 q3.length c3, .int .i64 x3] 24)
  replace m2 := Lv.alloc m2 (.cells #[.bool b3, .slice A3 q3.length c3, .int .i64 x3] 24)
  replace m3 := Lv.alloc m3 (.cells #[.bool b3, .slice A3 q3.length c3, .int .i64 x3] 24)
  replace PB := Blk.alloc PB (.cells #[.bool b3, .slice A3 q3.length c3, .int .i64 x3] 24)
  replace QB := Blk.alloc QB (.cells #[.bool b3, .slice A3 q3.length c3, .int .i64 x3] 24)
  replace RB := Blk.alloc RB (.cells #[.bool b3, .slice A3 q3.length c3, .int .i64 x3] 24)
  replace Z1 := Blk.alloc Z1 (.cells #[.bool b3, .slice A3 q3.length c3, .int .i64 x3] 24)
  replace Z2 := Blk.alloc Z2 (.cells #[.bool b3, .slice A3 q3.length c3, .int .i64 x3] 24)
  have Z3 := Blk.new w103 [.bool b3, .slice A3 q3.length c3, .int .i64 x3] 24
  obtain ⟨PB_0, PB_1, PB_2, PB_f0, PB_f1, PB_f2⟩ := Dbx.cells PB
  obtain ⟨QB_0, QB_1, QB_2, QB_f0, QB_f1, QB_f2⟩ := Dbx.cells QB
  obtain ⟨RB_0, RB_1, RB_2, RB_f0, RB_f1, RB_f2⟩ := Dbx.cells RB
  obtain ⟨Z1_0, Z1_1, Z1_2, Z1_f0, Z1_f1, Z1_f2⟩ := Dbx.cells Z1
  obtain ⟨Z2_0, Z2_1, Z2_2, Z2_f0, Z2_f1, Z2_f2⟩ := Dbx.cells Z2
  obtain ⟨Z3_0, Z3_1, Z3_2, Z3_f0, Z3_f1, Z3_f2⟩ := Dbx.cells Z3
  go_wp2_with fail
  with_reducible refine (nMul ma sa mc sc (hT.onD (by go_grown)) ia ic E4.out).mono ?_
  rintro e w104 ⟨b4, q4, A4, c4, x4, rfl, hd4, m4, hb⟩
  clear PB_0 PB_1 PB_2 PB_f0 PB_f1 PB_f2
  clear QB_0 QB_1 QB_2 QB_f0 QB_f1 QB_f2
  clear RB_0 RB_1 RB_2 RB_f0 RB_f1 RB_f2
  clear Z1_0 Z1_1 Z1_2 Z1_f0 Z1_f1 Z1_f2
  clear Z2_0 Z2_1 Z2_2 Z2_f0 Z2_f1 Z2_f2
  clear Z3_0 Z3_1 Z3_2 Z3_f0 Z3_f1 Z3_f2
  have hs4 := hb.size
  try simp only [World.size_alloc] at hs4
  replace bw : Below w.heap.size w w104 := dy_end (by go_grown) hb
  replace ma := Lv.on ma hb
  replace mb := Lv.on mb hb
  replace mc := Lv.on mc hb
  replace m1 := Lv.on m1 hb
  replace m2 := Lv.on m2 hb
  replace m3 := Lv.on m3 hb
  replace PB := Blk.on PB hb
  replace QB := Blk.on QB hb
  replace RB := Blk.on RB hb
  replace Z1 := Blk.on Z1 hb
  replace Z2 := Blk.on Z2 hb
  replace Z3 := Blk.on Z3 hb
  clear hb
  have s4 := Nst.of hd4 m4.lim iX
  obtain ⟨PB_0, PB_1, PB_2, PB_f0, PB_f1, PB_f2⟩ := Dbx.cells PB
  obtain ⟨QB_0, QB_1, QB_2, QB_f0, QB_f1, QB_f2⟩ := Dbx.cells QB
  obtain ⟨RB_0, RB_1, RB_2, RB_f0, RB_f1, RB_f2⟩ := Dbx.cells RB
  obtain ⟨Z1_0, Z1_1, Z1_2, Z1_f0, Z1_f1, Z1_f2⟩ := Dbx.cells Z1
  obtain ⟨Z2_0, Z2_1, Z2_2, Z2_f0, Z2_f1, Z2_f2⟩ := Dbx.cells Z2
  obtain ⟨Z3_0, Z3_1, Z3_2, Z3_f0, Z3_f1, Z3_f2⟩ := Dbx.cells Z3
  clear PB_0 PB_1 PB_2 PB_f0 PB_f1 PB_f2
  clear QB_0 QB_1 QB_2 QB_f0 QB_f1 QB_f2
  clear RB_0 RB_1 RB_2 RB_f0 RB_f1 RB_f2
  clear Z1_0 Z1_1 Z1_2 Z1_f0 Z1_f1 Z1_f2
  clear Z2_0 Z2_1 Z2_2 Z2_f0 Z2_f1 Z2_f2
  clear Z3_0 Z3_1 Z3_2 Z3_f0 Z3_f1 Z3_f2
  replace ma := Lv.alloc ma (.cells #[.bool b4, .slice A4 q4.length c4, .int .i64 x4] 24)
  replace mb := Lv.alloc mb (.cells #[.bool b4, .slice A4 q4.length c4, .int .i64 x4] 24)
  replace mc := Lv.alloc mc (.cells #[.bool b4, .slice A4 q4.length c4, .int .i64 x4] 24)
  replace m1 := Lv.alloc m1 (.cells #[.bool b4, .slice A4 q4.length c4, .int .i64 x4] 24)
  replace m2 := Lv.alloc m2 (.cells #[.bool b4, .slice A4 q4.length c4, .int .i64 x4] 24)
  replace m3 := Lv.alloc m3 (.cells #[.bool b4, .slice A4 q4.length c4, .int .i64 x4] 24)
  replace m4 := Lv.alloc m4 (.cells #[.bool b4, .slice A4 q4.length c4, .int .i64 x4] 24)
  replace PB := Blk.alloc PB (.cells #[.bool b4, .slice A4 q4.length c4, .int .i64 x4] 24)
  replace QB := Blk.alloc QB (.cells #[.bool b4, .slice A4 q4.length c4, .int .i64 x4] 24)
  replace RB := Blk.alloc RB (.cells #[.bool b4, .slice A4 q4.length c4, .int .i64 x4] 24)
  replace Z1 := Blk.alloc Z1 (.cells #[.bool b4, .slice A4 q4.length c4, .int .i64 x4] 24)
  replace Z2 := Blk.alloc Z2 (.cells #[.bool b4, .slice A4 q4.length c4, .int .i64 x4] 24)
  replace Z3 := Blk.alloc Z3 (.cells #[.bool b4, .slice A4 q4.length c4, .int .i64 x4] 24)
  have Z4 := Blk.new w104 [.bool b4, .slice A4 q4.length c4, .int .i64 x4] 24
  obtain ⟨PB_0, PB_1, PB_2, PB_f0, PB_f1, PB_f2⟩ := Dbx.cells PB
  obtain ⟨QB_0, QB_1, QB_2, QB_f0, QB_f1, QB_f2⟩ := Dbx.cells QB
  obtain ⟨RB_0, RB_1, RB_2, RB_f0, RB_f1, RB_f2⟩ := Dbx.cells RB
  obtain ⟨Z1_0, Z1_1, Z1_2, Z1_f0, Z1_f1, Z1_f2⟩ := Dbx.cells Z1
  obtain ⟨Z2_0, Z2_1, Z2_2, Z2_f0, Z2_f1, Z2_f2⟩ := Dbx.cells Z2
  obtain ⟨Z3_0, Z3_1, Z3_2, Z3_f0, Z3_f1, Z3_f2⟩ := Dbx.cells Z3
  obtain ⟨Z4_0, Z4_1, Z4_2, Z4_f0, Z4_f1, Z4_f2⟩ := Dbx.cells Z4
  go_wp2_with fail
  with_reducible refine (nMul mc sc mb sb (hT.onD (by go_grown)) ic ib E5.out).mono ?_
  rintro e w105 ⟨b5, q5, A5, c5, x5, rfl, hd5, m5, hb⟩
  clear PB_0 PB_1 PB_2 PB_f0 PB_f1 PB_f2
  clear QB_0 QB_1 QB_2 QB_f0 QB_f1 QB_f2
  clear RB_0 RB_1 RB_2 RB_f0 RB_f1 RB_f2
  clear Z1_0 Z1_1 Z1_2 Z1_f0 Z1_f1 Z1_f2
  clear Z2_0 Z2_1 Z2_2 Z2_f0 Z2_f1 Z2_f2
  clear Z3_0 Z3_1 Z3_2 Z3_f0 Z3_f1 Z3_f2
  clear Z4_0 Z4_1 Z4_2 Z4_f0 Z4_f1 Z4_f2
  have hs5 := hb.size
  try simp only [World.size_alloc] at hs5
  replace bw : Below w.heap.size w w105 := dy_end (by go_grown) hb
  replace ma := Lv.on ma hb
  replace mb := Lv.on mb hb
  replace mc := Lv.on mc hb
  replace m1 := Lv.on m1 hb
  replace m2 := Lv.on m2 hb
  replace m3 := Lv.on m3 hb
  replace m4 := Lv.on m4 hb
  replace PB := Blk.on PB hb
  replace QB := Blk.on QB hb
  replace RB := Blk.on RB hb
  replace Z1 := Blk.on Z1 hb
  replace Z2 := Blk.on Z2 hb
  replace Z3 := Blk.on Z3 hb
  replace Z4 := Blk.on Z4 hb
  clear hb
  have s5 := Nst.of hd5 m5.lim iY
  obtain ⟨PB_0, PB_1, PB_2, PB_f0, PB_f1, PB_f2⟩ := Dbx.cells PB
  obtain ⟨QB_0, QB_1, QB_2, QB_f0, QB_f1, QB_f2⟩ := Dbx.cells QB
  obtain ⟨RB_0, RB_1, RB_2, RB_f0, RB_f1, RB_f2⟩ := Dbx.cells RB
  obtain ⟨Z1_0, Z1_1, Z1_2, Z1_f0, Z1_f1, Z1_f2⟩ := Dbx.cells Z1
  obtain ⟨Z2_0, Z2_1, Z2_2, Z2_f0, Z2_f1, Z2_f2⟩ := Dbx.cells Z2
  obtain ⟨Z3_0, Z3_1, Z3_2, Z3_f0, Z3_f1, Z3_f2⟩ := Dbx.cells Z3
  obtain ⟨Z4_0, Z4_1, Z4_2, Z4_f0, Z4_f1, Z4_f2⟩ := Dbx.cells Z4
  clear PB_0 PB_1 PB_2 PB_f0 PB_f1 PB_f2
  clear QB_0 QB_1 QB_2 QB_f0 QB_f1 QB_f2
  clear RB_0 RB_1 RB_2 RB_f0 RB_f1 RB_f2
  clear Z1_0 Z1_1 Z1_2 Z1_f0 Z1_f1 Z1_f2
  clear Z2_0 Z2_1 Z2_2 Z2_f0 Z2_f1 Z2_f2
  clear Z3_0 Z3_1 Z3_2 Z3_f0 Z3_f1 Z3_f2
  clear Z4_0 Z4_1 Z4_2 Z4_f0 Z4_f1 Z4_f2
  replace ma := Lv.alloc ma (.cells #[.bool b5, .slice A5 q5.length c5, .int .i64 x5] 24)
  replace mb := Lv.alloc mb (.cells #[.bool b5, .slice A5 q5.length c5, .int .i64 x5] 24)
  replace mc := Lv.alloc mc (.cells #[.bool b5, .slice A5 q5.length c5, .int .i64 x5] 24)
  replace m1 := Lv.alloc m1 (.cells #[.bool b5, .slice A5 q5.length c5, .int .i64 x5] 24)
  replace m2 := Lv.alloc m2 (.cells #[.bool b5, .slice A5 q5.length c5, .int .i64 x5] 24)
  replace m3 := Lv.alloc m3 (.cells #[.bool b5, .slice A5 q5.length c5, .int .i64 x5] 24)
  replace m4 := Lv.alloc m4 (.cells #[.bool b5, .slice A5 q5.length c5, .int .i64 x5] 24)
  replace m5 := Lv.alloc m5 (.cells #[.bool b5, .slice A5 q5.length c5, .int .i64 x5] 24)
  replace PB := Blk.alloc PB (.cells #[.bool b5, .slice A5 q5.length c5, .int .i64 x5] 24)
  replace QB := Blk.alloc QB (.cells #[.bool b5, .slice A5 q5.length c5, .int .i64 x5] 24)
  replace RB := Blk.alloc RB (.cells #[.bool b5, .slice A5 q5.length c5, .int .i64 x5] 24)
  replace Z1 := Blk.alloc Z1 (.cells #[.bool b5, .slice A5 q5.length c5, .int .i64 x5] 24)
  replace Z2 := Blk.alloc Z2 (.cells #[.bool b5, .slice A5 q5.length c5, .int .i64 x5] 24)
  replace Z3 := Blk.alloc Z3 (.cells #[.bool b5, .slice A5 q5.length c5, .int .i64 x5] 24)
  replace Z4 := Blk.alloc Z4 (.cells #[.bool b5, .slice A5 q5.length c5, .int .i64 x5] 24)
  have Z5 := Blk.new w105 [.bool b5, .slice A5 q5.length c5, .int .i64 x5] 24
  obtain ⟨PB_0, PB_1, PB_2, PB_f0, PB_f1, PB_f2⟩ := Dbx.cells PB
  obtain ⟨QB_0, QB_1, QB_2, QB_f0, QB_f1, QB_f2⟩ := Dbx.cells QB
  obtain ⟨RB_0, RB_1, RB_2, RB_f0, RB_f1, RB_f2⟩ := Dbx.cells RB
  obtain ⟨Z1_0, Z1_1, Z1_2, Z1_f0, Z1_f1, Z1_f2⟩ := Dbx.cells Z1
  obtain ⟨Z2_0, Z2_1, Z2_2, Z2_f0, Z2_f1, Z2_f2⟩ := Dbx.cells Z2
  obtain ⟨Z3_0, Z3_1, Z3_2, Z3_f0, Z3_f1, Z3_f2⟩ := Dbx.cells Z3
  obtain ⟨Z4_0, Z4_1, Z4_2, Z4_f0, Z4_f1, Z4_f2⟩ := Dbx.cells Z4
  obtain ⟨Z5_0, Z5_1, Z5_2, Z5_f0, Z5_f1, Z5_f2⟩ := Dbx.cells Z5
  go_wp2_with fail
  with_reducible refine (nAdd m4 s4 m5 s5 (hT.onD (by go_grown)) iX iY E6.out).mono ?_
  rintro e w106 ⟨b6, q6, A6, c6, x6, rfl, hd6, m6, hb⟩
  clear PB_0 PB_1 PB_2 PB_f0 PB_f1 PB_f2
  clear QB_0 QB_1 QB_2 QB_f0 QB_f1 QB_f2
  clear RB_0 RB_1 RB_2 RB_f0 RB_f1 RB_f2
  clear Z1_0 Z1_1 Z1_2 Z1_f0 Z1_f1 Z1_f2
  clear Z2_0 Z2_1 Z2_2 Z2_f0 Z2_f1 Z2_f2
  clear Z3_0 Z3_1 Z3_2 Z3_f0 Z3_f1 Z3_f2
  clear Z4_0 Z4_1 Z4_2 Z4_f0 Z4_f1 Z4_f2
  clear Z5_0 Z5_1 Z5_2 Z5_f0 Z5_f1 Z5_f2
  have hs6 := hb.size
  try simp only [World.size_alloc] at hs6
  replace bw : Below w.heap.size w w106 := dy_end (by go_grown) hb
  replace ma := Lv.on ma hb
  replace mb := Lv.on mb hb
  replace mc := Lv.on mc hb
  replace m1 := Lv.on m1 hb
  replace m2 := Lv.on m2 hb
  replace m3 := Lv.on m3 hb
  replace m4 := Lv.on m4 hb
  replace m5 := Lv.on m5 hb
  replace PB := Blk.on PB hb
  replace QB := Blk.on QB hb
  replace RB := Blk.on RB hb
  replace Z1 := Blk.on Z1 hb
  replace Z2 := Blk.on Z2 hb
  replace Z3 := Blk.on Z3 hb
  replace Z4 := Blk.on Z4 hb
  replace Z5 := Blk.on Z5 hb
  clear hb
  obtain ⟨PB_0, PB_1, PB_2, PB_f0, PB_f1, PB_f2⟩ := Dbx.cells PB
  obtain ⟨QB_0, QB_1, QB_2, QB_f0, QB_f1, QB_f2⟩ := Dbx.cells QB
  obtain ⟨RB_0, RB_1, RB_2, RB_f0, RB_f1, RB_f2⟩ := Dbx.cells RB
  obtain ⟨Z1_0, Z1_1, Z1_2, Z1_f0, Z1_f1, Z1_f2⟩ := Dbx.cells Z1
  obtain ⟨Z2_0, Z2_1, Z2_2, Z2_f0, Z2_f1, Z2_f2⟩ := Dbx.cells Z2
  obtain ⟨Z3_0, Z3_1, Z3_2, Z3_f0, Z3_f1, Z3_f2⟩ := Dbx.cells Z3
  obtain ⟨Z4_0, Z4_1, Z4_2, Z4_f0, Z4_f1, Z4_f2⟩ := Dbx.cells Z4
  obtain ⟨Z5_0, Z5_1, Z5_2, Z5_f0, Z5_f1, Z5_f2⟩ := Dbx.cells Z5
  clear PB_0 PB_1 PB_2 PB_f0 PB_f1 PB_f2
  clear QB_0 QB_1 QB_2 QB_f0 QB_f1 QB_f2
  clear RB_0 RB_1 RB_2 RB_f0 RB_f1 RB_f2
  clear Z1_0 Z1_1 Z1_2 Z1_f0 Z1_f1 Z1_f2
  clear Z2_0 Z2_1 Z2_2 Z2_f0 Z2_f1 Z2_f2
  clear Z3_0 Z3_1 Z3_2 Z3_f0 Z3_f1 Z3_f2
  clear Z4_0 Z4_1 Z4_2 Z4_f0 Z4_f1 Z4_f2
  clear Z5_0 Z5_1 Z5_2 Z5_f0 Z5_f1 Z5_f2
  replace ma := Lv.alloc ma (.cells #[.bool b6, .slice A6 q6.length c6, .int .i64 x6] 24)
  replace mb := Lv.alloc mb (.cells #[.bool b6, .slice A6 q6.length c6, .int .i64 x6] 24)
  replace mc := Lv.alloc mc (.cells #[.bool b6, .slice A6 q6.length c6, .int .i64 x6] 24)
  replace m1 := Lv.alloc m1 (.cells #[.bool b6, .slice A6 q6.length c6, .int .i64 x6] 24)
  replace m2 := Lv.alloc m2 (.cells #[.bool b6, .slice A6 q6.length c6, .int .i64 x6] 24)
  replace m3 := Lv.alloc m3 (.cells #[.bool b6, .slice A6 q6.length c6, .int .i64 x6] 24)
  replace m4 := Lv.alloc m4 (.cells #[.bool b6, .slice A6 q6.length c6, .int .i64 x6] 24)
  replace m5 := Lv.alloc m5 (.cells #[.bool b6, .slice A6 q6.length c6, .int .i64 x6] 24)
  replace m6 := Lv.alloc m6 (.cells #[.bool b6, .slice A6 q6.length c6, .int .i64 x6] 24)
  replace PB := Blk.alloc PB (.cells #[.bool b6, .slice A6 q6.length c6, .int .i64 x6] 24)
  replace QB := Blk.alloc QB (.cells #[.bool b6, .slice A6 q6.length c6, .int .i64 x6] 24)
  replace RB := Blk.alloc RB (.cells #[.bool b6, .slice A6 q6.length c6, .int .i64 x6] 24)
  replace Z1 := Blk.alloc Z1 (.cells #[.bool b6, .slice A6 q6.length c6, .int .i64 x6] 24)
  replace Z2 := Blk.alloc Z2 (.cells #[.bool b6, .slice A6 q6.length c6, .int .i64 x6] 24)
  replace Z3 := Blk.alloc Z3 (.cells #[.bool b6, .slice A6 q6.length c6, .int .i64 x6] 24)
  replace Z4 := Blk.alloc Z4 (.cells #[.bool b6, .slice A6 q6.length c6, .int .i64 x6] 24)
  replace Z5 := Blk.alloc Z5 (.cells #[.bool b6, .slice A6 q6.length c6, .int .i64 x6] 24)
  have Z6 := Blk.new w106 [.bool b6, .slice A6 q6.length c6, .int .i64 x6] 24
  obtain ⟨PB_0, PB_1, PB_2, PB_f0, PB_f1, PB_f2⟩ := Dbx.cells PB
  obtain ⟨QB_0, QB_1, QB_2, QB_f0, QB_f1, QB_f2⟩ := Dbx.cells QB
  obtain ⟨RB_0, RB_1, RB_2, RB_f0, RB_f1, RB_f2⟩ := Dbx.cells RB
  obtain ⟨Z1_0, Z1_1, Z1_2, Z1_f0, Z1_f1, Z1_f2⟩ := Dbx.cells Z1
  obtain ⟨Z2_0, Z2_1, Z2_2, Z2_f0, Z2_f1, Z2_f2⟩ := Dbx.cells Z2
  obtain ⟨Z3_0, Z3_1, Z3_2, Z3_f0, Z3_f1, Z3_f2⟩ := Dbx.cells Z3
  obtain ⟨Z4_0, Z4_1, Z4_2, Z4_f0, Z4_f1, Z4_f2⟩ := Dbx.cells Z4
  obtain ⟨Z5_0, Z5_1, Z5_2, Z5_f0, Z5_f1, Z5_f2⟩ := Dbx.cells Z5
  obtain ⟨Z6_0, Z6_1, Z6_2, Z6_f0, Z6_f1, Z6_f2⟩ := Dbx.cells Z6
  go_wp2_with fail
  with_reducible refine (nAdd m1 s1 mc sc (hT.onD (by go_grown)) iS ic E7.out).mono ?_
  rintro e w107 ⟨b7, q7, A7, c7, x7, rfl, hd7, m7, hb⟩
  clear PB_0 PB_1 PB_2 PB_f0 PB_f1 PB_f2
  clear QB_0 QB_1 QB_2 QB_f0 QB_f1 QB_f2
  clear RB_0 RB_1 RB_2 RB_f0 RB_f1 RB_f2
  clear Z1_0 Z1_1 Z1_2 Z1_f0 Z1_f1 Z1_f2
  clear Z2_0 Z2_1 Z2_2 Z2_f0 Z2_f1 Z2_f2
  clear Z3_0 Z3_1 Z3_2 Z3_f0 Z3_f1 Z3_f2
  clear Z4_0 Z4_1 Z4_2 Z4_f0 Z4_f1 Z4_f2
  clear Z5_0 Z5_1 Z5_2 Z5_f0 Z5_f1 Z5_f2
  clear Z6_0 Z6_1 Z6_2 Z6_f0 Z6_f1 Z6_f2
  have hs7 := hb.size
  try simp only [World.size_alloc] at hs7
  replace bw : Below w.heap.size w w107 := dy_end (by go_grown) hb
  replace ma := Lv.on ma hb
  replace mb := Lv.on mb hb
  replace mc := Lv.on mc hb
  replace m1 := Lv.on m1 hb
  replace m2 := Lv.on m2 hb
  replace m3 := Lv.on m3 hb
  replace m4 := Lv.on m4 hb
  replace m5 := Lv.on m5 hb
  replace m6 := Lv.on m6 hb
  replace PB := Blk.on PB hb
  replace QB := Blk.on QB hb
  replace RB := Blk.on RB hb
  replace Z1 := Blk.on Z1 hb
  replace Z2 := Blk.on Z2 hb
  replace Z3 := Blk.on Z3 hb
  replace Z4 := Blk.on Z4 hb
  replace Z5 := Blk.on Z5 hb
  replace Z6 := Blk.on Z6 hb
  clear hb
  obtain ⟨PB_0, PB_1, PB_2, PB_f0, PB_f1, PB_f2⟩ := Dbx.cells PB
  obtain ⟨QB_0, QB_1, QB_2, QB_f0, QB_f1, QB_f2⟩ := Dbx.cells QB
  obtain ⟨RB_0, RB_1, RB_2, RB_f0, RB_f1, RB_f2⟩ := Dbx.cells RB
  obtain ⟨Z1_0, Z1_1, Z1_2, Z1_f0, Z1_f1, Z1_f2⟩ := Dbx.cells Z1
  obtain ⟨Z2_0, Z2_1, Z2_2, Z2_f0, Z2_f1, Z2_f2⟩ := Dbx.cells Z2
  obtain ⟨Z3_0, Z3_1, Z3_2, Z3_f0, Z3_f1, Z3_f2⟩ := Dbx.cells Z3
  obtain ⟨Z4_0, Z4_1, Z4_2, Z4_f0, Z4_f1, Z4_f2⟩ := Dbx.cells Z4
  obtain ⟨Z5_0, Z5_1, Z5_2, Z5_f0, Z5_f1, Z5_f2⟩ := Dbx.cells Z5
  obtain ⟨Z6_0, Z6_1, Z6_2, Z6_f0, Z6_f1, Z6_f2⟩ := Dbx.cells Z6
  clear PB_0 PB_1 PB_2 PB_f0 PB_f1 PB_f2
  clear QB_0 QB_1 QB_2 QB_f0 QB_f1 QB_f2
  clear RB_0 RB_1 RB_2 RB_f0 RB_f1 RB_f2
  clear Z1_0 Z1_1 Z1_2 Z1_f0 Z1_f1 Z1_f2
  clear Z2_0 Z2_1 Z2_2 Z2_f0 Z2_f1 Z2_f2
  clear Z3_0 Z3_1 Z3_2 Z3_f0 Z3_f1 Z3_f2
  clear Z4_0 Z4_1 Z4_2 Z4_f0 Z4_f1 Z4_f2
  clear Z5_0 Z5_1 Z5_2 Z5_f0 Z5_f1 Z5_f2
  clear Z6_0 Z6_1 Z6_2 Z6_f0 Z6_f1 Z6_f2
  replace ma := Lv.alloc ma (.cells #[.bool b7, .slice A7 q7.length c7, .int .i64 x7] 24)
  replace mb := Lv.alloc mb (.cells #[.bool b7, .slice A7 q7.length c7, .int .i64 x7] 24)
  replace mc := Lv.alloc mc (.cells #[.bool b7, .slice A7 q7.length c7, .int .i64 x7] 24)
  replace m1 := Lv.alloc m1 (.cells #[.bool b7, .slice A7 q7.length c7, .int .i64 x7] 24)
  replace m2 := Lv.alloc m2 (.cells #[.bool b7, .slice A7 q7.length c7, .int .i64 x7] 24)
  replace m3 := Lv.alloc m3 (.cells #[.bool b7, .slice A7 q7.length c7, .int .i64 x7] 24)
  replace m4 := Lv.alloc m4 (.cells #[.bool b7, .slice A7 q7.length c7, .int .i64 x7] 24)
  replace m5 := Lv.alloc m5 (.cells #[.bool b7, .slice A7 q7.length c7, .int .i64 x7] 24)
  replace m6 := Lv.alloc m6 (.cells #[.bool b7, .slice A7 q7.length c7, .int .i64 x7] 24)
  replace m7 := Lv.alloc m7 (.cells #[.bool b7, .slice A7 q7.length c7, .int .i64 x7] 24)
  replace PB := Blk.alloc PB (.cells #[.bool b7, .slice A7 q7.length c7, .int .i64 x7] 24)
  replace QB := Blk.alloc QB (.cells #[.bool b7, .slice A7 q7.length c7, .int .i64 x7] 24)
  replace RB := Blk.alloc RB (.cells #[.bool b7, .slice A7 q7.length c7, .int .i64 x7] 24)
  replace Z1 := Blk.alloc Z1 (.cells #[.bool b7, .slice A7 q7.length c7, .int .i64 x7] 24)
  replace Z2 := Blk.alloc Z2 (.cells #[.bool b7, .slice A7 q7.length c7, .int .i64 x7] 24)
  replace Z3 := Blk.alloc Z3 (.cells #[.bool b7, .slice A7 q7.length c7, .int .i64 x7] 24)
  replace Z4 := Blk.alloc Z4 (.cells #[.bool b7, .slice A7 q7.length c7, .int .i64 x7] 24)
  replace Z5 := Blk.alloc Z5 (.cells #[.bool b7, .slice A7 q7.length c7, .int .i64 x7] 24)
  replace Z6 := Blk.alloc Z6 (.cells #[.bool b7, .slice A7 q7.length c7, .int .i64 x7] 24)
  have Z7 := Blk.new w107 [.bool b7, .slice A7 q7.length c7, .int .i64 x7] 24
  obtain ⟨PB_0, PB_1, PB_2, PB_f0, PB_f1, PB_f2⟩ := Dbx.cells PB
  obtain ⟨QB_0, QB_1, QB_2, QB_f0, QB_f1, QB_f2⟩ := Dbx.cells QB
  obtain ⟨RB_0, RB_1, RB_2, RB_f0, RB_f1, RB_f2⟩ := Dbx.cells RB
  obtain ⟨Z1_0, Z1_1, Z1_2, Z1_f0, Z1_f1, Z1_f2⟩ := Dbx.cells Z1
  obtain ⟨Z2_0, Z2_1, Z2_2, Z2_f0, Z2_f1, Z2_f2⟩ := Dbx.cells Z2
  obtain ⟨Z3_0, Z3_1, Z3_2, Z3_f0, Z3_f1, Z3_f2⟩ := Dbx.cells Z3
  obtain ⟨Z4_0, Z4_1, Z4_2, Z4_f0, Z4_f1, Z4_f2⟩ := Dbx.cells Z4
  obtain ⟨Z5_0, Z5_1, Z5_2, Z5_f0, Z5_f1, Z5_f2⟩ := Dbx.cells Z5
  obtain ⟨Z6_0, Z6_1, Z6_2, Z6_f0, Z6_f1, Z6_f2⟩ := Dbx.cells Z6
  obtain ⟨Z7_0, Z7_1, Z7_2, Z7_f0, Z7_f1, Z7_f2⟩ := Dbx.cells Z7
  go_wp2_with fail
  with_reducible refine (nAdd mb sb mc sc (hT.onD (by go_grown)) ib ic E8.out).mono ?_
  rintro e w108 ⟨b8, q8, A8, c8, x8, rfl, hd8, m8, hb⟩
  clear PB_0 PB_1 PB_2 PB_f0 PB_f1 PB_f2
  clear QB_0 QB_1 QB_2 QB_f0 QB_f1 QB_f2
  clear RB_0 RB_1 RB_2 RB_f0 RB_f1 RB_f2
  clear Z1_0 Z1_1 Z1_2 Z1_f0 Z1_f1 Z1_f2
  clear Z2_0 Z2_1 Z2_2 Z2_f0 Z2_f1 Z2_f2
  clear Z3_0 Z3_1 Z3_2 Z3_f0 Z3_f1 Z3_f2
  clear Z4_0 Z4_1 Z4_2 Z4_f0 Z4_f1 Z4_f2
  clear Z5_0 Z5_1 Z5_2 Z5_f0 Z5_f1 Z5_f2
  clear Z6_0 Z6_1 Z6_2 Z6_f0 Z6_f1 Z6_f2
  clear Z7_0 Z7_1 Z7_2 Z7_f0 Z7_f1 Z7_f2
  have hs8 := hb.size
  try simp only [World.size_alloc] at hs8
  replace bw : Below w.heap.size w w108 := dy_end (by go_grown) hb
  replace ma := Lv.on ma hb
  replace mb := Lv.on mb hb
  replace mc := Lv.on mc hb
  replace m1 := Lv.on m1 hb
  replace m2 := Lv.on m2 hb
  replace m3 := Lv.on m3 hb
  replace m4 := Lv.on m4 hb
  replace m5 := Lv.on m5 hb
  replace m6 := Lv.on m6 hb
  replace m7 := Lv.on m7 hb
  replace PB := Blk.on PB hb
  replace QB := Blk.on QB hb
  replace RB := Blk.on RB hb
  replace Z1 := Blk.on Z1 hb
  replace Z2 := Blk.on Z2 hb
  replace Z3 := Blk.on Z3 hb
  replace Z4 := Blk.on Z4 hb
  replace Z5 := Blk.on Z5 hb
  replace Z6 := Blk.on Z6 hb
  replace Z7 := Blk.on Z7 hb
  clear hb
  have s8 := Nst.of hd8 m8.lim iZ
  obtain ⟨PB_0, PB_1, PB_2, PB_f0, PB_f1, PB_f2⟩ := Dbx.cells PB
  obtain ⟨QB_0, QB_1, QB_2, QB_f0, QB_f1, QB_f2⟩ := Dbx.cells QB
  obtain ⟨RB_0, RB_1, RB_2, RB_f0, RB_f1, RB_f2⟩ := Dbx.cells RB
  obtain ⟨Z1_0, Z1_1, Z1_2, Z1_f0, Z1_f1, Z1_f2⟩ := Dbx.cells Z1
  obtain ⟨Z2_0, Z2_1, Z2_2, Z2_f0, Z2_f1, Z2_f2⟩ := Dbx.cells Z2
  obtain ⟨Z3_0, Z3_1, Z3_2, Z3_f0, Z3_f1, Z3_f2⟩ := Dbx.cells Z3
  obtain ⟨Z4_0, Z4_1, Z4_2, Z4_f0, Z4_f1, Z4_f2⟩ := Dbx.cells Z4
  obtain ⟨Z5_0, Z5_1, Z5_2, Z5_f0, Z5_f1, Z5_f2⟩ := Dbx.cells Z5
  obtain ⟨Z6_0, Z6_1, Z6_2, Z6_f0, Z6_f1, Z6_f2⟩ := Dbx.cells Z6
  obtain ⟨Z7_0, Z7_1, Z7_2, Z7_f0, Z7_f1, Z7_f2⟩ := Dbx.cells Z7
  clear PB_0 PB_1 PB_2 PB_f0 PB_f1 PB_f2
  clear QB_0 QB_1 QB_2 QB_f0 QB_f1 QB_f2
  clear RB_0 RB_1 RB_2 RB_f0 RB_f1 RB_f2
  clear Z1_0 Z1_1 Z1_2 Z1_f0 Z1_f1 Z1_f2
  clear Z2_0 Z2_1 Z2_2 Z2_f0 Z2_f1 Z2_f2
  clear Z3_0 Z3_1 Z3_2 Z3_f0 Z3_f1 Z3_f2
  clear Z4_0 Z4_1 Z4_2 Z4_f0 Z4_f1 Z4_f2
  clear Z5_0 Z5_1 Z5_2 Z5_f0 Z5_f1 Z5_f2
  clear Z6_0 Z6_1 Z6_2 Z6_f0 Z6_f1 Z6_f2
  clear Z7_0 Z7_1 Z7_2 Z7_f0 Z7_f1 Z7_f2
  replace ma := Lv.alloc ma (.cells #[.bool b8, .slice A8 q8.length c8, .int .i64 x8] 24)
  replace mb := Lv.alloc mb (.cells #[.bool b8, .slice A8 q8.length c8, .int .i64 x8] 24)
  replace mc := Lv.alloc mc (.cells #[.bool b8, .slice A8 q8.length c8, .int .i64 x8] 24)
  replace m1 := Lv.alloc m1 (.cells #[.bool b8, .slice A8 q8.length c8, .int .i64 x8] 24)
  replace m2 := Lv.alloc m2 (.cells #[.bool b8, .slice A8 q8.length c8, .int .i64 x8] 24)
  replace m3 := Lv.alloc m3 (.cells #[.bool b8, .slice A8 q8.length c8, .int .i64 x8] 24)
  replace m4 := Lv.alloc m4 (.cells #[.bool b8, .slice A8 q8.length c8, .int .i64 x8] 24)
  replace m5 := Lv.alloc m5 (.cells #[.bool b8, .slice A8 q8.length c8, .int .i64 x8] 24)
  replace m6 := Lv.alloc m6 (.cells #[.bool b8, .slice A8 q8.length c8, .int .i64 x8] 24)
  replace m7 := Lv.alloc m7 (.cells #[.bool b8, .slice A8 q8.length c8, .int .i64 x8] 24)
  replace m8 := Lv.alloc m8 (.cells #[.bool b8, .slice A8 q8.length c8, .int .i64 x8] 24)
  replace PB := Blk.alloc PB (.cells #[.bool b8, .slice A8 q8.length c8, .int .i64 x8] 24)
  replace QB := Blk.alloc QB (.cells #[.bool b8, .slice A8 q8.length c8, .int .i64 x8] 24)
  replace RB := Blk.alloc RB (.cells #[.bool b8, .slice A8 q8.length c8, .int .i64 x8] 24)
  replace Z1 := Blk.alloc Z1 (.cells #[.bool b8, .slice A8 q8.length c8, .int .i64 x8] 24)
  replace Z2 := Blk.alloc Z2 (.cells #[.bool b8, .slice A8 q8.length c8, .int .i64 x8] 24)
  replace Z3 := Blk.alloc Z3 (.cells #[.bool b8, .slice A8 q8.length c8, .int .i64 x8] 24)
  replace Z4 := Blk.alloc Z4 (.cells #[.bool b8, .slice A8 q8.length c8, .int .i64 x8] 24)
  replace Z5 := Blk.alloc Z5 (.cells #[.bool b8, .slice A8 q8.length c8, .int .i64 x8] 24)
  replace Z6 := Blk.alloc Z6 (.cells #[.bool b8, .slice A8 q8.length c8, .int .i64 x8] 24)
  replace Z7 := Blk.alloc Z7 (.cells #[.bool b8, .slice A8 q8.length c8, .int .i64 x8] 24)
  have Z8 := Blk.new w108 [.bool b8, .slice A8 q8.length c8, .int .i64 x8] 24
  obtain ⟨PB_0, PB_1, PB_2, PB_f0, PB_f1, PB_f2⟩ := Dbx.cells PB
  obtain ⟨QB_0, QB_1, QB_2, QB_f0, QB_f1, QB_f2⟩ := Dbx.cells QB
  obtain ⟨RB_0, RB_1, RB_2, RB_f0, RB_f1, RB_f2⟩ := Dbx.cells RB
  obtain ⟨Z1_0, Z1_1, Z1_2, Z1_f0, Z1_f1, Z1_f2⟩ := Dbx.cells Z1
  obtain ⟨Z2_0, Z2_1, Z2_2, Z2_f0, Z2_f1, Z2_f2⟩ := Dbx.cells Z2
  obtain ⟨Z3_0, Z3_1, Z3_2, Z3_f0, Z3_f1, Z3_f2⟩ := Dbx.cells Z3
  obtain ⟨Z4_0, Z4_1, Z4_2, Z4_f0, Z4_f1, Z4_f2⟩ := Dbx.cells Z4
  obtain ⟨Z5_0, Z5_1, Z5_2, Z5_f0, Z5_f1, Z5_f2⟩ := Dbx.cells Z5
  obtain ⟨Z6_0, Z6_1, Z6_2, Z6_f0, Z6_f1, Z6_f2⟩ := Dbx.cells Z6
  obtain ⟨Z7_0, Z7_1, Z7_2, Z7_f0, Z7_f1, Z7_f2⟩ := Dbx.cells Z7
  obtain ⟨Z8_0, Z8_1, Z8_2, Z8_f0, Z8_f1, Z8_f2⟩ := Dbx.cells Z8
  go_wp2_with fail
  with_reducible refine (nAdd ma sa m8 s8 (hT.onD (by go_grown)) ia iZ E9.out).mono ?_
  rintro e w109 ⟨b9, q9, A9, c9, x9, rfl, hd9, m9, hb⟩
  clear PB_0 PB_1 PB_2 PB_f0 PB_f1 PB_f2
  clear QB_0 QB_1 QB_2 QB_f0 QB_f1 QB_f2
  clear RB_0 RB_1 RB_2 RB_f0 RB_f1 RB_f2
  clear Z1_0 Z1_1 Z1_2 Z1_f0 Z1_f1 Z1_f2
  clear Z2_0 Z2_1 Z2_2 Z2_f0 Z2_f1 Z2_f2
  clear Z3_0 Z3_1 Z3_2 Z3_f0 Z3_f1 Z3_f2
  clear Z4_0 Z4_1 Z4_2 Z4_f0 Z4_f1 Z4_f2
  clear Z5_0 Z5_1 Z5_2 Z5_f0 Z5_f1 Z5_f2
  clear Z6_0 Z6_1 Z6_2 Z6_f0 Z6_f1 Z6_f2
  clear Z7_0 Z7_1 Z7_2 Z7_f0 Z7_f1 Z7_f2
  clear Z8_0 Z8_1 Z8_2 Z8_f0 Z8_f1 Z8_f2
  have hs9 := hb.size
  try simp only [World.size_alloc] at hs9
  replace bw : Below w.heap.size w w109 := dy_end (by go_grown) hb
  replace ma := Lv.on ma hb
  replace mb := Lv.on mb hb
  replace mc := Lv.on mc hb
  replace m1 := Lv.on m1 hb
  replace m2 := Lv.on m2 hb
  replace m3 := Lv.on m3 hb
  replace m4 := Lv.on m4 hb
  replace m5 := Lv.on m5 hb
  replace m6 := Lv.on m6 hb
  replace m7 := Lv.on m7 hb
  replace m8 := Lv.on m8 hb
  replace PB := Blk.on PB hb
  replace QB := Blk.on QB hb
  replace RB := Blk.on RB hb
  replace Z1 := Blk.on Z1 hb
  replace Z2 := Blk.on Z2 hb
  replace Z3 := Blk.on Z3 hb
  replace Z4 := Blk.on Z4 hb
  replace Z5 := Blk.on Z5 hb
  replace Z6 := Blk.on Z6 hb
  replace Z7 := Blk.on Z7 hb
  replace Z8 := Blk.on Z8 hb
  clear hb
  obtain ⟨PB_0, PB_1, PB_2, PB_f0, PB_f1, PB_f2⟩ := Dbx.cells PB
  obtain ⟨QB_0, QB_1, QB_2, QB_f0, QB_f1, QB_f2⟩ := Dbx.cells QB
  obtain ⟨RB_0, RB_1, RB_2, RB_f0, RB_f1, RB_f2⟩ := Dbx.cells RB
  obtain ⟨Z1_0, Z1_1, Z1_2, Z1_f0, Z1_f1, Z1_f2⟩ := Dbx.cells Z1
  obtain ⟨Z2_0, Z2_1, Z2_2, Z2_f0, Z2_f1, Z2_f2⟩ := Dbx.cells Z2
  obtain ⟨Z3_0, Z3_1, Z3_2, Z3_f0, Z3_f1, Z3_f2⟩ := Dbx.cells Z3
  obtain ⟨Z4_0, Z4_1, Z4_2, Z4_f0, Z4_f1, Z4_f2⟩ := Dbx.cells Z4
  obtain ⟨Z5_0, Z5_1, Z5_2, Z5_f0, Z5_f1, Z5_f2⟩ := Dbx.cells Z5
  obtain ⟨Z6_0, Z6_1, Z6_2, Z6_f0, Z6_f1, Z6_f2⟩ := Dbx.cells Z6
  obtain ⟨Z7_0, Z7_1, Z7_2, Z7_f0, Z7_f1, Z7_f2⟩ := Dbx.cells Z7
  obtain ⟨Z8_0, Z8_1, Z8_2, Z8_f0, Z8_f1, Z8_f2⟩ := Dbx.cells Z8
  clear PB_0 PB_1 PB_2 PB_f0 PB_f1 PB_f2
  clear QB_0 QB_1 QB_2 QB_f0 QB_f1 QB_f2
  clear RB_0 RB_1 RB_2 RB_f0 RB_f1 RB_f2
  clear Z1_0 Z1_1 Z1_2 Z1_f0 Z1_f1 Z1_f2
  clear Z2_0 Z2_1 Z2_2 Z2_f0 Z2_f1 Z2_f2
  clear Z3_0 Z3_1 Z3_2 Z3_f0 Z3_f1 Z3_f2
  clear Z4_0 Z4_1 Z4_2 Z4_f0 Z4_f1 Z4_f2
  clear Z5_0 Z5_1 Z5_2 Z5_f0 Z5_f1 Z5_f2
  clear Z6_0 Z6_1 Z6_2 Z6_f0 Z6_f1 Z6_f2
  clear Z7_0 Z7_1 Z7_2 Z7_f0 Z7_f1 Z7_f2
  clear Z8_0 Z8_1 Z8_2 Z8_f0 Z8_f1 Z8_f2
  replace ma := Lv.alloc ma (.cells #[.bool b9, .slice A9 q9.length c9, .int .i64 x9] 24)
  replace mb := Lv.alloc mb (.cells #[.bool b9, .slice A9 q9.length c9, .int .i64 x9] 24)
  replace mc := Lv.alloc mc (.cells #[.bool b9, .slice A9 q9.length c9, .int .i64 x9] 24)
  replace m1 := Lv.alloc m1 (.cells #[.bool b9, .slice A9 q9.length c9, .int .i64 x9] 24)
  replace m2 := Lv.alloc m2 (.cells #[.bool b9, .slice A9 q9.length c9, .int .i64 x9] 24)
  replace m3 := Lv.alloc m3 (.cells #[.bool b9, .slice A9 q9.length c9, .int .i64 x9] 24)
  replace m4 := Lv.alloc m4 (.cells #[.bool b9, .slice A9 q9.length c9, .int .i64 x9] 24)
  replace m5 := Lv.alloc m5 (.cells #[.bool b9, .slice A9 q9.length c9, .int .i64 x9] 24)
  replace m6 := Lv.alloc m6 (.cells #[.bool b9, .slice A9 q9.length c9, .int .i64 x9] 24)
  replace m7 := Lv.alloc m7 (.cells #[.bool b9, .slice A9 q9.length c9, .int .i64 x9] 24)
  replace m8 := Lv.alloc m8 (.cells #[.bool b9, .slice A9 q9.length c9, .int .i64 x9] 24)
  replace m9 := Lv.alloc m9 (.cells #[.bool b9, .slice A9 q9.length c9, .int .i64 x9] 24)
  replace PB := Blk.alloc PB (.cells #[.bool b9, .slice A9 q9.length c9, .int .i64 x9] 24)
  replace QB := Blk.alloc QB (.cells #[.bool b9, .slice A9 q9.length c9, .int .i64 x9] 24)
  replace RB := Blk.alloc RB (.cells #[.bool b9, .slice A9 q9.length c9, .int .i64 x9] 24)
  replace Z1 := Blk.alloc Z1 (.cells #[.bool b9, .slice A9 q9.length c9, .int .i64 x9] 24)
  replace Z2 := Blk.alloc Z2 (.cells #[.bool b9, .slice A9 q9.length c9, .int .i64 x9] 24)
  replace Z3 := Blk.alloc Z3 (.cells #[.bool b9, .slice A9 q9.length c9, .int .i64 x9] 24)
  replace Z4 := Blk.alloc Z4 (.cells #[.bool b9, .slice A9 q9.length c9, .int .i64 x9] 24)
  replace Z5 := Blk.alloc Z5 (.cells #[.bool b9, .slice A9 q9.length c9, .int .i64 x9] 24)
  replace Z6 := Blk.alloc Z6 (.cells #[.bool b9, .slice A9 q9.length c9, .int .i64 x9] 24)
  replace Z7 := Blk.alloc Z7 (.cells #[.bool b9, .slice A9 q9.length c9, .int .i64 x9] 24)
  replace Z8 := Blk.alloc Z8 (.cells #[.bool b9, .slice A9 q9.length c9, .int .i64 x9] 24)
  have Z9 := Blk.new w109 [.bool b9, .slice A9 q9.length c9, .int .i64 x9] 24
  obtain ⟨PB_0, PB_1, PB_2, PB_f0, PB_f1, PB_f2⟩ := Dbx.cells PB
  obtain ⟨QB_0, QB_1, QB_2, QB_f0, QB_f1, QB_f2⟩ := Dbx.cells QB
  obtain ⟨RB_0, RB_1, RB_2, RB_f0, RB_f1, RB_f2⟩ := Dbx.cells RB
  obtain ⟨Z1_0, Z1_1, Z1_2, Z1_f0, Z1_f1, Z1_f2⟩ := Dbx.cells Z1
  obtain ⟨Z2_0, Z2_1, Z2_2, Z2_f0, Z2_f1, Z2_f2⟩ := Dbx.cells Z2
  obtain ⟨Z3_0, Z3_1, Z3_2, Z3_f0, Z3_f1, Z3_f2⟩ := Dbx.cells Z3
  obtain ⟨Z4_0, Z4_1, Z4_2, Z4_f0, Z4_f1, Z4_f2⟩ := Dbx.cells Z4
  obtain ⟨Z5_0, Z5_1, Z5_2, Z5_f0, Z5_f1, Z5_f2⟩ := Dbx.cells Z5
  obtain ⟨Z6_0, Z6_1, Z6_2, Z6_f0, Z6_f1, Z6_f2⟩ := Dbx.cells Z6
  obtain ⟨Z7_0, Z7_1, Z7_2, Z7_f0, Z7_f1, Z7_f2⟩ := Dbx.cells Z7
  obtain ⟨Z8_0, Z8_1, Z8_2, Z8_f0, Z8_f1, Z8_f2⟩ := Dbx.cells Z8
  obtain ⟨Z9_0, Z9_1, Z9_2, Z9_f0, Z9_f1, Z9_f2⟩ := Dbx.cells Z9
  go_wp2_with fail
  with_reducible refine (nSub ma sa mb sb (hT.onD (by go_grown)) ia ib E10.out).mono ?_
  rintro e w110 ⟨b10, q10, A10, c10, x10, rfl, hd10, m10, hb⟩
  clear PB_0 PB_1 PB_2 PB_f0 PB_f1 PB_f2
  clear QB_0 QB_1 QB_2 QB_f0 QB_f1 QB_f2
  clear RB_0 RB_1 RB_2 RB_f0 RB_f1 RB_f2
  clear Z1_0 Z1_1 Z1_2 Z1_f0 Z1_f1 Z1_f2
  clear Z2_0 Z2_1 Z2_2 Z2_f0 Z2_f1 Z2_f2
  clear Z3_0 Z3_1 Z3_2 Z3_f0 Z3_f1 Z3_f2
  clear Z4_0 Z4_1 Z4_2 Z4_f0 Z4_f1 Z4_f2
  clear Z5_0 Z5_1 Z5_2 Z5_f0 Z5_f1 Z5_f2
  clear Z6_0 Z6_1 Z6_2 Z6_f0 Z6_f1 Z6_f2
  clear Z7_0 Z7_1 Z7_2 Z7_f0 Z7_f1 Z7_f2
  clear Z8_0 Z8_1 Z8_2 Z8_f0 Z8_f1 Z8_f2
  clear Z9_0 Z9_1 Z9_2 Z9_f0 Z9_f1 Z9_f2
  have hs10 := hb.size
  try simp only [World.size_alloc] at hs10
  replace bw : Below w.heap.size w w110 := dy_end (by go_grown) hb
  replace ma := Lv.on ma hb
  replace mb := Lv.on mb hb
  replace mc := Lv.on mc hb
  replace m1 := Lv.on m1 hb
  replace m2 := Lv.on m2 hb
  replace m3 := Lv.on m3 hb
  replace m4 := Lv.on m4 hb
  replace m5 := Lv.on m5 hb
  replace m6 := Lv.on m6 hb
  replace m7 := Lv.on m7 hb
  replace m8 := Lv.on m8 hb
  replace m9 := Lv.on m9 hb
  replace PB := Blk.on PB hb
  replace QB := Blk.on QB hb
  replace RB := Blk.on RB hb
  replace Z1 := Blk.on Z1 hb
  replace Z2 := Blk.on Z2 hb
  replace Z3 := Blk.on Z3 hb
  replace Z4 := Blk.on Z4 hb
  replace Z5 := Blk.on Z5 hb
  replace Z6 := Blk.on Z6 hb
  replace Z7 := Blk.on Z7 hb
  replace Z8 := Blk.on Z8 hb
  replace Z9 := Blk.on Z9 hb
  clear hb
  have s10 := Nst.of hd10 m10.lim iD
  obtain ⟨PB_0, PB_1, PB_2, PB_f0, PB_f1, PB_f2⟩ := Dbx.cells PB
  obtain ⟨QB_0, QB_1, QB_2, QB_f0, QB_f1, QB_f2⟩ := Dbx.cells QB
  obtain ⟨RB_0, RB_1, RB_2, RB_f0, RB_f1, RB_f2⟩ := Dbx.cells RB
  obtain ⟨Z1_0, Z1_1, Z1_2, Z1_f0, Z1_f1, Z1_f2⟩ := Dbx.cells Z1
  obtain ⟨Z2_0, Z2_1, Z2_2, Z2_f0, Z2_f1, Z2_f2⟩ := Dbx.cells Z2
  obtain ⟨Z3_0, Z3_1, Z3_2, Z3_f0, Z3_f1, Z3_f2⟩ := Dbx.cells Z3
  obtain ⟨Z4_0, Z4_1, Z4_2, Z4_f0, Z4_f1, Z4_f2⟩ := Dbx.cells Z4
  obtain ⟨Z5_0, Z5_1, Z5_2, Z5_f0, Z5_f1, Z5_f2⟩ := Dbx.cells Z5
  obtain ⟨Z6_0, Z6_1, Z6_2, Z6_f0, Z6_f1, Z6_f2⟩ := Dbx.cells Z6
  obtain ⟨Z7_0, Z7_1, Z7_2, Z7_f0, Z7_f1, Z7_f2⟩ := Dbx.cells Z7
  obtain ⟨Z8_0, Z8_1, Z8_2, Z8_f0, Z8_f1, Z8_f2⟩ := Dbx.cells Z8
  obtain ⟨Z9_0, Z9_1, Z9_2, Z9_f0, Z9_f1, Z9_f2⟩ := Dbx.cells Z9
  clear PB_0 PB_1 PB_2 PB_f0 PB_f1 PB_f2
  clear QB_0 QB_1 QB_2 QB_f0 QB_f1 QB_f2
  clear RB_0 RB_1 RB_2 RB_f0 RB_f1 RB_f2
  clear Z1_0 Z1_1 Z1_2 Z1_f0 Z1_f1 Z1_f2
  clear Z2_0 Z2_1 Z2_2 Z2_f0 Z2_f1 Z2_f2
  clear Z3_0 Z3_1 Z3_2 Z3_f0 Z3_f1 Z3_f2
  clear Z4_0 Z4_1 Z4_2 Z4_f0 Z4_f1 Z4_f2
  clear Z5_0 Z5_1 Z5_2 Z5_f0 Z5_f1 Z5_f2
  clear Z6_0 Z6_1 Z6_2 Z6_f0 Z6_f1 Z6_f2
  clear Z7_0 Z7_1 Z7_2 Z7_f0 Z7_f1 Z7_f2
  clear Z8_0 Z8_1 Z8_2 Z8_f0 Z8_f1 Z8_f2
  clear Z9_0 Z9_1 Z9_2 Z9_f0 Z9_f1 Z9_f2
  replace ma := Lv.alloc ma (.cells #[.bool b10, .slice A10 q10.length c10, .int .i64 x10] 24)
  replace mb := Lv.alloc mb (.cells #[.bool b10, .slice A10 q10.length c10, .int .i64 x10] 24)
  replace mc := Lv.alloc mc (.cells #[.bool b10, .slice A10 q10.length c10, .int .i64 x10] 24)
  replace m1 := Lv.alloc m1 (.cells #[.bool b10, .slice A10 q10.length c10, .int .i64 x10] 24)
  replace m2 := Lv.alloc m2 (.cells #[.bool b10, .slice A10 q10.length c10, .int .i64 x10] 24)
  replace m3 := Lv.alloc m3 (.cells #[.bool b10, .slice A10 q10.length c10, .int .i64 x10] 24)
  replace m4 := Lv.alloc m4 (.cells #[.bool b10, .slice A10 q10.length c10, .int .i64 x10] 24)
  replace m5 := Lv.alloc m5 (.cells #[.bool b10, .slice A10 q10.length c10, .int .i64 x10] 24)
  replace m6 := Lv.alloc m6 (.cells #[.bool b10, .slice A10 q10.length c10, .int .i64 x10] 24)
  replace m7 := Lv.alloc m7 (.cells #[.bool b10, .slice A10 q10.length c10, .int .i64 x10] 24)
  replace m8 := Lv.alloc m8 (.cells #[.bool b10, .slice A10 q10.length c10, .int .i64 x10] 24)
  replace m9 := Lv.alloc m9 (.cells #[.bool b10, .slice A10 q10.length c10, .int .i64 x10] 24)
  replace m10 := Lv.alloc m10 (.cells #[.bool b10, .slice A10 q10.length c10, .int .i64 x10] 24)
  replace PB := Blk.alloc PB (.cells #[.bool b10, .slice A10 q10.length c10, .int .i64 x10] 24)
  replace QB := Blk.alloc QB (.cells #[.bool b10, .slice A10 q10.length c10, .int .i64 x10] 24)
  replace RB := Blk.alloc RB (.cells #[.bool b10, .slice A10 q10.length c10, .int .i64 x10] 24)
  replace Z1 := Blk.alloc Z1 (.cells #[.bool b10, .slice A10 q10.length c10, .int .i64 x10] 24)
  replace Z2 := Blk.alloc Z2 (.cells #[.bool b10, .slice A10 q10.length c10, .int .i64 x10] 24)
  replace Z3 := Blk.alloc Z3 (.cells #[.bool b10, .slice A10 q10.length c10, .int .i64 x10] 24)
  replace Z4 := Blk.alloc Z4 (.cells #[.bool b10, .slice A10 q10.length c10, .int .i64 x10] 24)
  replace Z5 := Blk.alloc Z5 (.cells #[.bool b10, .slice A10 q10.length c10, .int .i64 x10] 24)
  replace Z6 := Blk.alloc Z6 (.cells #[.bool b10, .slice A10 q10.length c10, .int .i64 x10] 24)
  replace Z7 := Blk.alloc Z7 (.cells #[.bool b10, .slice A10 q10.length c10, .int .i64 x10] 24)
  replace Z8 := Blk.alloc Z8 (.cells #[.bool b10, .slice A10 q10.length c10, .int .i64 x10] 24)
  replace Z9 := Blk.alloc Z9 (.cells #[.bool b10, .slice A10 q10.length c10, .int .i64 x10] 24)
  have Z10 := Blk.new w110 [.bool b10, .slice A10 q10.length c10, .int .i64 x10] 24
  obtain ⟨PB_0, PB_1, PB_2, PB_f0, PB_f1, PB_f2⟩ := Dbx.cells PB
  obtain ⟨QB_0, QB_1, QB_2, QB_f0, QB_f1, QB_f2⟩ := Dbx.cells QB
  obtain ⟨RB_0, RB_1, RB_2, RB_f0, RB_f1, RB_f2⟩ := Dbx.cells RB
  obtain ⟨Z1_0, Z1_1, Z1_2, Z1_f0, Z1_f1, Z1_f2⟩ := Dbx.cells Z1
  obtain ⟨Z2_0, Z2_1, Z2_2, Z2_f0, Z2_f1, Z2_f2⟩ := Dbx.cells Z2
  obtain ⟨Z3_0, Z3_1, Z3_2, Z3_f0, Z3_f1, Z3_f2⟩ := Dbx.cells Z3
  obtain ⟨Z4_0, Z4_1, Z4_2, Z4_f0, Z4_f1, Z4_f2⟩ := Dbx.cells Z4
  obtain ⟨Z5_0, Z5_1, Z5_2, Z5_f0, Z5_f1, Z5_f2⟩ := Dbx.cells Z5
  obtain ⟨Z6_0, Z6_1, Z6_2, Z6_f0, Z6_f1, Z6_f2⟩ := Dbx.cells Z6
  obtain ⟨Z7_0, Z7_1, Z7_2, Z7_f0, Z7_f1, Z7_f2⟩ := Dbx.cells Z7
  obtain ⟨Z8_0, Z8_1, Z8_2, Z8_f0, Z8_f1, Z8_f2⟩ := Dbx.cells Z8
  obtain ⟨Z9_0, Z9_1, Z9_2, Z9_f0, Z9_f1, Z9_f2⟩ := Dbx.cells Z9
  obtain ⟨Z10_0, Z10_1, Z10_2, Z10_f0, Z10_f1, Z10_f2⟩ := Dbx.cells Z10
  go_wp2_with fail
  with_reducible refine (nCmp ma sa mb sb (hT.onD (by go_grown)) ia ib E12.out).mono ?_
  rintro e w110 ⟨rfl, hb⟩
  clear PB_0 PB_1 PB_2 PB_f0 PB_f1 PB_f2
  clear QB_0 QB_1 QB_2 QB_f0 QB_f1 QB_f2
  clear RB_0 RB_1 RB_2 RB_f0 RB_f1 RB_f2
  clear Z1_0 Z1_1 Z1_2 Z1_f0 Z1_f1 Z1_f2
  clear Z2_0 Z2_1 Z2_2 Z2_f0 Z2_f1 Z2_f2
  clear Z3_0 Z3_1 Z3_2 Z3_f0 Z3_f1 Z3_f2
  clear Z4_0 Z4_1 Z4_2 Z4_f0 Z4_f1 Z4_f2
  clear Z5_0 Z5_1 Z5_2 Z5_f0 Z5_f1 Z5_f2
  clear Z6_0 Z6_1 Z6_2 Z6_f0 Z6_f1 Z6_f2
  clear Z7_0 Z7_1 Z7_2 Z7_f0 Z7_f1 Z7_f2
  clear Z8_0 Z8_1 Z8_2 Z8_f0 Z8_f1 Z8_f2
  clear Z9_0 Z9_1 Z9_2 Z9_f0 Z9_f1 Z9_f2
  clear Z10_0 Z10_1 Z10_2 Z10_f0 Z10_f1 Z10_f2
  have hs110 := hb.size
  try simp only [World.size_alloc, World.size_setCell] at hs110
  replace bw : Below w.heap.size w w110 := dy_end (by go_grown) hb
  replace ma := Lv.on ma hb
  replace mb := Lv.on mb hb
  replace mc := Lv.on mc hb
  replace m1 := Lv.on m1 hb
  replace m2 := Lv.on m2 hb
  replace m3 := Lv.on m3 hb
  replace m4 := Lv.on m4 hb
  replace m5 := Lv.on m5 hb
  replace m6 := Lv.on m6 hb
  replace m7 := Lv.on m7 hb
  replace m8 := Lv.on m8 hb
  replace m9 := Lv.on m9 hb
  replace m10 := Lv.on m10 hb
  replace PB := Blk.on PB hb
  replace QB := Blk.on QB hb
  replace RB := Blk.on RB hb
  replace Z1 := Blk.on Z1 hb
  replace Z2 := Blk.on Z2 hb
  replace Z3 := Blk.on Z3 hb
  replace Z4 := Blk.on Z4 hb
  replace Z5 := Blk.on Z5 hb
  replace Z6 := Blk.on Z6 hb
  replace Z7 := Blk.on Z7 hb
  replace Z8 := Blk.on Z8 hb
  replace Z9 := Blk.on Z9 hb
  replace Z10 := Blk.on Z10 hb
  clear hb
  obtain ⟨PB_0, PB_1, PB_2, PB_f0, PB_f1, PB_f2⟩ := Dbx.cells PB
  obtain ⟨QB_0, QB_1, QB_2, QB_f0, QB_f1, QB_f2⟩ := Dbx.cells QB
  obtain ⟨RB_0, RB_1, RB_2, RB_f0, RB_f1, RB_f2⟩ := Dbx.cells RB
  obtain ⟨Z1_0, Z1_1, Z1_2, Z1_f0, Z1_f1, Z1_f2⟩ := Dbx.cells Z1
  obtain ⟨Z2_0, Z2_1, Z2_2, Z2_f0, Z2_f1, Z2_f2⟩ := Dbx.cells Z2
  obtain ⟨Z3_0, Z3_1, Z3_2, Z3_f0, Z3_f1, Z3_f2⟩ := Dbx.cells Z3
  obtain ⟨Z4_0, Z4_1, Z4_2, Z4_f0, Z4_f1, Z4_f2⟩ := Dbx.cells Z4
  obtain ⟨Z5_0, Z5_1, Z5_2, Z5_f0, Z5_f1, Z5_f2⟩ := Dbx.cells Z5
  obtain ⟨Z6_0, Z6_1, Z6_2, Z6_f0, Z6_f1, Z6_f2⟩ := Dbx.cells Z6
  obtain ⟨Z7_0, Z7_1, Z7_2, Z7_f0, Z7_f1, Z7_f2⟩ := Dbx.cells Z7
  obtain ⟨Z8_0, Z8_1, Z8_2, Z8_f0, Z8_f1, Z8_f2⟩ := Dbx.cells Z8
  obtain ⟨Z9_0, Z9_1, Z9_2, Z9_f0, Z9_f1, Z9_f2⟩ := Dbx.cells Z9
  obtain ⟨Z10_0, Z10_1, Z10_2, Z10_f0, Z10_f1, Z10_f2⟩ := Dbx.cells Z10
  go_wp2_with fail
  with_reducible refine (nSub m1 s1 mb sb (hT.onD (by go_grown)) iS ib E11.out).mono ?_
  rintro e w111 ⟨b11, q11, A11, c11, x11, rfl, hd11, m11, hb⟩
  clear PB_0 PB_1 PB_2 PB_f0 PB_f1 PB_f2
  clear QB_0 QB_1 QB_2 QB_f0 QB_f1 QB_f2
  clear RB_0 RB_1 RB_2 RB_f0 RB_f1 RB_f2
  clear Z1_0 Z1_1 Z1_2 Z1_f0 Z1_f1 Z1_f2
  clear Z2_0 Z2_1 Z2_2 Z2_f0 Z2_f1 Z2_f2
  clear Z3_0 Z3_1 Z3_2 Z3_f0 Z3_f1 Z3_f2
  clear Z4_0 Z4_1 Z4_2 Z4_f0 Z4_f1 Z4_f2
  clear Z5_0 Z5_1 Z5_2 Z5_f0 Z5_f1 Z5_f2
  clear Z6_0 Z6_1 Z6_2 Z6_f0 Z6_f1 Z6_f2
  clear Z7_0 Z7_1 Z7_2 Z7_f0 Z7_f1 Z7_f2
  clear Z8_0 Z8_1 Z8_2 Z8_f0 Z8_f1 Z8_f2
  clear Z9_0 Z9_1 Z9_2 Z9_f0 Z9_f1 Z9_f2
  clear Z10_0 Z10_1 Z10_2 Z10_f0 Z10_f1 Z10_f2
  have hs11 := hb.size
  try simp only [World.size_alloc] at hs11
  replace bw : Below w.heap.size w w111 := dy_end (by go_grown) hb
  replace ma := Lv.on ma hb
  replace mb := Lv.on mb hb
  replace mc := Lv.on mc hb
  replace m1 := Lv.on m1 hb
  replace m2 := Lv.on m2 hb
  replace m3 := Lv.on m3 hb
  replace m4 := Lv.on m4 hb
  replace m5 := Lv.on m5 hb
  replace m6 := Lv.on m6 hb
  replace m7 := Lv.on m7 hb
  replace m8 := Lv.on m8 hb
  replace m9 := Lv.on m9 hb
  replace m10 := Lv.on m10 hb
  replace PB := Blk.on PB hb
  replace QB := Blk.on QB hb
  replace RB := Blk.on RB hb
  replace Z1 := Blk.on Z1 hb
  replace Z2 := Blk.on Z2 hb
  replace Z3 := Blk.on Z3 hb
  replace Z4 := Blk.on Z4 hb
  replace Z5 := Blk.on Z5 hb
  replace Z6 := Blk.on Z6 hb
  replace Z7 := Blk.on Z7 hb
  replace Z8 := Blk.on Z8 hb
  replace Z9 := Blk.on Z9 hb
  replace Z10 := Blk.on Z10 hb
  clear hb
  obtain ⟨PB_0, PB_1, PB_2, PB_f0, PB_f1, PB_f2⟩ := Dbx.cells PB
  obtain ⟨QB_0, QB_1, QB_2, QB_f0, QB_f1, QB_f2⟩ := Dbx.cells QB
  obtain ⟨RB_0, RB_1, RB_2, RB_f0, RB_f1, RB_f2⟩ := Dbx.cells RB
  obtain ⟨Z1_0, Z1_1, Z1_2, Z1_f0, Z1_f1, Z1_f2⟩ := Dbx.cells Z1
  obtain ⟨Z2_0, Z2_1, Z2_2, Z2_f0, Z2_f1, Z2_f2⟩ := Dbx.cells Z2
  obtain ⟨Z3_0, Z3_1, Z3_2, Z3_f0, Z3_f1, Z3_f2⟩ := Dbx.cells Z3
  obtain ⟨Z4_0, Z4_1, Z4_2, Z4_f0, Z4_f1, Z4_f2⟩ := Dbx.cells Z4
  obtain ⟨Z5_0, Z5_1, Z5_2, Z5_f0, Z5_f1, Z5_f2⟩ := Dbx.cells Z5
  obtain ⟨Z6_0, Z6_1, Z6_2, Z6_f0, Z6_f1, Z6_f2⟩ := Dbx.cells Z6
  obtain ⟨Z7_0, Z7_1, Z7_2, Z7_f0, Z7_f1, Z7_f2⟩ := Dbx.cells Z7
  obtain ⟨Z8_0, Z8_1, Z8_2, Z8_f0, Z8_f1, Z8_f2⟩ := Dbx.cells Z8
  obtain ⟨Z9_0, Z9_1, Z9_2, Z9_f0, Z9_f1, Z9_f2⟩ := Dbx.cells Z9
  obtain ⟨Z10_0, Z10_1, Z10_2, Z10_f0, Z10_f1, Z10_f2⟩ := Dbx.cells Z10
  clear PB_0 PB_1 PB_2 PB_f0 PB_f1 PB_f2
  clear QB_0 QB_1 QB_2 QB_f0 QB_f1 QB_f2
  clear RB_0 RB_1 RB_2 RB_f0 RB_f1 RB_f2
  clear Z1_0 Z1_1 Z1_2 Z1_f0 Z1_f1 Z1_f2
  clear Z2_0 Z2_1 Z2_2 Z2_f0 Z2_f1 Z2_f2
  clear Z3_0 Z3_1 Z3_2 Z3_f0 Z3_f1 Z3_f2
  clear Z4_0 Z4_1 Z4_2 Z4_f0 Z4_f1 Z4_f2
  clear Z5_0 Z5_1 Z5_2 Z5_f0 Z5_f1 Z5_f2
  clear Z6_0 Z6_1 Z6_2 Z6_f0 Z6_f1 Z6_f2
  clear Z7_0 Z7_1 Z7_2 Z7_f0 Z7_f1 Z7_f2
  clear Z8_0 Z8_1 Z8_2 Z8_f0 Z8_f1 Z8_f2
  clear Z9_0 Z9_1 Z9_2 Z9_f0 Z9_f1 Z9_f2
  clear Z10_0 Z10_1 Z10_2 Z10_f0 Z10_f1 Z10_f2
  replace ma := Lv.alloc ma (.cells #[.bool b11, .slice A11 q11.length c11, .int .i64 x11] 24)
  replace mb := Lv.alloc mb (.cells #[.bool b11, .slice A11 q11.length c11, .int .i64 x11] 24)
  replace mc := Lv.alloc mc (.cells #[.bool b11, .slice A11 q11.length c11, .int .i64 x11] 24)
  replace m1 := Lv.alloc m1 (.cells #[.bool b11, .slice A11 q11.length c11, .int .i64 x11] 24)
  replace m2 := Lv.alloc m2 (.cells #[.bool b11, .slice A11 q11.length c11, .int .i64 x11] 24)
  replace m3 := Lv.alloc m3 (.cells #[.bool b11, .slice A11 q11.length c11, .int .i64 x11] 24)
  replace m4 := Lv.alloc m4 (.cells #[.bool b11, .slice A11 q11.length c11, .int .i64 x11] 24)
  replace m5 := Lv.alloc m5 (.cells #[.bool b11, .slice A11 q11.length c11, .int .i64 x11] 24)
  replace m6 := Lv.alloc m6 (.cells #[.bool b11, .slice A11 q11.length c11, .int .i64 x11] 24)
  replace m7 := Lv.alloc m7 (.cells #[.bool b11, .slice A11 q11.length c11, .int .i64 x11] 24)
  replace m8 := Lv.alloc m8 (.cells #[.bool b11, .slice A11 q11.length c11, .int .i64 x11] 24)
  replace m9 := Lv.alloc m9 (.cells #[.bool b11, .slice A11 q11.length c11, .int .i64 x11] 24)
  replace m10 := Lv.alloc m10 (.cells #[.bool b11, .slice A11 q11.length c11, .int .i64 x11] 24)
  replace m11 := Lv.alloc m11 (.cells #[.bool b11, .slice A11 q11.length c11, .int .i64 x11] 24)
  replace PB := Blk.alloc PB (.cells #[.bool b11, .slice A11 q11.length c11, .int .i64 x11] 24)
  replace QB := Blk.alloc QB (.cells #[.bool b11, .slice A11 q11.length c11, .int .i64 x11] 24)
  replace RB := Blk.alloc RB (.cells #[.bool b11, .slice A11 q11.length c11, .int .i64 x11] 24)
  replace Z1 := Blk.alloc Z1 (.cells #[.bool b11, .slice A11 q11.length c11, .int .i64 x11] 24)
  replace Z2 := Blk.alloc Z2 (.cells #[.bool b11, .slice A11 q11.length c11, .int .i64 x11] 24)
  replace Z3 := Blk.alloc Z3 (.cells #[.bool b11, .slice A11 q11.length c11, .int .i64 x11] 24)
  replace Z4 := Blk.alloc Z4 (.cells #[.bool b11, .slice A11 q11.length c11, .int .i64 x11] 24)
  replace Z5 := Blk.alloc Z5 (.cells #[.bool b11, .slice A11 q11.length c11, .int .i64 x11] 24)
  replace Z6 := Blk.alloc Z6 (.cells #[.bool b11, .slice A11 q11.length c11, .int .i64 x11] 24)
  replace Z7 := Blk.alloc Z7 (.cells #[.bool b11, .slice A11 q11.length c11, .int .i64 x11] 24)
  replace Z8 := Blk.alloc Z8 (.cells #[.bool b11, .slice A11 q11.length c11, .int .i64 x11] 24)
  replace Z9 := Blk.alloc Z9 (.cells #[.bool b11, .slice A11 q11.length c11, .int .i64 x11] 24)
  replace Z10 := Blk.alloc Z10 (.cells #[.bool b11, .slice A11 q11.length c11, .int .i64 x11] 24)
  have Z11 := Blk.new w111 [.bool b11, .slice A11 q11.length c11, .int .i64 x11] 24
  obtain ⟨PB_0, PB_1, PB_2, PB_f0, PB_f1, PB_f2⟩ := Dbx.cells PB
  obtain ⟨QB_0, QB_1, QB_2, QB_f0, QB_f1, QB_f2⟩ := Dbx.cells QB
  obtain ⟨RB_0, RB_1, RB_2, RB_f0, RB_f1, RB_f2⟩ := Dbx.cells RB
  obtain ⟨Z1_0, Z1_1, Z1_2, Z1_f0, Z1_f1, Z1_f2⟩ := Dbx.cells Z1
  obtain ⟨Z2_0, Z2_1, Z2_2, Z2_f0, Z2_f1, Z2_f2⟩ := Dbx.cells Z2
  obtain ⟨Z3_0, Z3_1, Z3_2, Z3_f0, Z3_f1, Z3_f2⟩ := Dbx.cells Z3
  obtain ⟨Z4_0, Z4_1, Z4_2, Z4_f0, Z4_f1, Z4_f2⟩ := Dbx.cells Z4
  obtain ⟨Z5_0, Z5_1, Z5_2, Z5_f0, Z5_f1, Z5_f2⟩ := Dbx.cells Z5
  obtain ⟨Z6_0, Z6_1, Z6_2, Z6_f0, Z6_f1, Z6_f2⟩ := Dbx.cells Z6
  obtain ⟨Z7_0, Z7_1, Z7_2, Z7_f0, Z7_f1, Z7_f2⟩ := Dbx.cells Z7
  obtain ⟨Z8_0, Z8_1, Z8_2, Z8_f0, Z8_f1, Z8_f2⟩ := Dbx.cells Z8
  obtain ⟨Z9_0, Z9_1, Z9_2, Z9_f0, Z9_f1, Z9_f2⟩ := Dbx.cells Z9
  obtain ⟨Z10_0, Z10_1, Z10_2, Z10_f0, Z10_f1, Z10_f2⟩ := Dbx.cells Z10
  obtain ⟨Z11_0, Z11_1, Z11_2, Z11_f0, Z11_f1, Z11_f2⟩ := Dbx.cells Z11
  go_wp2_with fail
  with_reducible refine (nNorm ma sa (hT.onD (by go_grown)) ia).mono ?_
  rintro e w112 ⟨b12, q12, A12, c12, x12, rfl, hd12, m12, hb⟩
  clear PB_0 PB_1 PB_2 PB_f0 PB_f1 PB_f2
  clear QB_0 QB_1 QB_2 QB_f0 QB_f1 QB_f2
  clear RB_0 RB_1 RB_2 RB_f0 RB_f1 RB_f2
  clear Z1_0 Z1_1 Z1_2 Z1_f0 Z1_f1 Z1_f2
  clear Z2_0 Z2_1 Z2_2 Z2_f0 Z2_f1 Z2_f2
  clear Z3_0 Z3_1 Z3_2 Z3_f0 Z3_f1 Z3_f2
  clear Z4_0 Z4_1 Z4_2 Z4_f0 Z4_f1 Z4_f2
  clear Z5_0 Z5_1 Z5_2 Z5_f0 Z5_f1 Z5_f2
  clear Z6_0 Z6_1 Z6_2 Z6_f0 Z6_f1 Z6_f2
  clear Z7_0 Z7_1 Z7_2 Z7_f0 Z7_f1 Z7_f2
  clear Z8_0 Z8_1 Z8_2 Z8_f0 Z8_f1 Z8_f2
  clear Z9_0 Z9_1 Z9_2 Z9_f0 Z9_f1 Z9_f2
  clear Z10_0 Z10_1 Z10_2 Z10_f0 Z10_f1 Z10_f2
  clear Z11_0 Z11_1 Z11_2 Z11_f0 Z11_f1 Z11_f2
  have hs12 := hb.size
  try simp only [World.size_alloc] at hs12
  replace bw : Below w.heap.size w w112 := dy_end (by go_grown) hb
  replace ma := Lv.on ma hb
  replace mb := Lv.on mb hb
  replace mc := Lv.on mc hb
  replace m1 := Lv.on m1 hb
  replace m2 := Lv.on m2 hb
  replace m3 := Lv.on m3 hb
  replace m4 := Lv.on m4 hb
  replace m5 := Lv.on m5 hb
  replace m6 := Lv.on m6 hb
  replace m7 := Lv.on m7 hb
  replace m8 := Lv.on m8 hb
  replace m9 := Lv.on m9 hb
  replace m10 := Lv.on m10 hb
  replace m11 := Lv.on m11 hb
  replace PB := Blk.on PB hb
  replace QB := Blk.on QB hb
  replace RB := Blk.on RB hb
  replace Z1 := Blk.on Z1 hb
  replace Z2 := Blk.on Z2 hb
  replace Z3 := Blk.on Z3 hb
  replace Z4 := Blk.on Z4 hb
  replace Z5 := Blk.on Z5 hb
  replace Z6 := Blk.on Z6 hb
  replace Z7 := Blk.on Z7 hb
  replace Z8 := Blk.on Z8 hb
  replace Z9 := Blk.on Z9 hb
  replace Z10 := Blk.on Z10 hb
  replace Z11 := Blk.on Z11 hb
  clear hb
  obtain ⟨PB_0, PB_1, PB_2, PB_f0, PB_f1, PB_f2⟩ := Dbx.cells PB
  obtain ⟨QB_0, QB_1, QB_2, QB_f0, QB_f1, QB_f2⟩ := Dbx.cells QB
  obtain ⟨RB_0, RB_1, RB_2, RB_f0, RB_f1, RB_f2⟩ := Dbx.cells RB
  obtain ⟨Z1_0, Z1_1, Z1_2, Z1_f0, Z1_f1, Z1_f2⟩ := Dbx.cells Z1
  obtain ⟨Z2_0, Z2_1, Z2_2, Z2_f0, Z2_f1, Z2_f2⟩ := Dbx.cells Z2
  obtain ⟨Z3_0, Z3_1, Z3_2, Z3_f0, Z3_f1, Z3_f2⟩ := Dbx.cells Z3
  obtain ⟨Z4_0, Z4_1, Z4_2, Z4_f0, Z4_f1, Z4_f2⟩ := Dbx.cells Z4
  obtain ⟨Z5_0, Z5_1, Z5_2, Z5_f0, Z5_f1, Z5_f2⟩ := Dbx.cells Z5
  obtain ⟨Z6_0, Z6_1, Z6_2, Z6_f0, Z6_f1, Z6_f2⟩ := Dbx.cells Z6
  obtain ⟨Z7_0, Z7_1, Z7_2, Z7_f0, Z7_f1, Z7_f2⟩ := Dbx.cells Z7
  obtain ⟨Z8_0, Z8_1, Z8_2, Z8_f0, Z8_f1, Z8_f2⟩ := Dbx.cells Z8
  obtain ⟨Z9_0, Z9_1, Z9_2, Z9_f0, Z9_f1, Z9_f2⟩ := Dbx.cells Z9
  obtain ⟨Z10_0, Z10_1, Z10_2, Z10_f0, Z10_f1, Z10_f2⟩ := Dbx.cells Z10
  obtain ⟨Z11_0, Z11_1, Z11_2, Z11_f0, Z11_f1, Z11_f2⟩ := Dbx.cells Z11
  clear PB_0 PB_1 PB_2 PB_f0 PB_f1 PB_f2
  clear QB_0 QB_1 QB_2 QB_f0 QB_f1 QB_f2
  clear RB_0 RB_1 RB_2 RB_f0 RB_f1 RB_f2
  clear Z1_0 Z1_1 Z1_2 Z1_f0 Z1_f1 Z1_f2
  clear Z2_0 Z2_1 Z2_2 Z2_f0 Z2_f1 Z2_f2
  clear Z3_0 Z3_1 Z3_2 Z3_f0 Z3_f1 Z3_f2
  clear Z4_0 Z4_1 Z4_2 Z4_f0 Z4_f1 Z4_f2
  clear Z5_0 Z5_1 Z5_2 Z5_f0 Z5_f1 Z5_f2
  clear Z6_0 Z6_1 Z6_2 Z6_f0 Z6_f1 Z6_f2
  clear Z7_0 Z7_1 Z7_2 Z7_f0 Z7_f1 Z7_f2
  clear Z8_0 Z8_1 Z8_2 Z8_f0 Z8_f1 Z8_f2
  clear Z9_0 Z9_1 Z9_2 Z9_f0 Z9_f1 Z9_f2
  clear Z10_0 Z10_1 Z10_2 Z10_f0 Z10_f1 Z10_f2
  clear Z11_0 Z11_1 Z11_2 Z11_f0 Z11_f1 Z11_f2
  replace ma := Lv.alloc ma (.cells #[.bool b12, .slice A12 q12.length c12, .int .i64 x12] 24)
  replace mb := Lv.alloc mb (.cells #[.bool b12, .slice A12 q12.length c12, .int .i64 x12] 24)
  replace mc := Lv.alloc mc (.cells #[.bool b12, .slice A12 q12.length c12, .int .i64 x12] 24)
  replace m1 := Lv.alloc m1 (.cells #[.bool b12, .slice A12 q12.length c12, .int .i64 x12] 24)
  replace m2 := Lv.alloc m2 (.cells #[.bool b12, .slice A12 q12.length c12, .int .i64 x12] 24)
  replace m3 := Lv.alloc m3 (.cells #[.bool b12, .slice A12 q12.length c12, .int .i64 x12] 24)
  replace m4 := Lv.alloc m4 (.cells #[.bool b12, .slice A12 q12.length c12, .int .i64 x12] 24)
  replace m5 := Lv.alloc m5 (.cells #[.bool b12, .slice A12 q12.length c12, .int .i64 x12] 24)
  replace m6 := Lv.alloc m6 (.cells #[.bool b12, .slice A12 q12.length c12, .int .i64 x12] 24)
  replace m7 := Lv.alloc m7 (.cells #[.bool b12, .slice A12 q12.length c12, .int .i64 x12] 24)
  replace m8 := Lv.alloc m8 (.cells #[.bool b12, .slice A12 q12.length c12, .int .i64 x12] 24)
  replace m9 := Lv.alloc m9 (.cells #[.bool b12, .slice A12 q12.length c12, .int .i64 x12] 24)
  replace m10 := Lv.alloc m10 (.cells #[.bool b12, .slice A12 q12.length c12, .int .i64 x12] 24)
  replace m11 := Lv.alloc m11 (.cells #[.bool b12, .slice A12 q12.length c12, .int .i64 x12] 24)
  replace m12 := Lv.alloc m12 (.cells #[.bool b12, .slice A12 q12.length c12, .int .i64 x12] 24)
  replace PB := Blk.alloc PB (.cells #[.bool b12, .slice A12 q12.length c12, .int .i64 x12] 24)
  replace QB := Blk.alloc QB (.cells #[.bool b12, .slice A12 q12.length c12, .int .i64 x12] 24)
  replace RB := Blk.alloc RB (.cells #[.bool b12, .slice A12 q12.length c12, .int .i64 x12] 24)
  replace Z1 := Blk.alloc Z1 (.cells #[.bool b12, .slice A12 q12.length c12, .int .i64 x12] 24)
  replace Z2 := Blk.alloc Z2 (.cells #[.bool b12, .slice A12 q12.length c12, .int .i64 x12] 24)
  replace Z3 := Blk.alloc Z3 (.cells #[.bool b12, .slice A12 q12.length c12, .int .i64 x12] 24)
  replace Z4 := Blk.alloc Z4 (.cells #[.bool b12, .slice A12 q12.length c12, .int .i64 x12] 24)
  replace Z5 := Blk.alloc Z5 (.cells #[.bool b12, .slice A12 q12.length c12, .int .i64 x12] 24)
  replace Z6 := Blk.alloc Z6 (.cells #[.bool b12, .slice A12 q12.length c12, .int .i64 x12] 24)
  replace Z7 := Blk.alloc Z7 (.cells #[.bool b12, .slice A12 q12.length c12, .int .i64 x12] 24)
  replace Z8 := Blk.alloc Z8 (.cells #[.bool b12, .slice A12 q12.length c12, .int .i64 x12] 24)
  replace Z9 := Blk.alloc Z9 (.cells #[.bool b12, .slice A12 q12.length c12, .int .i64 x12] 24)
  replace Z10 := Blk.alloc Z10 (.cells #[.bool b12, .slice A12 q12.length c12, .int .i64 x12] 24)
  replace Z11 := Blk.alloc Z11 (.cells #[.bool b12, .slice A12 q12.length c12, .int .i64 x12] 24)
  have Z12 := Blk.new w112 [.bool b12, .slice A12 q12.length c12, .int .i64 x12] 24
  obtain ⟨PB_0, PB_1, PB_2, PB_f0, PB_f1, PB_f2⟩ := Dbx.cells PB
  obtain ⟨QB_0, QB_1, QB_2, QB_f0, QB_f1, QB_f2⟩ := Dbx.cells QB
  obtain ⟨RB_0, RB_1, RB_2, RB_f0, RB_f1, RB_f2⟩ := Dbx.cells RB
  obtain ⟨Z1_0, Z1_1, Z1_2, Z1_f0, Z1_f1, Z1_f2⟩ := Dbx.cells Z1
  obtain ⟨Z2_0, Z2_1, Z2_2, Z2_f0, Z2_f1, Z2_f2⟩ := Dbx.cells Z2
  obtain ⟨Z3_0, Z3_1, Z3_2, Z3_f0, Z3_f1, Z3_f2⟩ := Dbx.cells Z3
  obtain ⟨Z4_0, Z4_1, Z4_2, Z4_f0, Z4_f1, Z4_f2⟩ := Dbx.cells Z4
  obtain ⟨Z5_0, Z5_1, Z5_2, Z5_f0, Z5_f1, Z5_f2⟩ := Dbx.cells Z5
  obtain ⟨Z6_0, Z6_1, Z6_2, Z6_f0, Z6_f1, Z6_f2⟩ := Dbx.cells Z6
  obtain ⟨Z7_0, Z7_1, Z7_2, Z7_f0, Z7_f1, Z7_f2⟩ := Dbx.cells Z7
  obtain ⟨Z8_0, Z8_1, Z8_2, Z8_f0, Z8_f1, Z8_f2⟩ := Dbx.cells Z8
  obtain ⟨Z9_0, Z9_1, Z9_2, Z9_f0, Z9_f1, Z9_f2⟩ := Dbx.cells Z9
  obtain ⟨Z10_0, Z10_1, Z10_2, Z10_f0, Z10_f1, Z10_f2⟩ := Dbx.cells Z10
  obtain ⟨Z11_0, Z11_1, Z11_2, Z11_f0, Z11_f1, Z11_f2⟩ := Dbx.cells Z11
  obtain ⟨Z12_0, Z12_1, Z12_2, Z12_f0, Z12_f1, Z12_f2⟩ := Dbx.cells Z12
  go_wp2_with fail
  with_reducible refine (nMul m1 s1 m10 s10 (hT.onD (by go_grown)) iS iD E13.out).mono ?_
  rintro e w113 ⟨b13, q13, A13, c13, x13, rfl, hd13, m13, hb⟩
  clear PB_0 PB_1 PB_2 PB_f0 PB_f1 PB_f2
  clear QB_0 QB_1 QB_2 QB_f0 QB_f1 QB_f2
  clear RB_0 RB_1 RB_2 RB_f0 RB_f1 RB_f2
  clear Z1_0 Z1_1 Z1_2 Z1_f0 Z1_f1 Z1_f2
  clear Z2_0 Z2_1 Z2_2 Z2_f0 Z2_f1 Z2_f2
  clear Z3_0 Z3_1 Z3_2 Z3_f0 Z3_f1 Z3_f2
  clear Z4_0 Z4_1 Z4_2 Z4_f0 Z4_f1 Z4_f2
  clear Z5_0 Z5_1 Z5_2 Z5_f0 Z5_f1 Z5_f2
  clear Z6_0 Z6_1 Z6_2 Z6_f0 Z6_f1 Z6_f2
  clear Z7_0 Z7_1 Z7_2 Z7_f0 Z7_f1 Z7_f2
  clear Z8_0 Z8_1 Z8_2 Z8_f0 Z8_f1 Z8_f2
  clear Z9_0 Z9_1 Z9_2 Z9_f0 Z9_f1 Z9_f2
  clear Z10_0 Z10_1 Z10_2 Z10_f0 Z10_f1 Z10_f2
  clear Z11_0 Z11_1 Z11_2 Z11_f0 Z11_f1 Z11_f2
  clear Z12_0 Z12_1 Z12_2 Z12_f0 Z12_f1 Z12_f2
  have hs13 := hb.size
  try simp only [World.size_alloc] at hs13
  replace bw : Below w.heap.size w w113 := dy_end (by go_grown) hb
  replace ma := Lv.on ma hb
  replace mb := Lv.on mb hb
  replace mc := Lv.on mc hb
  replace m1 := Lv.on m1 hb
  replace m2 := Lv.on m2 hb
  replace m3 := Lv.on m3 hb
  replace m4 := Lv.on m4 hb
  replace m5 := Lv.on m5 hb
  replace m6 := Lv.on m6 hb
  replace m7 := Lv.on m7 hb
  replace m8 := Lv.on m8 hb
  replace m9 := Lv.on m9 hb
  replace m10 := Lv.on m10 hb
  replace m11 := Lv.on m11 hb
  replace m12 := Lv.on m12 hb
  replace PB := Blk.on PB hb
  replace QB := Blk.on QB hb
  replace RB := Blk.on RB hb
  replace Z1 := Blk.on Z1 hb
  replace Z2 := Blk.on Z2 hb
  replace Z3 := Blk.on Z3 hb
  replace Z4 := Blk.on Z4 hb
  replace Z5 := Blk.on Z5 hb
  replace Z6 := Blk.on Z6 hb
  replace Z7 := Blk.on Z7 hb
  replace Z8 := Blk.on Z8 hb
  replace Z9 := Blk.on Z9 hb
  replace Z10 := Blk.on Z10 hb
  replace Z11 := Blk.on Z11 hb
  replace Z12 := Blk.on Z12 hb
  clear hb
  obtain ⟨PB_0, PB_1, PB_2, PB_f0, PB_f1, PB_f2⟩ := Dbx.cells PB
  obtain ⟨QB_0, QB_1, QB_2, QB_f0, QB_f1, QB_f2⟩ := Dbx.cells QB
  obtain ⟨RB_0, RB_1, RB_2, RB_f0, RB_f1, RB_f2⟩ := Dbx.cells RB
  obtain ⟨Z1_0, Z1_1, Z1_2, Z1_f0, Z1_f1, Z1_f2⟩ := Dbx.cells Z1
  obtain ⟨Z2_0, Z2_1, Z2_2, Z2_f0, Z2_f1, Z2_f2⟩ := Dbx.cells Z2
  obtain ⟨Z3_0, Z3_1, Z3_2, Z3_f0, Z3_f1, Z3_f2⟩ := Dbx.cells Z3
  obtain ⟨Z4_0, Z4_1, Z4_2, Z4_f0, Z4_f1, Z4_f2⟩ := Dbx.cells Z4
  obtain ⟨Z5_0, Z5_1, Z5_2, Z5_f0, Z5_f1, Z5_f2⟩ := Dbx.cells Z5
  obtain ⟨Z6_0, Z6_1, Z6_2, Z6_f0, Z6_f1, Z6_f2⟩ := Dbx.cells Z6
  obtain ⟨Z7_0, Z7_1, Z7_2, Z7_f0, Z7_f1, Z7_f2⟩ := Dbx.cells Z7
  obtain ⟨Z8_0, Z8_1, Z8_2, Z8_f0, Z8_f1, Z8_f2⟩ := Dbx.cells Z8
  obtain ⟨Z9_0, Z9_1, Z9_2, Z9_f0, Z9_f1, Z9_f2⟩ := Dbx.cells Z9
  obtain ⟨Z10_0, Z10_1, Z10_2, Z10_f0, Z10_f1, Z10_f2⟩ := Dbx.cells Z10
  obtain ⟨Z11_0, Z11_1, Z11_2, Z11_f0, Z11_f1, Z11_f2⟩ := Dbx.cells Z11
  obtain ⟨Z12_0, Z12_1, Z12_2, Z12_f0, Z12_f1, Z12_f2⟩ := Dbx.cells Z12
  clear PB_0 PB_1 PB_2 PB_f0 PB_f1 PB_f2
  clear QB_0 QB_1 QB_2 QB_f0 QB_f1 QB_f2
  clear RB_0 RB_1 RB_2 RB_f0 RB_f1 RB_f2
  clear Z1_0 Z1_1 Z1_2 Z1_f0 Z1_f1 Z1_f2
  clear Z2_0 Z2_1 Z2_2 Z2_f0 Z2_f1 Z2_f2
  clear Z3_0 Z3_1 Z3_2 Z3_f0 Z3_f1 Z3_f2
  clear Z4_0 Z4_1 Z4_2 Z4_f0 Z4_f1 Z4_f2
  clear Z5_0 Z5_1 Z5_2 Z5_f0 Z5_f1 Z5_f2
  clear Z6_0 Z6_1 Z6_2 Z6_f0 Z6_f1 Z6_f2
  clear Z7_0 Z7_1 Z7_2 Z7_f0 Z7_f1 Z7_f2
  clear Z8_0 Z8_1 Z8_2 Z8_f0 Z8_f1 Z8_f2
  clear Z9_0 Z9_1 Z9_2 Z9_f0 Z9_f1 Z9_f2
  clear Z10_0 Z10_1 Z10_2 Z10_f0 Z10_f1 Z10_f2
  clear Z11_0 Z11_1 Z11_2 Z11_f0 Z11_f1 Z11_f2
  clear Z12_0 Z12_1 Z12_2 Z12_f0 Z12_f1 Z12_f2
  replace ma := Lv.alloc ma (.cells #[.bool b13, .slice A13 q13.length c13, .int .i64 x13] 24)
  replace mb := Lv.alloc mb (.cells #[.bool b13, .slice A13 q13.length c13, .int .i64 x13] 24)
  replace mc := Lv.alloc mc (.cells #[.bool b13, .slice A13 q13.length c13, .int .i64 x13] 24)
  replace m1 := Lv.alloc m1 (.cells #[.bool b13, .slice A13 q13.length c13, .int .i64 x13] 24)
  replace m2 := Lv.alloc m2 (.cells #[.bool b13, .slice A13 q13.length c13, .int .i64 x13] 24)
  replace m3 := Lv.alloc m3 (.cells #[.bool b13, .slice A13 q13.length c13, .int .i64 x13] 24)
  replace m4 := Lv.alloc m4 (.cells #[.bool b13, .slice A13 q13.length c13, .int .i64 x13] 24)
  replace m5 := Lv.alloc m5 (.cells #[.bool b13, .slice A13 q13.length c13, .int .i64 x13] 24)
  replace m6 := Lv.alloc m6 (.cells #[.bool b13, .slice A13 q13.length c13, .int .i64 x13] 24)
  replace m7 := Lv.alloc m7 (.cells #[.bool b13, .slice A13 q13.length c13, .int .i64 x13] 24)
  replace m8 := Lv.alloc m8 (.cells #[.bool b13, .slice A13 q13.length c13, .int .i64 x13] 24)
  replace m9 := Lv.alloc m9 (.cells #[.bool b13, .slice A13 q13.length c13, .int .i64 x13] 24)
  replace m10 := Lv.alloc m10 (.cells #[.bool b13, .slice A13 q13.length c13, .int .i64 x13] 24)
  replace m11 := Lv.alloc m11 (.cells #[.bool b13, .slice A13 q13.length c13, .int .i64 x13] 24)
  replace m12 := Lv.alloc m12 (.cells #[.bool b13, .slice A13 q13.length c13, .int .i64 x13] 24)
  replace m13 := Lv.alloc m13 (.cells #[.bool b13, .slice A13 q13.length c13, .int .i64 x13] 24)
  replace PB := Blk.alloc PB (.cells #[.bool b13, .slice A13 q13.length c13, .int .i64 x13] 24)
  replace QB := Blk.alloc QB (.cells #[.bool b13, .slice A13 q13.length c13, .int .i64 x13] 24)
  replace RB := Blk.alloc RB (.cells #[.bool b13, .slice A13 q13.length c13, .int .i64 x13] 24)
  replace Z1 := Blk.alloc Z1 (.cells #[.bool b13, .slice A13 q13.length c13, .int .i64 x13] 24)
  replace Z2 := Blk.alloc Z2 (.cells #[.bool b13, .slice A13 q13.length c13, .int .i64 x13] 24)
  replace Z3 := Blk.alloc Z3 (.cells #[.bool b13, .slice A13 q13.length c13, .int .i64 x13] 24)
  replace Z4 := Blk.alloc Z4 (.cells #[.bool b13, .slice A13 q13.length c13, .int .i64 x13] 24)
  replace Z5 := Blk.alloc Z5 (.cells #[.bool b13, .slice A13 q13.length c13, .int .i64 x13] 24)
  replace Z6 := Blk.alloc Z6 (.cells #[.bool b13, .slice A13 q13.length c13, .int .i64 x13] 24)
  replace Z7 := Blk.alloc Z7 (.cells #[.bool b13, .slice A13 q13.length c13, .int .i64 x13] 24)
  replace Z8 := Blk.alloc Z8 (.cells #[.bool b13, .slice A13 q13.length c13, .int .i64 x13] 24)
  replace Z9 := Blk.alloc Z9 (.cells #[.bool b13, .slice A13 q13.length c13, .int .i64 x13] 24)
  replace Z10 := Blk.alloc Z10 (.cells #[.bool b13, .slice A13 q13.length c13, .int .i64 x13] 24)
  replace Z11 := Blk.alloc Z11 (.cells #[.bool b13, .slice A13 q13.length c13, .int .i64 x13] 24)
  replace Z12 := Blk.alloc Z12 (.cells #[.bool b13, .slice A13 q13.length c13, .int .i64 x13] 24)
  have Z13 := Blk.new w113 [.bool b13, .slice A13 q13.length c13, .int .i64 x13] 24
  obtain ⟨PB_0, PB_1, PB_2, PB_f0, PB_f1, PB_f2⟩ := Dbx.cells PB
  obtain ⟨QB_0, QB_1, QB_2, QB_f0, QB_f1, QB_f2⟩ := Dbx.cells QB
  obtain ⟨RB_0, RB_1, RB_2, RB_f0, RB_f1, RB_f2⟩ := Dbx.cells RB
  obtain ⟨Z1_0, Z1_1, Z1_2, Z1_f0, Z1_f1, Z1_f2⟩ := Dbx.cells Z1
  obtain ⟨Z2_0, Z2_1, Z2_2, Z2_f0, Z2_f1, Z2_f2⟩ := Dbx.cells Z2
  obtain ⟨Z3_0, Z3_1, Z3_2, Z3_f0, Z3_f1, Z3_f2⟩ := Dbx.cells Z3
  obtain ⟨Z4_0, Z4_1, Z4_2, Z4_f0, Z4_f1, Z4_f2⟩ := Dbx.cells Z4
  obtain ⟨Z5_0, Z5_1, Z5_2, Z5_f0, Z5_f1, Z5_f2⟩ := Dbx.cells Z5
  obtain ⟨Z6_0, Z6_1, Z6_2, Z6_f0, Z6_f1, Z6_f2⟩ := Dbx.cells Z6
  obtain ⟨Z7_0, Z7_1, Z7_2, Z7_f0, Z7_f1, Z7_f2⟩ := Dbx.cells Z7
  obtain ⟨Z8_0, Z8_1, Z8_2, Z8_f0, Z8_f1, Z8_f2⟩ := Dbx.cells Z8
  obtain ⟨Z9_0, Z9_1, Z9_2, Z9_f0, Z9_f1, Z9_f2⟩ := Dbx.cells Z9
  obtain ⟨Z10_0, Z10_1, Z10_2, Z10_f0, Z10_f1, Z10_f2⟩ := Dbx.cells Z10
  obtain ⟨Z11_0, Z11_1, Z11_2, Z11_f0, Z11_f1, Z11_f2⟩ := Dbx.cells Z11
  obtain ⟨Z12_0, Z12_1, Z12_2, Z12_f0, Z12_f1, Z12_f2⟩ := Dbx.cells Z12
  obtain ⟨Z13_0, Z13_1, Z13_2, Z13_f0, Z13_f1, Z13_f2⟩ := Dbx.cells Z13
  go_wp2_with fail
  with_reducible refine (nMul ma sa ma sa (hT.onD (by go_grown)) ia ia E14.out).mono ?_
  rintro e w114 ⟨b14, q14, A14, c14, x14, rfl, hd14, m14, hb⟩
  clear PB_0 PB_1 PB_2 PB_f0 PB_f1 PB_f2
  clear QB_0 QB_1 QB_2 QB_f0 QB_f1 QB_f2
  clear RB_0 RB_1 RB_2 RB_f0 RB_f1 RB_f2
  clear Z1_0 Z1_1 Z1_2 Z1_f0 Z1_f1 Z1_f2
  clear Z2_0 Z2_1 Z2_2 Z2_f0 Z2_f1 Z2_f2
  clear Z3_0 Z3_1 Z3_2 Z3_f0 Z3_f1 Z3_f2
  clear Z4_0 Z4_1 Z4_2 Z4_f0 Z4_f1 Z4_f2
  clear Z5_0 Z5_1 Z5_2 Z5_f0 Z5_f1 Z5_f2
  clear Z6_0 Z6_1 Z6_2 Z6_f0 Z6_f1 Z6_f2
  clear Z7_0 Z7_1 Z7_2 Z7_f0 Z7_f1 Z7_f2
  clear Z8_0 Z8_1 Z8_2 Z8_f0 Z8_f1 Z8_f2
  clear Z9_0 Z9_1 Z9_2 Z9_f0 Z9_f1 Z9_f2
  clear Z10_0 Z10_1 Z10_2 Z10_f0 Z10_f1 Z10_f2
  clear Z11_0 Z11_1 Z11_2 Z11_f0 Z11_f1 Z11_f2
  clear Z12_0 Z12_1 Z12_2 Z12_f0 Z12_f1 Z12_f2
  clear Z13_0 Z13_1 Z13_2 Z13_f0 Z13_f1 Z13_f2
  have hs14 := hb.size
  try simp only [World.size_alloc] at hs14
  replace bw : Below w.heap.size w w114 := dy_end (by go_grown) hb
  replace ma := Lv.on ma hb
  replace mb := Lv.on mb hb
  replace mc := Lv.on mc hb
  replace m1 := Lv.on m1 hb
  replace m2 := Lv.on m2 hb
  replace m3 := Lv.on m3 hb
  replace m4 := Lv.on m4 hb
  replace m5 := Lv.on m5 hb
  replace m6 := Lv.on m6 hb
  replace m7 := Lv.on m7 hb
  replace m8 := Lv.on m8 hb
  replace m9 := Lv.on m9 hb
  replace m10 := Lv.on m10 hb
  replace m11 := Lv.on m11 hb
  replace m12 := Lv.on m12 hb
  replace m13 := Lv.on m13 hb
  replace PB := Blk.on PB hb
  replace QB := Blk.on QB hb
  replace RB := Blk.on RB hb
  replace Z1 := Blk.on Z1 hb
  replace Z2 := Blk.on Z2 hb
  replace Z3 := Blk.on Z3 hb
  replace Z4 := Blk.on Z4 hb
  replace Z5 := Blk.on Z5 hb
  replace Z6 := Blk.on Z6 hb
  replace Z7 := Blk.on Z7 hb
  replace Z8 := Blk.on Z8 hb
  replace Z9 := Blk.on Z9 hb
  replace Z10 := Blk.on Z10 hb
  replace Z11 := Blk.on Z11 hb
  replace Z12 := Blk.on Z12 hb
  replace Z13 := Blk.on Z13 hb
  clear hb
  have s14 := Nst.of hd14 m14.lim iL
  obtain ⟨PB_0, PB_1, PB_2, PB_f0, PB_f1, PB_f2⟩ := Dbx.cells PB
  obtain ⟨QB_0, QB_1, QB_2, QB_f0, QB_f1, QB_f2⟩ := Dbx.cells QB
  obtain ⟨RB_0, RB_1, RB_2, RB_f0, RB_f1, RB_f2⟩ := Dbx.cells RB
  obtain ⟨Z1_0, Z1_1, Z1_2, Z1_f0, Z1_f1, Z1_f2⟩ := Dbx.cells Z1
  obtain ⟨Z2_0, Z2_1, Z2_2, Z2_f0, Z2_f1, Z2_f2⟩ := Dbx.cells Z2
  obtain ⟨Z3_0, Z3_1, Z3_2, Z3_f0, Z3_f1, Z3_f2⟩ := Dbx.cells Z3
  obtain ⟨Z4_0, Z4_1, Z4_2, Z4_f0, Z4_f1, Z4_f2⟩ := Dbx.cells Z4
  obtain ⟨Z5_0, Z5_1, Z5_2, Z5_f0, Z5_f1, Z5_f2⟩ := Dbx.cells Z5
  obtain ⟨Z6_0, Z6_1, Z6_2, Z6_f0, Z6_f1, Z6_f2⟩ := Dbx.cells Z6
  obtain ⟨Z7_0, Z7_1, Z7_2, Z7_f0, Z7_f1, Z7_f2⟩ := Dbx.cells Z7
  obtain ⟨Z8_0, Z8_1, Z8_2, Z8_f0, Z8_f1, Z8_f2⟩ := Dbx.cells Z8
  obtain ⟨Z9_0, Z9_1, Z9_2, Z9_f0, Z9_f1, Z9_f2⟩ := Dbx.cells Z9
  obtain ⟨Z10_0, Z10_1, Z10_2, Z10_f0, Z10_f1, Z10_f2⟩ := Dbx.cells Z10
  obtain ⟨Z11_0, Z11_1, Z11_2, Z11_f0, Z11_f1, Z11_f2⟩ := Dbx.cells Z11
  obtain ⟨Z12_0, Z12_1, Z12_2, Z12_f0, Z12_f1, Z12_f2⟩ := Dbx.cells Z12
  obtain ⟨Z13_0, Z13_1, Z13_2, Z13_f0, Z13_f1, Z13_f2⟩ := Dbx.cells Z13
  clear PB_0 PB_1 PB_2 PB_f0 PB_f1 PB_f2
  clear QB_0 QB_1 QB_2 QB_f0 QB_f1 QB_f2
  clear RB_0 RB_1 RB_2 RB_f0 RB_f1 RB_f2
  clear Z1_0 Z1_1 Z1_2 Z1_f0 Z1_f1 Z1_f2
  clear Z2_0 Z2_1 Z2_2 Z2_f0 Z2_f1 Z2_f2
  clear Z3_0 Z3_1 Z3_2 Z3_f0 Z3_f1 Z3_f2
  clear Z4_0 Z4_1 Z4_2 Z4_f0 Z4_f1 Z4_f2
  clear Z5_0 Z5_1 Z5_2 Z5_f0 Z5_f1 Z5_f2
  clear Z6_0 Z6_1 Z6_2 Z6_f0 Z6_f1 Z6_f2
  clear Z7_0 Z7_1 Z7_2 Z7_f0 Z7_f1 Z7_f2
  clear Z8_0 Z8_1 Z8_2 Z8_f0 Z8_f1 Z8_f2
  clear Z9_0 Z9_1 Z9_2 Z9_f0 Z9_f1 Z9_f2
  clear Z10_0 Z10_1 Z10_2 Z10_f0 Z10_f1 Z10_f2
  clear Z11_0 Z11_1 Z11_2 Z11_f0 Z11_f1 Z11_f2
  clear Z12_0 Z12_1 Z12_2 Z12_f0 Z12_f1 Z12_f2
  clear Z13_0 Z13_1 Z13_2 Z13_f0 Z13_f1 Z13_f2
  replace ma := Lv.alloc ma (.cells #[.bool b14, .slice A14 q14.length c14, .int .i64 x14] 24)
  replace mb := Lv.alloc mb (.cells #[.bool b14, .slice A14 q14.length c14, .int .i64 x14] 24)
  replace mc := Lv.alloc mc (.cells #[.bool b14, .slice A14 q14.length c14, .int .i64 x14] 24)
  replace m1 := Lv.alloc m1 (.cells #[.bool b14, .slice A14 q14.length c14, .int .i64 x14] 24)
  replace m2 := Lv.alloc m2 (.cells #[.bool b14, .slice A14 q14.length c14, .int .i64 x14] 24)
  replace m3 := Lv.alloc m3 (.cells #[.bool b14, .slice A14 q14.length c14, .int .i64 x14] 24)
  replace m4 := Lv.alloc m4 (.cells #[.bool b14, .slice A14 q14.length c14, .int .i64 x14] 24)
  replace m5 := Lv.alloc m5 (.cells #[.bool b14, .slice A14 q14.length c14, .int .i64 x14] 24)
  replace m6 := Lv.alloc m6 (.cells #[.bool b14, .slice A14 q14.length c14, .int .i64 x14] 24)
  replace m7 := Lv.alloc m7 (.cells #[.bool b14, .slice A14 q14.length c14, .int .i64 x14] 24)
  replace m8 := Lv.alloc m8 (.cells #[.bool b14, .slice A14 q14.length c14, .int .i64 x14] 24)
  replace m9 := Lv.alloc m9 (.cells #[.bool b14, .slice A14 q14.length c14, .int .i64 x14] 24)
  replace m10 := Lv.alloc m10 (.cells #[.bool b14, .slice A14 q14.length c14, .int .i64 x14] 24)
  replace m11 := Lv.alloc m11 (.cells #[.bool b14, .slice A14 q14.length c14, .int .i64 x14] 24)
  replace m12 := Lv.alloc m12 (.cells #[.bool b14, .slice A14 q14.length c14, .int .i64 x14] 24)
  replace m13 := Lv.alloc m13 (.cells #[.bool b14, .slice A14 q14.length c14, .int .i64 x14] 24)
  replace m14 := Lv.alloc m14 (.cells #[.bool b14, .slice A14 q14.length c14, .int .i64 x14] 24)
  replace PB := Blk.alloc PB (.cells #[.bool b14, .slice A14 q14.length c14, .int .i64 x14] 24)
  replace QB := Blk.alloc QB (.cells #[.bool b14, .slice A14 q14.length c14, .int .i64 x14] 24)
  replace RB := Blk.alloc RB (.cells #[.bool b14, .slice A14 q14.length c14, .int .i64 x14] 24)
  replace Z1 := Blk.alloc Z1 (.cells #[.bool b14, .slice A14 q14.length c14, .int .i64 x14] 24)
  replace Z2 := Blk.alloc Z2 (.cells #[.bool b14, .slice A14 q14.length c14, .int .i64 x14] 24)
  replace Z3 := Blk.alloc Z3 (.cells #[.bool b14, .slice A14 q14.length c14, .int .i64 x14] 24)
  replace Z4 := Blk.alloc Z4 (.cells #[.bool b14, .slice A14 q14.length c14, .int .i64 x14] 24)
  replace Z5 := Blk.alloc Z5 (.cells #[.bool b14, .slice A14 q14.length c14, .int .i64 x14] 24)
  replace Z6 := Blk.alloc Z6 (.cells #[.bool b14, .slice A14 q14.length c14, .int .i64 x14] 24)
  replace Z7 := Blk.alloc Z7 (.cells #[.bool b14, .slice A14 q14.length c14, .int .i64 x14] 24)
  replace Z8 := Blk.alloc Z8 (.cells #[.bool b14, .slice A14 q14.length c14, .int .i64 x14] 24)
  replace Z9 := Blk.alloc Z9 (.cells #[.bool b14, .slice A14 q14.length c14, .int .i64 x14] 24)
  replace Z10 := Blk.alloc Z10 (.cells #[.bool b14, .slice A14 q14.length c14, .int .i64 x14] 24)
  replace Z11 := Blk.alloc Z11 (.cells #[.bool b14, .slice A14 q14.length c14, .int .i64 x14] 24)
  replace Z12 := Blk.alloc Z12 (.cells #[.bool b14, .slice A14 q14.length c14, .int .i64 x14] 24)
  replace Z13 := Blk.alloc Z13 (.cells #[.bool b14, .slice A14 q14.length c14, .int .i64 x14] 24)
  have Z14 := Blk.new w114 [.bool b14, .slice A14 q14.length c14, .int .i64 x14] 24
  obtain ⟨PB_0, PB_1, PB_2, PB_f0, PB_f1, PB_f2⟩ := Dbx.cells PB
  obtain ⟨QB_0, QB_1, QB_2, QB_f0, QB_f1, QB_f2⟩ := Dbx.cells QB
  obtain ⟨RB_0, RB_1, RB_2, RB_f0, RB_f1, RB_f2⟩ := Dbx.cells RB
  obtain ⟨Z1_0, Z1_1, Z1_2, Z1_f0, Z1_f1, Z1_f2⟩ := Dbx.cells Z1
  obtain ⟨Z2_0, Z2_1, Z2_2, Z2_f0, Z2_f1, Z2_f2⟩ := Dbx.cells Z2
  obtain ⟨Z3_0, Z3_1, Z3_2, Z3_f0, Z3_f1, Z3_f2⟩ := Dbx.cells Z3
  obtain ⟨Z4_0, Z4_1, Z4_2, Z4_f0, Z4_f1, Z4_f2⟩ := Dbx.cells Z4
  obtain ⟨Z5_0, Z5_1, Z5_2, Z5_f0, Z5_f1, Z5_f2⟩ := Dbx.cells Z5
  obtain ⟨Z6_0, Z6_1, Z6_2, Z6_f0, Z6_f1, Z6_f2⟩ := Dbx.cells Z6
  obtain ⟨Z7_0, Z7_1, Z7_2, Z7_f0, Z7_f1, Z7_f2⟩ := Dbx.cells Z7
  obtain ⟨Z8_0, Z8_1, Z8_2, Z8_f0, Z8_f1, Z8_f2⟩ := Dbx.cells Z8
  obtain ⟨Z9_0, Z9_1, Z9_2, Z9_f0, Z9_f1, Z9_f2⟩ := Dbx.cells Z9
  obtain ⟨Z10_0, Z10_1, Z10_2, Z10_f0, Z10_f1, Z10_f2⟩ := Dbx.cells Z10
  obtain ⟨Z11_0, Z11_1, Z11_2, Z11_f0, Z11_f1, Z11_f2⟩ := Dbx.cells Z11
  obtain ⟨Z12_0, Z12_1, Z12_2, Z12_f0, Z12_f1, Z12_f2⟩ := Dbx.cells Z12
  obtain ⟨Z13_0, Z13_1, Z13_2, Z13_f0, Z13_f1, Z13_f2⟩ := Dbx.cells Z13
  obtain ⟨Z14_0, Z14_1, Z14_2, Z14_f0, Z14_f1, Z14_f2⟩ := Dbx.cells Z14
  go_wp2_with fail
  with_reducible refine (nMul mb sb mb sb (hT.onD (by go_grown)) ib ib E15.out).mono ?_
  rintro e w115 ⟨b15, q15, A15, c15, x15, rfl, hd15, m15, hb⟩
  clear PB_0 PB_1 PB_2 PB_f0 PB_f1 PB_f2
  clear QB_0 QB_1 QB_2 QB_f0 QB_f1 QB_f2
  clear RB_0 RB_1 RB_2 RB_f0 RB_f1 RB_f2
  clear Z1_0 Z1_1 Z1_2 Z1_f0 Z1_f1 Z1_f2
  clear Z2_0 Z2_1 Z2_2 Z2_f0 Z2_f1 Z2_f2
  clear Z3_0 Z3_1 Z3_2 Z3_f0 Z3_f1 Z3_f2
  clear Z4_0 Z4_1 Z4_2 Z4_f0 Z4_f1 Z4_f2
  clear Z5_0 Z5_1 Z5_2 Z5_f0 Z5_f1 Z5_f2
  clear Z6_0 Z6_1 Z6_2 Z6_f0 Z6_f1 Z6_f2
  clear Z7_0 Z7_1 Z7_2 Z7_f0 Z7_f1 Z7_f2
  clear Z8_0 Z8_1 Z8_2 Z8_f0 Z8_f1 Z8_f2
  clear Z9_0 Z9_1 Z9_2 Z9_f0 Z9_f1 Z9_f2
  clear Z10_0 Z10_1 Z10_2 Z10_f0 Z10_f1 Z10_f2
  clear Z11_0 Z11_1 Z11_2 Z11_f0 Z11_f1 Z11_f2
  clear Z12_0 Z12_1 Z12_2 Z12_f0 Z12_f1 Z12_f2
  clear Z13_0 Z13_1 Z13_2 Z13_f0 Z13_f1 Z13_f2
  clear Z14_0 Z14_1 Z14_2 Z14_f0 Z14_f1 Z14_f2
  have hs15 := hb.size
  try simp only [World.size_alloc] at hs15
  replace bw : Below w.heap.size w w115 := dy_end (by go_grown) hb
  replace ma := Lv.on ma hb
  replace mb := Lv.on mb hb
  replace mc := Lv.on mc hb
  replace m1 := Lv.on m1 hb
  replace m2 := Lv.on m2 hb
  replace m3 := Lv.on m3 hb
  replace m4 := Lv.on m4 hb
  replace m5 := Lv.on m5 hb
  replace m6 := Lv.on m6 hb
  replace m7 := Lv.on m7 hb
  replace m8 := Lv.on m8 hb
  replace m9 := Lv.on m9 hb
  replace m10 := Lv.on m10 hb
  replace m11 := Lv.on m11 hb
  replace m12 := Lv.on m12 hb
  replace m13 := Lv.on m13 hb
  replace m14 := Lv.on m14 hb
  replace PB := Blk.on PB hb
  replace QB := Blk.on QB hb
  replace RB := Blk.on RB hb
  replace Z1 := Blk.on Z1 hb
  replace Z2 := Blk.on Z2 hb
  replace Z3 := Blk.on Z3 hb
  replace Z4 := Blk.on Z4 hb
  replace Z5 := Blk.on Z5 hb
  replace Z6 := Blk.on Z6 hb
  replace Z7 := Blk.on Z7 hb
  replace Z8 := Blk.on Z8 hb
  replace Z9 := Blk.on Z9 hb
  replace Z10 := Blk.on Z10 hb
  replace Z11 := Blk.on Z11 hb
  replace Z12 := Blk.on Z12 hb
  replace Z13 := Blk.on Z13 hb
  replace Z14 := Blk.on Z14 hb
  clear hb
  have s15 := Nst.of hd15 m15.lim iM
  obtain ⟨PB_0, PB_1, PB_2, PB_f0, PB_f1, PB_f2⟩ := Dbx.cells PB
  obtain ⟨QB_0, QB_1, QB_2, QB_f0, QB_f1, QB_f2⟩ := Dbx.cells QB
  obtain ⟨RB_0, RB_1, RB_2, RB_f0, RB_f1, RB_f2⟩ := Dbx.cells RB
  obtain ⟨Z1_0, Z1_1, Z1_2, Z1_f0, Z1_f1, Z1_f2⟩ := Dbx.cells Z1
  obtain ⟨Z2_0, Z2_1, Z2_2, Z2_f0, Z2_f1, Z2_f2⟩ := Dbx.cells Z2
  obtain ⟨Z3_0, Z3_1, Z3_2, Z3_f0, Z3_f1, Z3_f2⟩ := Dbx.cells Z3
  obtain ⟨Z4_0, Z4_1, Z4_2, Z4_f0, Z4_f1, Z4_f2⟩ := Dbx.cells Z4
  obtain ⟨Z5_0, Z5_1, Z5_2, Z5_f0, Z5_f1, Z5_f2⟩ := Dbx.cells Z5
  obtain ⟨Z6_0, Z6_1, Z6_2, Z6_f0, Z6_f1, Z6_f2⟩ := Dbx.cells Z6
  obtain ⟨Z7_0, Z7_1, Z7_2, Z7_f0, Z7_f1, Z7_f2⟩ := Dbx.cells Z7
  obtain ⟨Z8_0, Z8_1, Z8_2, Z8_f0, Z8_f1, Z8_f2⟩ := Dbx.cells Z8
  obtain ⟨Z9_0, Z9_1, Z9_2, Z9_f0, Z9_f1, Z9_f2⟩ := Dbx.cells Z9
  obtain ⟨Z10_0, Z10_1, Z10_2, Z10_f0, Z10_f1, Z10_f2⟩ := Dbx.cells Z10
  obtain ⟨Z11_0, Z11_1, Z11_2, Z11_f0, Z11_f1, Z11_f2⟩ := Dbx.cells Z11
  obtain ⟨Z12_0, Z12_1, Z12_2, Z12_f0, Z12_f1, Z12_f2⟩ := Dbx.cells Z12
  obtain ⟨Z13_0, Z13_1, Z13_2, Z13_f0, Z13_f1, Z13_f2⟩ := Dbx.cells Z13
  obtain ⟨Z14_0, Z14_1, Z14_2, Z14_f0, Z14_f1, Z14_f2⟩ := Dbx.cells Z14
  clear PB_0 PB_1 PB_2 PB_f0 PB_f1 PB_f2
  clear QB_0 QB_1 QB_2 QB_f0 QB_f1 QB_f2
  clear RB_0 RB_1 RB_2 RB_f0 RB_f1 RB_f2
  clear Z1_0 Z1_1 Z1_2 Z1_f0 Z1_f1 Z1_f2
  clear Z2_0 Z2_1 Z2_2 Z2_f0 Z2_f1 Z2_f2
  clear Z3_0 Z3_1 Z3_2 Z3_f0 Z3_f1 Z3_f2
  clear Z4_0 Z4_1 Z4_2 Z4_f0 Z4_f1 Z4_f2
  clear Z5_0 Z5_1 Z5_2 Z5_f0 Z5_f1 Z5_f2
  clear Z6_0 Z6_1 Z6_2 Z6_f0 Z6_f1 Z6_f2
  clear Z7_0 Z7_1 Z7_2 Z7_f0 Z7_f1 Z7_f2
  clear Z8_0 Z8_1 Z8_2 Z8_f0 Z8_f1 Z8_f2
  clear Z9_0 Z9_1 Z9_2 Z9_f0 Z9_f1 Z9_f2
  clear Z10_0 Z10_1 Z10_2 Z10_f0 Z10_f1 Z10_f2
  clear Z11_0 Z11_1 Z11_2 Z11_f0 Z11_f1 Z11_f2
  clear Z12_0 Z12_1 Z12_2 Z12_f0 Z12_f1 Z12_f2
  clear Z13_0 Z13_1 Z13_2 Z13_f0 Z13_f1 Z13_f2
  clear Z14_0 Z14_1 Z14_2 Z14_f0 Z14_f1 Z14_f2
  replace ma := Lv.alloc ma (.cells #[.bool b15, .slice A15 q15.length c15, .int .i64 x15] 24)
  replace mb := Lv.alloc mb (.cells #[.bool b15, .slice A15 q15.length c15, .int .i64 x15] 24)
  replace mc := Lv.alloc mc (.cells #[.bool b15, .slice A15 q15.length c15, .int .i64 x15] 24)
  replace m1 := Lv.alloc m1 (.cells #[.bool b15, .slice A15 q15.length c15, .int .i64 x15] 24)
  replace m2 := Lv.alloc m2 (.cells #[.bool b15, .slice A15 q15.length c15, .int .i64 x15] 24)
  replace m3 := Lv.alloc m3 (.cells #[.bool b15, .slice A15 q15.length c15, .int .i64 x15] 24)
  replace m4 := Lv.alloc m4 (.cells #[.bool b15, .slice A15 q15.length c15, .int .i64 x15] 24)
  replace m5 := Lv.alloc m5 (.cells #[.bool b15, .slice A15 q15.length c15, .int .i64 x15] 24)
  replace m6 := Lv.alloc m6 (.cells #[.bool b15, .slice A15 q15.length c15, .int .i64 x15] 24)
  replace m7 := Lv.alloc m7 (.cells #[.bool b15, .slice A15 q15.length c15, .int .i64 x15] 24)
  replace m8 := Lv.alloc m8 (.cells #[.bool b15, .slice A15 q15.length c15, .int .i64 x15] 24)
  replace m9 := Lv.alloc m9 (.cells #[.bool b15, .slice A15 q15.length c15, .int .i64 x15] 24)
  replace m10 := Lv.alloc m10 (.cells #[.bool b15, .slice A15 q15.length c15, .int .i64 x15] 24)
  replace m11 := Lv.alloc m11 (.cells #[.bool b15, .slice A15 q15.length c15, .int .i64 x15] 24)
  replace m12 := Lv.alloc m12 (.cells #[.bool b15, .slice A15 q15.length c15, .int .i64 x15] 24)
  replace m13 := Lv.alloc m13 (.cells #[.bool b15, .slice A15 q15.length c15, .int .i64 x15] 24)
  replace m14 := Lv.alloc m14 (.cells #[.bool b15, .slice A15 q15.length c15, .int .i64 x15] 24)
  replace m15 := Lv.alloc m15 (.cells #[.bool b15, .slice A15 q15.length c15, .int .i64 x15] 24)
  replace PB := Blk.alloc PB (.cells #[.bool b15, .slice A15 q15.length c15, .int .i64 x15] 24)
  replace QB := Blk.alloc QB (.cells #[.bool b15, .slice A15 q15.length c15, .int .i64 x15] 24)
  replace RB := Blk.alloc RB (.cells #[.bool b15, .slice A15 q15.length c15, .int .i64 x15] 24)
  replace Z1 := Blk.alloc Z1 (.cells #[.bool b15, .slice A15 q15.length c15, .int .i64 x15] 24)
  replace Z2 := Blk.alloc Z2 (.cells #[.bool b15, .slice A15 q15.length c15, .int .i64 x15] 24)
  replace Z3 := Blk.alloc Z3 (.cells #[.bool b15, .slice A15 q15.length c15, .int .i64 x15] 24)
  replace Z4 := Blk.alloc Z4 (.cells #[.bool b15, .slice A15 q15.length c15, .int .i64 x15] 24)
  replace Z5 := Blk.alloc Z5 (.cells #[.bool b15, .slice A15 q15.length c15, .int .i64 x15] 24)
  replace Z6 := Blk.alloc Z6 (.cells #[.bool b15, .slice A15 q15.length c15, .int .i64 x15] 24)
  replace Z7 := Blk.alloc Z7 (.cells #[.bool b15, .slice A15 q15.length c15, .int .i64 x15] 24)
  replace Z8 := Blk.alloc Z8 (.cells #[.bool b15, .slice A15 q15.length c15, .int .i64 x15] 24)
  replace Z9 := Blk.alloc Z9 (.cells #[.bool b15, .slice A15 q15.length c15, .int .i64 x15] 24)
  replace Z10 := Blk.alloc Z10 (.cells #[.bool b15, .slice A15 q15.length c15, .int .i64 x15] 24)
  replace Z11 := Blk.alloc Z11 (.cells #[.bool b15, .slice A15 q15.length c15, .int .i64 x15] 24)
  replace Z12 := Blk.alloc Z12 (.cells #[.bool b15, .slice A15 q15.length c15, .int .i64 x15] 24)
  replace Z13 := Blk.alloc Z13 (.cells #[.bool b15, .slice A15 q15.length c15, .int .i64 x15] 24)
  replace Z14 := Blk.alloc Z14 (.cells #[.bool b15, .slice A15 q15.length c15, .int .i64 x15] 24)
  have Z15 := Blk.new w115 [.bool b15, .slice A15 q15.length c15, .int .i64 x15] 24
  obtain ⟨PB_0, PB_1, PB_2, PB_f0, PB_f1, PB_f2⟩ := Dbx.cells PB
  obtain ⟨QB_0, QB_1, QB_2, QB_f0, QB_f1, QB_f2⟩ := Dbx.cells QB
  obtain ⟨RB_0, RB_1, RB_2, RB_f0, RB_f1, RB_f2⟩ := Dbx.cells RB
  obtain ⟨Z1_0, Z1_1, Z1_2, Z1_f0, Z1_f1, Z1_f2⟩ := Dbx.cells Z1
  obtain ⟨Z2_0, Z2_1, Z2_2, Z2_f0, Z2_f1, Z2_f2⟩ := Dbx.cells Z2
  obtain ⟨Z3_0, Z3_1, Z3_2, Z3_f0, Z3_f1, Z3_f2⟩ := Dbx.cells Z3
  obtain ⟨Z4_0, Z4_1, Z4_2, Z4_f0, Z4_f1, Z4_f2⟩ := Dbx.cells Z4
  obtain ⟨Z5_0, Z5_1, Z5_2, Z5_f0, Z5_f1, Z5_f2⟩ := Dbx.cells Z5
  obtain ⟨Z6_0, Z6_1, Z6_2, Z6_f0, Z6_f1, Z6_f2⟩ := Dbx.cells Z6
  obtain ⟨Z7_0, Z7_1, Z7_2, Z7_f0, Z7_f1, Z7_f2⟩ := Dbx.cells Z7
  obtain ⟨Z8_0, Z8_1, Z8_2, Z8_f0, Z8_f1, Z8_f2⟩ := Dbx.cells Z8
  obtain ⟨Z9_0, Z9_1, Z9_2, Z9_f0, Z9_f1, Z9_f2⟩ := Dbx.cells Z9
  obtain ⟨Z10_0, Z10_1, Z10_2, Z10_f0, Z10_f1, Z10_f2⟩ := Dbx.cells Z10
  obtain ⟨Z11_0, Z11_1, Z11_2, Z11_f0, Z11_f1, Z11_f2⟩ := Dbx.cells Z11
  obtain ⟨Z12_0, Z12_1, Z12_2, Z12_f0, Z12_f1, Z12_f2⟩ := Dbx.cells Z12
  obtain ⟨Z13_0, Z13_1, Z13_2, Z13_f0, Z13_f1, Z13_f2⟩ := Dbx.cells Z13
  obtain ⟨Z14_0, Z14_1, Z14_2, Z14_f0, Z14_f1, Z14_f2⟩ := Dbx.cells Z14
  obtain ⟨Z15_0, Z15_1, Z15_2, Z15_f0, Z15_f1, Z15_f2⟩ := Dbx.cells Z15
  go_wp2_with fail
  with_reducible refine (nSub m14 s14 m15 s15 (hT.onD (by go_grown)) iL iM E16.out).mono ?_
  rintro e w116 ⟨b16, q16, A16, c16, x16, rfl, hd16, m16, hb⟩
  clear PB_0 PB_1 PB_2 PB_f0 PB_f1 PB_f2
  clear QB_0 QB_1 QB_2 QB_f0 QB_f1 QB_f2
  clear RB_0 RB_1 RB_2 RB_f0 RB_f1 RB_f2
  clear Z1_0 Z1_1 Z1_2 Z1_f0 Z1_f1 Z1_f2
  clear Z2_0 Z2_1 Z2_2 Z2_f0 Z2_f1 Z2_f2
  clear Z3_0 Z3_1 Z3_2 Z3_f0 Z3_f1 Z3_f2
  clear Z4_0 Z4_1 Z4_2 Z4_f0 Z4_f1 Z4_f2
  clear Z5_0 Z5_1 Z5_2 Z5_f0 Z5_f1 Z5_f2
  clear Z6_0 Z6_1 Z6_2 Z6_f0 Z6_f1 Z6_f2
  clear Z7_0 Z7_1 Z7_2 Z7_f0 Z7_f1 Z7_f2
  clear Z8_0 Z8_1 Z8_2 Z8_f0 Z8_f1 Z8_f2
  clear Z9_0 Z9_1 Z9_2 Z9_f0 Z9_f1 Z9_f2
  clear Z10_0 Z10_1 Z10_2 Z10_f0 Z10_f1 Z10_f2
  clear Z11_0 Z11_1 Z11_2 Z11_f0 Z11_f1 Z11_f2
  clear Z12_0 Z12_1 Z12_2 Z12_f0 Z12_f1 Z12_f2
  clear Z13_0 Z13_1 Z13_2 Z13_f0 Z13_f1 Z13_f2
  clear Z14_0 Z14_1 Z14_2 Z14_f0 Z14_f1 Z14_f2
  clear Z15_0 Z15_1 Z15_2 Z15_f0 Z15_f1 Z15_f2
  have hs16 := hb.size
  try simp only [World.size_alloc] at hs16
  replace bw : Below w.heap.size w w116 := dy_end (by go_grown) hb
  replace ma := Lv.on ma hb
  replace mb := Lv.on mb hb
  replace mc := Lv.on mc hb
  replace m1 := Lv.on m1 hb
  replace m2 := Lv.on m2 hb
  replace m3 := Lv.on m3 hb
  replace m4 := Lv.on m4 hb
  replace m5 := Lv.on m5 hb
  replace m6 := Lv.on m6 hb
  replace m7 := Lv.on m7 hb
  replace m8 := Lv.on m8 hb
  replace m9 := Lv.on m9 hb
  replace m10 := Lv.on m10 hb
  replace m11 := Lv.on m11 hb
  replace m12 := Lv.on m12 hb
  replace m13 := Lv.on m13 hb
  replace m14 := Lv.on m14 hb
  replace m15 := Lv.on m15 hb
  replace PB := Blk.on PB hb
  replace QB := Blk.on QB hb
  replace RB := Blk.on RB hb
  replace Z1 := Blk.on Z1 hb
  replace Z2 := Blk.on Z2 hb
  replace Z3 := Blk.on Z3 hb
  replace Z4 := Blk.on Z4 hb
  replace Z5 := Blk.on Z5 hb
  replace Z6 := Blk.on Z6 hb
  replace Z7 := Blk.on Z7 hb
  replace Z8 := Blk.on Z8 hb
  replace Z9 := Blk.on Z9 hb
  replace Z10 := Blk.on Z10 hb
  replace Z11 := Blk.on Z11 hb
  replace Z12 := Blk.on Z12 hb
  replace Z13 := Blk.on Z13 hb
  replace Z14 := Blk.on Z14 hb
  replace Z15 := Blk.on Z15 hb
  clear hb
  obtain ⟨PB_0, PB_1, PB_2, PB_f0, PB_f1, PB_f2⟩ := Dbx.cells PB
  obtain ⟨QB_0, QB_1, QB_2, QB_f0, QB_f1, QB_f2⟩ := Dbx.cells QB
  obtain ⟨RB_0, RB_1, RB_2, RB_f0, RB_f1, RB_f2⟩ := Dbx.cells RB
  obtain ⟨Z1_0, Z1_1, Z1_2, Z1_f0, Z1_f1, Z1_f2⟩ := Dbx.cells Z1
  obtain ⟨Z2_0, Z2_1, Z2_2, Z2_f0, Z2_f1, Z2_f2⟩ := Dbx.cells Z2
  obtain ⟨Z3_0, Z3_1, Z3_2, Z3_f0, Z3_f1, Z3_f2⟩ := Dbx.cells Z3
  obtain ⟨Z4_0, Z4_1, Z4_2, Z4_f0, Z4_f1, Z4_f2⟩ := Dbx.cells Z4
  obtain ⟨Z5_0, Z5_1, Z5_2, Z5_f0, Z5_f1, Z5_f2⟩ := Dbx.cells Z5
  obtain ⟨Z6_0, Z6_1, Z6_2, Z6_f0, Z6_f1, Z6_f2⟩ := Dbx.cells Z6
  obtain ⟨Z7_0, Z7_1, Z7_2, Z7_f0, Z7_f1, Z7_f2⟩ := Dbx.cells Z7
  obtain ⟨Z8_0, Z8_1, Z8_2, Z8_f0, Z8_f1, Z8_f2⟩ := Dbx.cells Z8
  obtain ⟨Z9_0, Z9_1, Z9_2, Z9_f0, Z9_f1, Z9_f2⟩ := Dbx.cells Z9
  obtain ⟨Z10_0, Z10_1, Z10_2, Z10_f0, Z10_f1, Z10_f2⟩ := Dbx.cells Z10
  obtain ⟨Z11_0, Z11_1, Z11_2, Z11_f0, Z11_f1, Z11_f2⟩ := Dbx.cells Z11
  obtain ⟨Z12_0, Z12_1, Z12_2, Z12_f0, Z12_f1, Z12_f2⟩ := Dbx.cells Z12
  obtain ⟨Z13_0, Z13_1, Z13_2, Z13_f0, Z13_f1, Z13_f2⟩ := Dbx.cells Z13
  obtain ⟨Z14_0, Z14_1, Z14_2, Z14_f0, Z14_f1, Z14_f2⟩ := Dbx.cells Z14
  obtain ⟨Z15_0, Z15_1, Z15_2, Z15_f0, Z15_f1, Z15_f2⟩ := Dbx.cells Z15
  clear PB_0 PB_1 PB_2 PB_f0 PB_f1 PB_f2
  clear QB_0 QB_1 QB_2 QB_f0 QB_f1 QB_f2
  clear RB_0 RB_1 RB_2 RB_f0 RB_f1 RB_f2
  clear Z1_0 Z1_1 Z1_2 Z1_f0 Z1_f1 Z1_f2
  clear Z2_0 Z2_1 Z2_2 Z2_f0 Z2_f1 Z2_f2
  clear Z3_0 Z3_1 Z3_2 Z3_f0 Z3_f1 Z3_f2
  clear Z4_0 Z4_1 Z4_2 Z4_f0 Z4_f1 Z4_f2
  clear Z5_0 Z5_1 Z5_2 Z5_f0 Z5_f1 Z5_f2
  clear Z6_0 Z6_1 Z6_2 Z6_f0 Z6_f1 Z6_f2
  clear Z7_0 Z7_1 Z7_2 Z7_f0 Z7_f1 Z7_f2
  clear Z8_0 Z8_1 Z8_2 Z8_f0 Z8_f1 Z8_f2
  clear Z9_0 Z9_1 Z9_2 Z9_f0 Z9_f1 Z9_f2
  clear Z10_0 Z10_1 Z10_2 Z10_f0 Z10_f1 Z10_f2
  clear Z11_0 Z11_1 Z11_2 Z11_f0 Z11_f1 Z11_f2
  clear Z12_0 Z12_1 Z12_2 Z12_f0 Z12_f1 Z12_f2
  clear Z13_0 Z13_1 Z13_2 Z13_f0 Z13_f1 Z13_f2
  clear Z14_0 Z14_1 Z14_2 Z14_f0 Z14_f1 Z14_f2
  clear Z15_0 Z15_1 Z15_2 Z15_f0 Z15_f1 Z15_f2
  replace ma := Lv.alloc ma (.cells #[.bool b16, .slice A16 q16.length c16, .int .i64 x16] 24)
  replace mb := Lv.alloc mb (.cells #[.bool b16, .slice A16 q16.length c16, .int .i64 x16] 24)
  replace mc := Lv.alloc mc (.cells #[.bool b16, .slice A16 q16.length c16, .int .i64 x16] 24)
  replace m1 := Lv.alloc m1 (.cells #[.bool b16, .slice A16 q16.length c16, .int .i64 x16] 24)
  replace m2 := Lv.alloc m2 (.cells #[.bool b16, .slice A16 q16.length c16, .int .i64 x16] 24)
  replace m3 := Lv.alloc m3 (.cells #[.bool b16, .slice A16 q16.length c16, .int .i64 x16] 24)
  replace m4 := Lv.alloc m4 (.cells #[.bool b16, .slice A16 q16.length c16, .int .i64 x16] 24)
  replace m5 := Lv.alloc m5 (.cells #[.bool b16, .slice A16 q16.length c16, .int .i64 x16] 24)
  replace m6 := Lv.alloc m6 (.cells #[.bool b16, .slice A16 q16.length c16, .int .i64 x16] 24)
  replace m7 := Lv.alloc m7 (.cells #[.bool b16, .slice A16 q16.length c16, .int .i64 x16] 24)
  replace m8 := Lv.alloc m8 (.cells #[.bool b16, .slice A16 q16.length c16, .int .i64 x16] 24)
  replace m9 := Lv.alloc m9 (.cells #[.bool b16, .slice A16 q16.length c16, .int .i64 x16] 24)
  replace m10 := Lv.alloc m10 (.cells #[.bool b16, .slice A16 q16.length c16, .int .i64 x16] 24)
  replace m11 := Lv.alloc m11 (.cells #[.bool b16, .slice A16 q16.length c16, .int .i64 x16] 24)
  replace m12 := Lv.alloc m12 (.cells #[.bool b16, .slice A16 q16.length c16, .int .i64 x16] 24)
  replace m13 := Lv.alloc m13 (.cells #[.bool b16, .slice A16 q16.length c16, .int .i64 x16] 24)
  replace m14 := Lv.alloc m14 (.cells #[.bool b16, .slice A16 q16.length c16, .int .i64 x16] 24)
  replace m15 := Lv.alloc m15 (.cells #[.bool b16, .slice A16 q16.length c16, .int .i64 x16] 24)
  replace m16 := Lv.alloc m16 (.cells #[.bool b16, .slice A16 q16.length c16, .int .i64 x16] 24)
  replace PB := Blk.alloc PB (.cells #[.bool b16, .slice A16 q16.length c16, .int .i64 x16] 24)
  replace QB := Blk.alloc QB (.cells #[.bool b16, .slice A16 q16.length c16, .int .i64 x16] 24)
  replace RB := Blk.alloc RB (.cells #[.bool b16, .slice A16 q16.length c16, .int .i64 x16] 24)
  replace Z1 := Blk.alloc Z1 (.cells #[.bool b16, .slice A16 q16.length c16, .int .i64 x16] 24)
  replace Z2 := Blk.alloc Z2 (.cells #[.bool b16, .slice A16 q16.length c16, .int .i64 x16] 24)
  replace Z3 := Blk.alloc Z3 (.cells #[.bool b16, .slice A16 q16.length c16, .int .i64 x16] 24)
  replace Z4 := Blk.alloc Z4 (.cells #[.bool b16, .slice A16 q16.length c16, .int .i64 x16] 24)
  replace Z5 := Blk.alloc Z5 (.cells #[.bool b16, .slice A16 q16.length c16, .int .i64 x16] 24)
  replace Z6 := Blk.alloc Z6 (.cells #[.bool b16, .slice A16 q16.length c16, .int .i64 x16] 24)
  replace Z7 := Blk.alloc Z7 (.cells #[.bool b16, .slice A16 q16.length c16, .int .i64 x16] 24)
  replace Z8 := Blk.alloc Z8 (.cells #[.bool b16, .slice A16 q16.length c16, .int .i64 x16] 24)
  replace Z9 := Blk.alloc Z9 (.cells #[.bool b16, .slice A16 q16.length c16, .int .i64 x16] 24)
  replace Z10 := Blk.alloc Z10 (.cells #[.bool b16, .slice A16 q16.length c16, .int .i64 x16] 24)
  replace Z11 := Blk.alloc Z11 (.cells #[.bool b16, .slice A16 q16.length c16, .int .i64 x16] 24)
  replace Z12 := Blk.alloc Z12 (.cells #[.bool b16, .slice A16 q16.length c16, .int .i64 x16] 24)
  replace Z13 := Blk.alloc Z13 (.cells #[.bool b16, .slice A16 q16.length c16, .int .i64 x16] 24)
  replace Z14 := Blk.alloc Z14 (.cells #[.bool b16, .slice A16 q16.length c16, .int .i64 x16] 24)
  replace Z15 := Blk.alloc Z15 (.cells #[.bool b16, .slice A16 q16.length c16, .int .i64 x16] 24)
  have Z16 := Blk.new w116 [.bool b16, .slice A16 q16.length c16, .int .i64 x16] 24
  obtain ⟨PB_0, PB_1, PB_2, PB_f0, PB_f1, PB_f2⟩ := Dbx.cells PB
  obtain ⟨QB_0, QB_1, QB_2, QB_f0, QB_f1, QB_f2⟩ := Dbx.cells QB
  obtain ⟨RB_0, RB_1, RB_2, RB_f0, RB_f1, RB_f2⟩ := Dbx.cells RB
  obtain ⟨Z1_0, Z1_1, Z1_2, Z1_f0, Z1_f1, Z1_f2⟩ := Dbx.cells Z1
  obtain ⟨Z2_0, Z2_1, Z2_2, Z2_f0, Z2_f1, Z2_f2⟩ := Dbx.cells Z2
  obtain ⟨Z3_0, Z3_1, Z3_2, Z3_f0, Z3_f1, Z3_f2⟩ := Dbx.cells Z3
  obtain ⟨Z4_0, Z4_1, Z4_2, Z4_f0, Z4_f1, Z4_f2⟩ := Dbx.cells Z4
  obtain ⟨Z5_0, Z5_1, Z5_2, Z5_f0, Z5_f1, Z5_f2⟩ := Dbx.cells Z5
  obtain ⟨Z6_0, Z6_1, Z6_2, Z6_f0, Z6_f1, Z6_f2⟩ := Dbx.cells Z6
  obtain ⟨Z7_0, Z7_1, Z7_2, Z7_f0, Z7_f1, Z7_f2⟩ := Dbx.cells Z7
  obtain ⟨Z8_0, Z8_1, Z8_2, Z8_f0, Z8_f1, Z8_f2⟩ := Dbx.cells Z8
  obtain ⟨Z9_0, Z9_1, Z9_2, Z9_f0, Z9_f1, Z9_f2⟩ := Dbx.cells Z9
  obtain ⟨Z10_0, Z10_1, Z10_2, Z10_f0, Z10_f1, Z10_f2⟩ := Dbx.cells Z10
  obtain ⟨Z11_0, Z11_1, Z11_2, Z11_f0, Z11_f1, Z11_f2⟩ := Dbx.cells Z11
  obtain ⟨Z12_0, Z12_1, Z12_2, Z12_f0, Z12_f1, Z12_f2⟩ := Dbx.cells Z12
  obtain ⟨Z13_0, Z13_1, Z13_2, Z13_f0, Z13_f1, Z13_f2⟩ := Dbx.cells Z13
  obtain ⟨Z14_0, Z14_1, Z14_2, Z14_f0, Z14_f1, Z14_f2⟩ := Dbx.cells Z14
  obtain ⟨Z15_0, Z15_1, Z15_2, Z15_f0, Z15_f1, Z15_f2⟩ := Dbx.cells Z15
  obtain ⟨Z16_0, Z16_1, Z16_2, Z16_f0, Z16_f1, Z16_f2⟩ := Dbx.cells Z16
  go_wp2_with fail
  obtain ⟨z1, z2, z3⟩ := Dn.uniq hd2 hd1 m2.lim m1.lim
  subst z1 z2 z3
  go_wp2_with fail
  with_reducible refine (rSame_any m1 m2).mono ?_
  rintro e w202 ⟨rfl, hb⟩
  clear PB_0 PB_1 PB_2 PB_f0 PB_f1 PB_f2
  clear QB_0 QB_1 QB_2 QB_f0 QB_f1 QB_f2
  clear RB_0 RB_1 RB_2 RB_f0 RB_f1 RB_f2
  clear Z1_0 Z1_1 Z1_2 Z1_f0 Z1_f1 Z1_f2
  clear Z2_0 Z2_1 Z2_2 Z2_f0 Z2_f1 Z2_f2
  clear Z3_0 Z3_1 Z3_2 Z3_f0 Z3_f1 Z3_f2
  clear Z4_0 Z4_1 Z4_2 Z4_f0 Z4_f1 Z4_f2
  clear Z5_0 Z5_1 Z5_2 Z5_f0 Z5_f1 Z5_f2
  clear Z6_0 Z6_1 Z6_2 Z6_f0 Z6_f1 Z6_f2
  clear Z7_0 Z7_1 Z7_2 Z7_f0 Z7_f1 Z7_f2
  clear Z8_0 Z8_1 Z8_2 Z8_f0 Z8_f1 Z8_f2
  clear Z9_0 Z9_1 Z9_2 Z9_f0 Z9_f1 Z9_f2
  clear Z10_0 Z10_1 Z10_2 Z10_f0 Z10_f1 Z10_f2
  clear Z11_0 Z11_1 Z11_2 Z11_f0 Z11_f1 Z11_f2
  clear Z12_0 Z12_1 Z12_2 Z12_f0 Z12_f1 Z12_f2
  clear Z13_0 Z13_1 Z13_2 Z13_f0 Z13_f1 Z13_f2
  clear Z14_0 Z14_1 Z14_2 Z14_f0 Z14_f1 Z14_f2
  clear Z15_0 Z15_1 Z15_2 Z15_f0 Z15_f1 Z15_f2
  clear Z16_0 Z16_1 Z16_2 Z16_f0 Z16_f1 Z16_f2
  have hs202 := hb.size
  try simp only [World.size_alloc, World.size_setCell] at hs202
  replace bw : Below w.heap.size w w202 := dy_end (by go_grown) hb
  replace ma := Lv.on ma hb
  replace mb := Lv.on mb hb
  replace mc := Lv.on mc hb
  replace m1 := Lv.on m1 hb
  replace m2 := Lv.on m2 hb
  replace m3 := Lv.on m3 hb
  replace m4 := Lv.on m4 hb
  replace m5 := Lv.on m5 hb
  replace m6 := Lv.on m6 hb
  replace m7 := Lv.on m7 hb
  replace m8 := Lv.on m8 hb
  replace m9 := Lv.on m9 hb
  replace m10 := Lv.on m10 hb
  replace m11 := Lv.on m11 hb
  replace m12 := Lv.on m12 hb
  replace m13 := Lv.on m13 hb
  replace m14 := Lv.on m14 hb
  replace m15 := Lv.on m15 hb
  replace m16 := Lv.on m16 hb
  replace PB := Blk.on PB hb
  replace QB := Blk.on QB hb
  replace RB := Blk.on RB hb
  replace Z1 := Blk.on Z1 hb
  replace Z2 := Blk.on Z2 hb
  replace Z3 := Blk.on Z3 hb
  replace Z4 := Blk.on Z4 hb
  replace Z5 := Blk.on Z5 hb
  replace Z6 := Blk.on Z6 hb
  replace Z7 := Blk.on Z7 hb
  replace Z8 := Blk.on Z8 hb
  replace Z9 := Blk.on Z9 hb
  replace Z10 := Blk.on Z10 hb
  replace Z11 := Blk.on Z11 hb
  replace Z12 := Blk.on Z12 hb
  replace Z13 := Blk.on Z13 hb
  replace Z14 := Blk.on Z14 hb
  replace Z15 := Blk.on Z15 hb
  replace Z16 := Blk.on Z16 hb
  clear hb
  obtain ⟨PB_0, PB_1, PB_2, PB_f0, PB_f1, PB_f2⟩ := Dbx.cells PB
  obtain ⟨QB_0, QB_1, QB_2, QB_f0, QB_f1, QB_f2⟩ := Dbx.cells QB
  obtain ⟨RB_0, RB_1, RB_2, RB_f0, RB_f1, RB_f2⟩ := Dbx.cells RB
  obtain ⟨Z1_0, Z1_1, Z1_2, Z1_f0, Z1_f1, Z1_f2⟩ := Dbx.cells Z1
  obtain ⟨Z2_0, Z2_1, Z2_2, Z2_f0, Z2_f1, Z2_f2⟩ := Dbx.cells Z2
  obtain ⟨Z3_0, Z3_1, Z3_2, Z3_f0, Z3_f1, Z3_f2⟩ := Dbx.cells Z3
  obtain ⟨Z4_0, Z4_1, Z4_2, Z4_f0, Z4_f1, Z4_f2⟩ := Dbx.cells Z4
  obtain ⟨Z5_0, Z5_1, Z5_2, Z5_f0, Z5_f1, Z5_f2⟩ := Dbx.cells Z5
  obtain ⟨Z6_0, Z6_1, Z6_2, Z6_f0, Z6_f1, Z6_f2⟩ := Dbx.cells Z6
  obtain ⟨Z7_0, Z7_1, Z7_2, Z7_f0, Z7_f1, Z7_f2⟩ := Dbx.cells Z7
  obtain ⟨Z8_0, Z8_1, Z8_2, Z8_f0, Z8_f1, Z8_f2⟩ := Dbx.cells Z8
  obtain ⟨Z9_0, Z9_1, Z9_2, Z9_f0, Z9_f1, Z9_f2⟩ := Dbx.cells Z9
  obtain ⟨Z10_0, Z10_1, Z10_2, Z10_f0, Z10_f1, Z10_f2⟩ := Dbx.cells Z10
  obtain ⟨Z11_0, Z11_1, Z11_2, Z11_f0, Z11_f1, Z11_f2⟩ := Dbx.cells Z11
  obtain ⟨Z12_0, Z12_1, Z12_2, Z12_f0, Z12_f1, Z12_f2⟩ := Dbx.cells Z12
  obtain ⟨Z13_0, Z13_1, Z13_2, Z13_f0, Z13_f1, Z13_f2⟩ := Dbx.cells Z13
  obtain ⟨Z14_0, Z14_1, Z14_2, Z14_f0, Z14_f1, Z14_f2⟩ := Dbx.cells Z14
  obtain ⟨Z15_0, Z15_1, Z15_2, Z15_f0, Z15_f1, Z15_f2⟩ := Dbx.cells Z15
  obtain ⟨Z16_0, Z16_1, Z16_2, Z16_f0, Z16_f1, Z16_f2⟩ := Dbx.cells Z16
  go_wp2_with fail
  obtain ⟨z1, z2, z3⟩ := Dn.uniq hd6 hd3 m6.lim m3.lim
  subst z1 z2 z3
  go_wp2_with fail
  with_reducible refine (rSame_any m3 m6).mono ?_
  rintro e w204 ⟨rfl, hb⟩
  clear PB_0 PB_1 PB_2 PB_f0 PB_f1 PB_f2
  clear QB_0 QB_1 QB_2 QB_f0 QB_f1 QB_f2
  clear RB_0 RB_1 RB_2 RB_f0 RB_f1 RB_f2
  clear Z1_0 Z1_1 Z1_2 Z1_f0 Z1_f1 Z1_f2
  clear Z2_0 Z2_1 Z2_2 Z2_f0 Z2_f1 Z2_f2
  clear Z3_0 Z3_1 Z3_2 Z3_f0 Z3_f1 Z3_f2
  clear Z4_0 Z4_1 Z4_2 Z4_f0 Z4_f1 Z4_f2
  clear Z5_0 Z5_1 Z5_2 Z5_f0 Z5_f1 Z5_f2
  clear Z6_0 Z6_1 Z6_2 Z6_f0 Z6_f1 Z6_f2
  clear Z7_0 Z7_1 Z7_2 Z7_f0 Z7_f1 Z7_f2
  clear Z8_0 Z8_1 Z8_2 Z8_f0 Z8_f1 Z8_f2
  clear Z9_0 Z9_1 Z9_2 Z9_f0 Z9_f1 Z9_f2
  clear Z10_0 Z10_1 Z10_2 Z10_f0 Z10_f1 Z10_f2
  clear Z11_0 Z11_1 Z11_2 Z11_f0 Z11_f1 Z11_f2
  clear Z12_0 Z12_1 Z12_2 Z12_f0 Z12_f1 Z12_f2
  clear Z13_0 Z13_1 Z13_2 Z13_f0 Z13_f1 Z13_f2
  clear Z14_0 Z14_1 Z14_2 Z14_f0 Z14_f1 Z14_f2
  clear Z15_0 Z15_1 Z15_2 Z15_f0 Z15_f1 Z15_f2
  clear Z16_0 Z16_1 Z16_2 Z16_f0 Z16_f1 Z16_f2
  have hs204 := hb.size
  try simp only [World.size_alloc, World.size_setCell] at hs204
  replace bw : Below w.heap.size w w204 := dy_end (by go_grown) hb
  replace ma := Lv.on ma hb
  replace mb := Lv.on mb hb
  replace mc := Lv.on mc hb
  replace m1 := Lv.on m1 hb
  replace m2 := Lv.on m2 hb
  replace m3 := Lv.on m3 hb
  replace m4 := Lv.on m4 hb
  replace m5 := Lv.on m5 hb
  replace m6 := Lv.on m6 hb
  replace m7 := Lv.on m7 hb
  replace m8 := Lv.on m8 hb
  replace m9 := Lv.on m9 hb
  replace m10 := Lv.on m10 hb
  replace m11 := Lv.on m11 hb
  replace m12 := Lv.on m12 hb
  replace m13 := Lv.on m13 hb
  replace m14 := Lv.on m14 hb
  replace m15 := Lv.on m15 hb
  replace m16 := Lv.on m16 hb
  replace PB := Blk.on PB hb
  replace QB := Blk.on QB hb
  replace RB := Blk.on RB hb
  replace Z1 := Blk.on Z1 hb
  replace Z2 := Blk.on Z2 hb
  replace Z3 := Blk.on Z3 hb
  replace Z4 := Blk.on Z4 hb
  replace Z5 := Blk.on Z5 hb
  replace Z6 := Blk.on Z6 hb
  replace Z7 := Blk.on Z7 hb
  replace Z8 := Blk.on Z8 hb
  replace Z9 := Blk.on Z9 hb
  replace Z10 := Blk.on Z10 hb
  replace Z11 := Blk.on Z11 hb
  replace Z12 := Blk.on Z12 hb
  replace Z13 := Blk.on Z13 hb
  replace Z14 := Blk.on Z14 hb
  replace Z15 := Blk.on Z15 hb
  replace Z16 := Blk.on Z16 hb
  clear hb
  obtain ⟨PB_0, PB_1, PB_2, PB_f0, PB_f1, PB_f2⟩ := Dbx.cells PB
  obtain ⟨QB_0, QB_1, QB_2, QB_f0, QB_f1, QB_f2⟩ := Dbx.cells QB
  obtain ⟨RB_0, RB_1, RB_2, RB_f0, RB_f1, RB_f2⟩ := Dbx.cells RB
  obtain ⟨Z1_0, Z1_1, Z1_2, Z1_f0, Z1_f1, Z1_f2⟩ := Dbx.cells Z1
  obtain ⟨Z2_0, Z2_1, Z2_2, Z2_f0, Z2_f1, Z2_f2⟩ := Dbx.cells Z2
  obtain ⟨Z3_0, Z3_1, Z3_2, Z3_f0, Z3_f1, Z3_f2⟩ := Dbx.cells Z3
  obtain ⟨Z4_0, Z4_1, Z4_2, Z4_f0, Z4_f1, Z4_f2⟩ := Dbx.cells Z4
  obtain ⟨Z5_0, Z5_1, Z5_2, Z5_f0, Z5_f1, Z5_f2⟩ := Dbx.cells Z5
  obtain ⟨Z6_0, Z6_1, Z6_2, Z6_f0, Z6_f1, Z6_f2⟩ := Dbx.cells Z6
  obtain ⟨Z7_0, Z7_1, Z7_2, Z7_f0, Z7_f1, Z7_f2⟩ := Dbx.cells Z7
  obtain ⟨Z8_0, Z8_1, Z8_2, Z8_f0, Z8_f1, Z8_f2⟩ := Dbx.cells Z8
  obtain ⟨Z9_0, Z9_1, Z9_2, Z9_f0, Z9_f1, Z9_f2⟩ := Dbx.cells Z9
  obtain ⟨Z10_0, Z10_1, Z10_2, Z10_f0, Z10_f1, Z10_f2⟩ := Dbx.cells Z10
  obtain ⟨Z11_0, Z11_1, Z11_2, Z11_f0, Z11_f1, Z11_f2⟩ := Dbx.cells Z11
  obtain ⟨Z12_0, Z12_1, Z12_2, Z12_f0, Z12_f1, Z12_f2⟩ := Dbx.cells Z12
  obtain ⟨Z13_0, Z13_1, Z13_2, Z13_f0, Z13_f1, Z13_f2⟩ := Dbx.cells Z13
  obtain ⟨Z14_0, Z14_1, Z14_2, Z14_f0, Z14_f1, Z14_f2⟩ := Dbx.cells Z14
  obtain ⟨Z15_0, Z15_1, Z15_2, Z15_f0, Z15_f1, Z15_f2⟩ := Dbx.cells Z15
  obtain ⟨Z16_0, Z16_1, Z16_2, Z16_f0, Z16_f1, Z16_f2⟩ := Dbx.cells Z16
  go_wp2_with fail
  obtain ⟨z1, z2, z3⟩ := Dn.uniq hd9 hd7 m9.lim m7.lim
  subst z1 z2 z3
  go_wp2_with fail
  with_reducible refine (rSame_any m7 m9).mono ?_
  rintro e w206 ⟨rfl, hb⟩
  clear PB_0 PB_1 PB_2 PB_f0 PB_f1 PB_f2
  clear QB_0 QB_1 QB_2 QB_f0 QB_f1 QB_f2
  clear RB_0 RB_1 RB_2 RB_f0 RB_f1 RB_f2
  clear Z1_0 Z1_1 Z1_2 Z1_f0 Z1_f1 Z1_f2
  clear Z2_0 Z2_1 Z2_2 Z2_f0 Z2_f1 Z2_f2
  clear Z3_0 Z3_1 Z3_2 Z3_f0 Z3_f1 Z3_f2
  clear Z4_0 Z4_1 Z4_2 Z4_f0 Z4_f1 Z4_f2
  clear Z5_0 Z5_1 Z5_2 Z5_f0 Z5_f1 Z5_f2
  clear Z6_0 Z6_1 Z6_2 Z6_f0 Z6_f1 Z6_f2
  clear Z7_0 Z7_1 Z7_2 Z7_f0 Z7_f1 Z7_f2
  clear Z8_0 Z8_1 Z8_2 Z8_f0 Z8_f1 Z8_f2
  clear Z9_0 Z9_1 Z9_2 Z9_f0 Z9_f1 Z9_f2
  clear Z10_0 Z10_1 Z10_2 Z10_f0 Z10_f1 Z10_f2
  clear Z11_0 Z11_1 Z11_2 Z11_f0 Z11_f1 Z11_f2
  clear Z12_0 Z12_1 Z12_2 Z12_f0 Z12_f1 Z12_f2
  clear Z13_0 Z13_1 Z13_2 Z13_f0 Z13_f1 Z13_f2
  clear Z14_0 Z14_1 Z14_2 Z14_f0 Z14_f1 Z14_f2
  clear Z15_0 Z15_1 Z15_2 Z15_f0 Z15_f1 Z15_f2
  clear Z16_0 Z16_1 Z16_2 Z16_f0 Z16_f1 Z16_f2
  have hs206 := hb.size
  try simp only [World.size_alloc, World.size_setCell] at hs206
  replace bw : Below w.heap.size w w206 := dy_end (by go_grown) hb
  replace ma := Lv.on ma hb
  replace mb := Lv.on mb hb
  replace mc := Lv.on mc hb
  replace m1 := Lv.on m1 hb
  replace m2 := Lv.on m2 hb
  replace m3 := Lv.on m3 hb
  replace m4 := Lv.on m4 hb
  replace m5 := Lv.on m5 hb
  replace m6 := Lv.on m6 hb
  replace m7 := Lv.on m7 hb
  replace m8 := Lv.on m8 hb
  replace m9 := Lv.on m9 hb
  replace m10 := Lv.on m10 hb
  replace m11 := Lv.on m11 hb
  replace m12 := Lv.on m12 hb
  replace m13 := Lv.on m13 hb
  replace m14 := Lv.on m14 hb
  replace m15 := Lv.on m15 hb
  replace m16 := Lv.on m16 hb
  replace PB := Blk.on PB hb
  replace QB := Blk.on QB hb
  replace RB := Blk.on RB hb
  replace Z1 := Blk.on Z1 hb
  replace Z2 := Blk.on Z2 hb
  replace Z3 := Blk.on Z3 hb
  replace Z4 := Blk.on Z4 hb
  replace Z5 := Blk.on Z5 hb
  replace Z6 := Blk.on Z6 hb
  replace Z7 := Blk.on Z7 hb
  replace Z8 := Blk.on Z8 hb
  replace Z9 := Blk.on Z9 hb
  replace Z10 := Blk.on Z10 hb
  replace Z11 := Blk.on Z11 hb
  replace Z12 := Blk.on Z12 hb
  replace Z13 := Blk.on Z13 hb
  replace Z14 := Blk.on Z14 hb
  replace Z15 := Blk.on Z15 hb
  replace Z16 := Blk.on Z16 hb
  clear hb
  obtain ⟨PB_0, PB_1, PB_2, PB_f0, PB_f1, PB_f2⟩ := Dbx.cells PB
  obtain ⟨QB_0, QB_1, QB_2, QB_f0, QB_f1, QB_f2⟩ := Dbx.cells QB
  obtain ⟨RB_0, RB_1, RB_2, RB_f0, RB_f1, RB_f2⟩ := Dbx.cells RB
  obtain ⟨Z1_0, Z1_1, Z1_2, Z1_f0, Z1_f1, Z1_f2⟩ := Dbx.cells Z1
  obtain ⟨Z2_0, Z2_1, Z2_2, Z2_f0, Z2_f1, Z2_f2⟩ := Dbx.cells Z2
  obtain ⟨Z3_0, Z3_1, Z3_2, Z3_f0, Z3_f1, Z3_f2⟩ := Dbx.cells Z3
  obtain ⟨Z4_0, Z4_1, Z4_2, Z4_f0, Z4_f1, Z4_f2⟩ := Dbx.cells Z4
  obtain ⟨Z5_0, Z5_1, Z5_2, Z5_f0, Z5_f1, Z5_f2⟩ := Dbx.cells Z5
  obtain ⟨Z6_0, Z6_1, Z6_2, Z6_f0, Z6_f1, Z6_f2⟩ := Dbx.cells Z6
  obtain ⟨Z7_0, Z7_1, Z7_2, Z7_f0, Z7_f1, Z7_f2⟩ := Dbx.cells Z7
  obtain ⟨Z8_0, Z8_1, Z8_2, Z8_f0, Z8_f1, Z8_f2⟩ := Dbx.cells Z8
  obtain ⟨Z9_0, Z9_1, Z9_2, Z9_f0, Z9_f1, Z9_f2⟩ := Dbx.cells Z9
  obtain ⟨Z10_0, Z10_1, Z10_2, Z10_f0, Z10_f1, Z10_f2⟩ := Dbx.cells Z10
  obtain ⟨Z11_0, Z11_1, Z11_2, Z11_f0, Z11_f1, Z11_f2⟩ := Dbx.cells Z11
  obtain ⟨Z12_0, Z12_1, Z12_2, Z12_f0, Z12_f1, Z12_f2⟩ := Dbx.cells Z12
  obtain ⟨Z13_0, Z13_1, Z13_2, Z13_f0, Z13_f1, Z13_f2⟩ := Dbx.cells Z13
  obtain ⟨Z14_0, Z14_1, Z14_2, Z14_f0, Z14_f1, Z14_f2⟩ := Dbx.cells Z14
  obtain ⟨Z15_0, Z15_1, Z15_2, Z15_f0, Z15_f1, Z15_f2⟩ := Dbx.cells Z15
  obtain ⟨Z16_0, Z16_1, Z16_2, Z16_f0, Z16_f1, Z16_f2⟩ := Dbx.cells Z16
  go_wp2_with fail
  with_reducible refine (nSign hd10 m10 (hT.onD (by go_grown)) iD E17.out).mono ?_
  rintro e w207 ⟨rfl, hb⟩
  clear PB_0 PB_1 PB_2 PB_f0 PB_f1 PB_f2
  clear QB_0 QB_1 QB_2 QB_f0 QB_f1 QB_f2
  clear RB_0 RB_1 RB_2 RB_f0 RB_f1 RB_f2
  clear Z1_0 Z1_1 Z1_2 Z1_f0 Z1_f1 Z1_f2
  clear Z2_0 Z2_1 Z2_2 Z2_f0 Z2_f1 Z2_f2
  clear Z3_0 Z3_1 Z3_2 Z3_f0 Z3_f1 Z3_f2
  clear Z4_0 Z4_1 Z4_2 Z4_f0 Z4_f1 Z4_f2
  clear Z5_0 Z5_1 Z5_2 Z5_f0 Z5_f1 Z5_f2
  clear Z6_0 Z6_1 Z6_2 Z6_f0 Z6_f1 Z6_f2
  clear Z7_0 Z7_1 Z7_2 Z7_f0 Z7_f1 Z7_f2
  clear Z8_0 Z8_1 Z8_2 Z8_f0 Z8_f1 Z8_f2
  clear Z9_0 Z9_1 Z9_2 Z9_f0 Z9_f1 Z9_f2
  clear Z10_0 Z10_1 Z10_2 Z10_f0 Z10_f1 Z10_f2
  clear Z11_0 Z11_1 Z11_2 Z11_f0 Z11_f1 Z11_f2
  clear Z12_0 Z12_1 Z12_2 Z12_f0 Z12_f1 Z12_f2
  clear Z13_0 Z13_1 Z13_2 Z13_f0 Z13_f1 Z13_f2
  clear Z14_0 Z14_1 Z14_2 Z14_f0 Z14_f1 Z14_f2
  clear Z15_0 Z15_1 Z15_2 Z15_f0 Z15_f1 Z15_f2
  clear Z16_0 Z16_1 Z16_2 Z16_f0 Z16_f1 Z16_f2
  have hs207 := hb.size
  try simp only [World.size_alloc, World.size_setCell] at hs207
  replace bw : Below w.heap.size w w207 := dy_end (by go_grown) hb
  replace ma := Lv.on ma hb
  replace mb := Lv.on mb hb
  replace mc := Lv.on mc hb
  replace m1 := Lv.on m1 hb
  replace m2 := Lv.on m2 hb
  replace m3 := Lv.on m3 hb
  replace m4 := Lv.on m4 hb
  replace m5 := Lv.on m5 hb
  replace m6 := Lv.on m6 hb
  replace m7 := Lv.on m7 hb
  replace m8 := Lv.on m8 hb
  replace m9 := Lv.on m9 hb
  replace m10 := Lv.on m10 hb
  replace m11 := Lv.on m11 hb
  replace m12 := Lv.on m12 hb
  replace m13 := Lv.on m13 hb
  replace m14 := Lv.on m14 hb
  replace m15 := Lv.on m15 hb
  replace m16 := Lv.on m16 hb
  replace PB := Blk.on PB hb
  replace QB := Blk.on QB hb
  replace RB := Blk.on RB hb
  replace Z1 := Blk.on Z1 hb
  replace Z2 := Blk.on Z2 hb
  replace Z3 := Blk.on Z3 hb
  replace Z4 := Blk.on Z4 hb
  replace Z5 := Blk.on Z5 hb
  replace Z6 := Blk.on Z6 hb
  replace Z7 := Blk.on Z7 hb
  replace Z8 := Blk.on Z8 hb
  replace Z9 := Blk.on Z9 hb
  replace Z10 := Blk.on Z10 hb
  replace Z11 := Blk.on Z11 hb
  replace Z12 := Blk.on Z12 hb
  replace Z13 := Blk.on Z13 hb
  replace Z14 := Blk.on Z14 hb
  replace Z15 := Blk.on Z15 hb
  replace Z16 := Blk.on Z16 hb
  clear hb
  obtain ⟨PB_0, PB_1, PB_2, PB_f0, PB_f1, PB_f2⟩ := Dbx.cells PB
  obtain ⟨QB_0, QB_1, QB_2, QB_f0, QB_f1, QB_f2⟩ := Dbx.cells QB
  obtain ⟨RB_0, RB_1, RB_2, RB_f0, RB_f1, RB_f2⟩ := Dbx.cells RB
  obtain ⟨Z1_0, Z1_1, Z1_2, Z1_f0, Z1_f1, Z1_f2⟩ := Dbx.cells Z1
  obtain ⟨Z2_0, Z2_1, Z2_2, Z2_f0, Z2_f1, Z2_f2⟩ := Dbx.cells Z2
  obtain ⟨Z3_0, Z3_1, Z3_2, Z3_f0, Z3_f1, Z3_f2⟩ := Dbx.cells Z3
  obtain ⟨Z4_0, Z4_1, Z4_2, Z4_f0, Z4_f1, Z4_f2⟩ := Dbx.cells Z4
  obtain ⟨Z5_0, Z5_1, Z5_2, Z5_f0, Z5_f1, Z5_f2⟩ := Dbx.cells Z5
  obtain ⟨Z6_0, Z6_1, Z6_2, Z6_f0, Z6_f1, Z6_f2⟩ := Dbx.cells Z6
  obtain ⟨Z7_0, Z7_1, Z7_2, Z7_f0, Z7_f1, Z7_f2⟩ := Dbx.cells Z7
  obtain ⟨Z8_0, Z8_1, Z8_2, Z8_f0, Z8_f1, Z8_f2⟩ := Dbx.cells Z8
  obtain ⟨Z9_0, Z9_1, Z9_2, Z9_f0, Z9_f1, Z9_f2⟩ := Dbx.cells Z9
  obtain ⟨Z10_0, Z10_1, Z10_2, Z10_f0, Z10_f1, Z10_f2⟩ := Dbx.cells Z10
  obtain ⟨Z11_0, Z11_1, Z11_2, Z11_f0, Z11_f1, Z11_f2⟩ := Dbx.cells Z11
  obtain ⟨Z12_0, Z12_1, Z12_2, Z12_f0, Z12_f1, Z12_f2⟩ := Dbx.cells Z12
  obtain ⟨Z13_0, Z13_1, Z13_2, Z13_f0, Z13_f1, Z13_f2⟩ := Dbx.cells Z13
  obtain ⟨Z14_0, Z14_1, Z14_2, Z14_f0, Z14_f1, Z14_f2⟩ := Dbx.cells Z14
  obtain ⟨Z15_0, Z15_1, Z15_2, Z15_f0, Z15_f1, Z15_f2⟩ := Dbx.cells Z15
  obtain ⟨Z16_0, Z16_1, Z16_2, Z16_f0, Z16_f1, Z16_f2⟩ := Dbx.cells Z16
  go_wp2_with fail
  obtain ⟨z1, z2, z3⟩ := Dn.uniq hd12 hd11 m12.lim m11.lim
  subst z1 z2 z3
  go_wp2_with fail
  with_reducible refine (rSame_any m11 m12).mono ?_
  rintro e w209 ⟨rfl, hb⟩
  clear PB_0 PB_1 PB_2 PB_f0 PB_f1 PB_f2
  clear QB_0 QB_1 QB_2 QB_f0 QB_f1 QB_f2
  clear RB_0 RB_1 RB_2 RB_f0 RB_f1 RB_f2
  clear Z1_0 Z1_1 Z1_2 Z1_f0 Z1_f1 Z1_f2
  clear Z2_0 Z2_1 Z2_2 Z2_f0 Z2_f1 Z2_f2
  clear Z3_0 Z3_1 Z3_2 Z3_f0 Z3_f1 Z3_f2
  clear Z4_0 Z4_1 Z4_2 Z4_f0 Z4_f1 Z4_f2
  clear Z5_0 Z5_1 Z5_2 Z5_f0 Z5_f1 Z5_f2
  clear Z6_0 Z6_1 Z6_2 Z6_f0 Z6_f1 Z6_f2
  clear Z7_0 Z7_1 Z7_2 Z7_f0 Z7_f1 Z7_f2
  clear Z8_0 Z8_1 Z8_2 Z8_f0 Z8_f1 Z8_f2
  clear Z9_0 Z9_1 Z9_2 Z9_f0 Z9_f1 Z9_f2
  clear Z10_0 Z10_1 Z10_2 Z10_f0 Z10_f1 Z10_f2
  clear Z11_0 Z11_1 Z11_2 Z11_f0 Z11_f1 Z11_f2
  clear Z12_0 Z12_1 Z12_2 Z12_f0 Z12_f1 Z12_f2
  clear Z13_0 Z13_1 Z13_2 Z13_f0 Z13_f1 Z13_f2
  clear Z14_0 Z14_1 Z14_2 Z14_f0 Z14_f1 Z14_f2
  clear Z15_0 Z15_1 Z15_2 Z15_f0 Z15_f1 Z15_f2
  clear Z16_0 Z16_1 Z16_2 Z16_f0 Z16_f1 Z16_f2
  have hs209 := hb.size
  try simp only [World.size_alloc, World.size_setCell] at hs209
  replace bw : Below w.heap.size w w209 := dy_end (by go_grown) hb
  replace ma := Lv.on ma hb
  replace mb := Lv.on mb hb
  replace mc := Lv.on mc hb
  replace m1 := Lv.on m1 hb
  replace m2 := Lv.on m2 hb
  replace m3 := Lv.on m3 hb
  replace m4 := Lv.on m4 hb
  replace m5 := Lv.on m5 hb
  replace m6 := Lv.on m6 hb
  replace m7 := Lv.on m7 hb
  replace m8 := Lv.on m8 hb
  replace m9 := Lv.on m9 hb
  replace m10 := Lv.on m10 hb
  replace m11 := Lv.on m11 hb
  replace m12 := Lv.on m12 hb
  replace m13 := Lv.on m13 hb
  replace m14 := Lv.on m14 hb
  replace m15 := Lv.on m15 hb
  replace m16 := Lv.on m16 hb
  replace PB := Blk.on PB hb
  replace QB := Blk.on QB hb
  replace RB := Blk.on RB hb
  replace Z1 := Blk.on Z1 hb
  replace Z2 := Blk.on Z2 hb
  replace Z3 := Blk.on Z3 hb
  replace Z4 := Blk.on Z4 hb
  replace Z5 := Blk.on Z5 hb
  replace Z6 := Blk.on Z6 hb
  replace Z7 := Blk.on Z7 hb
  replace Z8 := Blk.on Z8 hb
  replace Z9 := Blk.on Z9 hb
  replace Z10 := Blk.on Z10 hb
  replace Z11 := Blk.on Z11 hb
  replace Z12 := Blk.on Z12 hb
  replace Z13 := Blk.on Z13 hb
  replace Z14 := Blk.on Z14 hb
  replace Z15 := Blk.on Z15 hb
  replace Z16 := Blk.on Z16 hb
  clear hb
  obtain ⟨PB_0, PB_1, PB_2, PB_f0, PB_f1, PB_f2⟩ := Dbx.cells PB
  obtain ⟨QB_0, QB_1, QB_2, QB_f0, QB_f1, QB_f2⟩ := Dbx.cells QB
  obtain ⟨RB_0, RB_1, RB_2, RB_f0, RB_f1, RB_f2⟩ := Dbx.cells RB
  obtain ⟨Z1_0, Z1_1, Z1_2, Z1_f0, Z1_f1, Z1_f2⟩ := Dbx.cells Z1
  obtain ⟨Z2_0, Z2_1, Z2_2, Z2_f0, Z2_f1, Z2_f2⟩ := Dbx.cells Z2
  obtain ⟨Z3_0, Z3_1, Z3_2, Z3_f0, Z3_f1, Z3_f2⟩ := Dbx.cells Z3
  obtain ⟨Z4_0, Z4_1, Z4_2, Z4_f0, Z4_f1, Z4_f2⟩ := Dbx.cells Z4
  obtain ⟨Z5_0, Z5_1, Z5_2, Z5_f0, Z5_f1, Z5_f2⟩ := Dbx.cells Z5
  obtain ⟨Z6_0, Z6_1, Z6_2, Z6_f0, Z6_f1, Z6_f2⟩ := Dbx.cells Z6
  obtain ⟨Z7_0, Z7_1, Z7_2, Z7_f0, Z7_f1, Z7_f2⟩ := Dbx.cells Z7
  obtain ⟨Z8_0, Z8_1, Z8_2, Z8_f0, Z8_f1, Z8_f2⟩ := Dbx.cells Z8
  obtain ⟨Z9_0, Z9_1, Z9_2, Z9_f0, Z9_f1, Z9_f2⟩ := Dbx.cells Z9
  obtain ⟨Z10_0, Z10_1, Z10_2, Z10_f0, Z10_f1, Z10_f2⟩ := Dbx.cells Z10
  obtain ⟨Z11_0, Z11_1, Z11_2, Z11_f0, Z11_f1, Z11_f2⟩ := Dbx.cells Z11
  obtain ⟨Z12_0, Z12_1, Z12_2, Z12_f0, Z12_f1, Z12_f2⟩ := Dbx.cells Z12
  obtain ⟨Z13_0, Z13_1, Z13_2, Z13_f0, Z13_f1, Z13_f2⟩ := Dbx.cells Z13
  obtain ⟨Z14_0, Z14_1, Z14_2, Z14_f0, Z14_f1, Z14_f2⟩ := Dbx.cells Z14
  obtain ⟨Z15_0, Z15_1, Z15_2, Z15_f0, Z15_f1, Z15_f2⟩ := Dbx.cells Z15
  obtain ⟨Z16_0, Z16_1, Z16_2, Z16_f0, Z16_f1, Z16_f2⟩ := Dbx.cells Z16
  go_wp2_with fail
  obtain ⟨z1, z2, z3⟩ := Dn.uniq hd16 hd13 m16.lim m13.lim
  subst z1 z2 z3
  go_wp2_with fail
  with_reducible refine (rSame_any m13 m16).mono ?_
  rintro e w211 ⟨rfl, hb⟩
  clear PB_0 PB_1 PB_2 PB_f0 PB_f1 PB_f2
  clear QB_0 QB_1 QB_2 QB_f0 QB_f1 QB_f2
  clear RB_0 RB_1 RB_2 RB_f0 RB_f1 RB_f2
  clear Z1_0 Z1_1 Z1_2 Z1_f0 Z1_f1 Z1_f2
  clear Z2_0 Z2_1 Z2_2 Z2_f0 Z2_f1 Z2_f2
  clear Z3_0 Z3_1 Z3_2 Z3_f0 Z3_f1 Z3_f2
  clear Z4_0 Z4_1 Z4_2 Z4_f0 Z4_f1 Z4_f2
  clear Z5_0 Z5_1 Z5_2 Z5_f0 Z5_f1 Z5_f2
  clear Z6_0 Z6_1 Z6_2 Z6_f0 Z6_f1 Z6_f2
  clear Z7_0 Z7_1 Z7_2 Z7_f0 Z7_f1 Z7_f2
  clear Z8_0 Z8_1 Z8_2 Z8_f0 Z8_f1 Z8_f2
  clear Z9_0 Z9_1 Z9_2 Z9_f0 Z9_f1 Z9_f2
  clear Z10_0 Z10_1 Z10_2 Z10_f0 Z10_f1 Z10_f2
  clear Z11_0 Z11_1 Z11_2 Z11_f0 Z11_f1 Z11_f2
  clear Z12_0 Z12_1 Z12_2 Z12_f0 Z12_f1 Z12_f2
  clear Z13_0 Z13_1 Z13_2 Z13_f0 Z13_f1 Z13_f2
  clear Z14_0 Z14_1 Z14_2 Z14_f0 Z14_f1 Z14_f2
  clear Z15_0 Z15_1 Z15_2 Z15_f0 Z15_f1 Z15_f2
  clear Z16_0 Z16_1 Z16_2 Z16_f0 Z16_f1 Z16_f2
  have hs211 := hb.size
  try simp only [World.size_alloc, World.size_setCell] at hs211
  replace bw : Below w.heap.size w w211 := dy_end (by go_grown) hb
  replace ma := Lv.on ma hb
  replace mb := Lv.on mb hb
  replace mc := Lv.on mc hb
  replace m1 := Lv.on m1 hb
  replace m2 := Lv.on m2 hb
  replace m3 := Lv.on m3 hb
  replace m4 := Lv.on m4 hb
  replace m5 := Lv.on m5 hb
  replace m6 := Lv.on m6 hb
  replace m7 := Lv.on m7 hb
  replace m8 := Lv.on m8 hb
  replace m9 := Lv.on m9 hb
  replace m10 := Lv.on m10 hb
  replace m11 := Lv.on m11 hb
  replace m12 := Lv.on m12 hb
  replace m13 := Lv.on m13 hb
  replace m14 := Lv.on m14 hb
  replace m15 := Lv.on m15 hb
  replace m16 := Lv.on m16 hb
  replace PB := Blk.on PB hb
  replace QB := Blk.on QB hb
  replace RB := Blk.on RB hb
  replace Z1 := Blk.on Z1 hb
  replace Z2 := Blk.on Z2 hb
  replace Z3 := Blk.on Z3 hb
  replace Z4 := Blk.on Z4 hb
  replace Z5 := Blk.on Z5 hb
  replace Z6 := Blk.on Z6 hb
  replace Z7 := Blk.on Z7 hb
  replace Z8 := Blk.on Z8 hb
  replace Z9 := Blk.on Z9 hb
  replace Z10 := Blk.on Z10 hb
  replace Z11 := Blk.on Z11 hb
  replace Z12 := Blk.on Z12 hb
  replace Z13 := Blk.on Z13 hb
  replace Z14 := Blk.on Z14 hb
  replace Z15 := Blk.on Z15 hb
  replace Z16 := Blk.on Z16 hb
  clear hb
  obtain ⟨PB_0, PB_1, PB_2, PB_f0, PB_f1, PB_f2⟩ := Dbx.cells PB
  obtain ⟨QB_0, QB_1, QB_2, QB_f0, QB_f1, QB_f2⟩ := Dbx.cells QB
  obtain ⟨RB_0, RB_1, RB_2, RB_f0, RB_f1, RB_f2⟩ := Dbx.cells RB
  obtain ⟨Z1_0, Z1_1, Z1_2, Z1_f0, Z1_f1, Z1_f2⟩ := Dbx.cells Z1
  obtain ⟨Z2_0, Z2_1, Z2_2, Z2_f0, Z2_f1, Z2_f2⟩ := Dbx.cells Z2
  obtain ⟨Z3_0, Z3_1, Z3_2, Z3_f0, Z3_f1, Z3_f2⟩ := Dbx.cells Z3
  obtain ⟨Z4_0, Z4_1, Z4_2, Z4_f0, Z4_f1, Z4_f2⟩ := Dbx.cells Z4
  obtain ⟨Z5_0, Z5_1, Z5_2, Z5_f0, Z5_f1, Z5_f2⟩ := Dbx.cells Z5
  obtain ⟨Z6_0, Z6_1, Z6_2, Z6_f0, Z6_f1, Z6_f2⟩ := Dbx.cells Z6
  obtain ⟨Z7_0, Z7_1, Z7_2, Z7_f0, Z7_f1, Z7_f2⟩ := Dbx.cells Z7
  obtain ⟨Z8_0, Z8_1, Z8_2, Z8_f0, Z8_f1, Z8_f2⟩ := Dbx.cells Z8
  obtain ⟨Z9_0, Z9_1, Z9_2, Z9_f0, Z9_f1, Z9_f2⟩ := Dbx.cells Z9
  obtain ⟨Z10_0, Z10_1, Z10_2, Z10_f0, Z10_f1, Z10_f2⟩ := Dbx.cells Z10
  obtain ⟨Z11_0, Z11_1, Z11_2, Z11_f0, Z11_f1, Z11_f2⟩ := Dbx.cells Z11
  obtain ⟨Z12_0, Z12_1, Z12_2, Z12_f0, Z12_f1, Z12_f2⟩ := Dbx.cells Z12
  obtain ⟨Z13_0, Z13_1, Z13_2, Z13_f0, Z13_f1, Z13_f2⟩ := Dbx.cells Z13
  obtain ⟨Z14_0, Z14_1, Z14_2, Z14_f0, Z14_f1, Z14_f2⟩ := Dbx.cells Z14
  obtain ⟨Z15_0, Z15_1, Z15_2, Z15_f0, Z15_f1, Z15_f2⟩ := Dbx.cells Z15
  obtain ⟨Z16_0, Z16_1, Z16_2, Z16_f0, Z16_f1, Z16_f2⟩ := Dbx.cells Z16
  go_wp2_with fail
  go_ret
  exact ⟨rfl, by go_grown⟩


theorem Nst.raw (h : Lv w A l.length c l) (ho : De.ok ⟨b, A, c, x, l⟩) : Nst b l x (nfl b (val 18446744073709551616 l) x) ∧ (nfl b (val 18446744073709551616 l) x).In (-2000) 2256 := by
  obtain ⟨h1, h2, h3⟩ := ho
  dsimp only at h1 h2 h3
  have h4 := h.less (k := 4) h1
  rw [pow64] at h4
  refine ⟨⟨by omega, okE_true (by omega) (by omega), Int.lt_of_lt_of_le h4 (pw_mono (by omega)), rfl, nfl_ok _ _ _⟩, ?_⟩
  refine (nfl_in (b := b) (e := x) (q := x + 256) (lim_val h.lim) (by omega) ?_).mono (by omega) (by omega)
  rw [show (x + 256 - x).toNat = 256 by omega]
  exact h4
theorem rings_yes (ma : Lv w Aa la.length ca la) (ya0 : -9223372036854775808 ≤ xa) (ya1 : xa ≤ 9223372036854775807) (mb : Lv w Ab lb.length cb lb) (yb0 : -9223372036854775808 ≤ xb) (yb1 : xb ≤ 9223372036854775807) (mc : Lv w Ac lc.length cc lc) (yc0 : -9223372036854775808 ≤ xc) (yc1 : xc ≤ 9223372036854775807) (hok : (∀ e ∈ [(⟨ba, Aa, ca, xa, la⟩ : De), ⟨bb, Ab, cb, xb, lb⟩, ⟨bc, Ac, cc, xc, lc⟩], e.ok)) (hT : Tab w) (hP : PowT w) :
    Calls Tryz.prog 12 #[dyV ba Aa la.length ca xa, dyV bb Ab lb.length cb xb, dyV bc Ac lc.length cc xc] w fun e w' => e = .returned (.bool true) ∧ Below w.heap.size w w' := by
  obtain ⟨sa, ja⟩ := Nst.raw ma (hok ⟨ba, Aa, ca, xa, la⟩ (by simp))
  obtain ⟨sb, jb⟩ := Nst.raw mb (hok ⟨bb, Ab, cb, xb, lb⟩ (by simp))
  obtain ⟨sc, jc⟩ := Nst.raw mc (hok ⟨bc, Ac, cc, xc, lc⟩ (by simp))
  have oa := sa.2.2.2.2
  have ob := sb.2.2.2.2
  have oc := sc.2.2.2.2
  generalize nfl ba (val 18446744073709551616 la) xa = na at sa ja oa
  generalize nfl bb (val 18446744073709551616 lb) xb = nb at sb jb ob
  generalize nfl bc (val 18446744073709551616 lc) xc = nc at sc jc oc
  have jS := sumN_in oa ob ja jb (by omega)
  have jU := mulN_in jS jc
  have jX := mulN_in ja jc
  have jY := mulN_in jc jb
  have jT := sumN_in (sumN_ok _ _) oc jS (jc.mono (Int.le_refl _) (show (2256 : Int) ≤ 2256 + 1 by omega)) (by omega)
  have jZ := sumN_in ob oc jb jc (by omega)
  have jD := sumN_in oa (negN_ok nb) ja (negN_in ob jb) (by omega)
  have jK := mulN_in jS jD
  have jL := mulN_in ja ja
  have jM := mulN_in jb jb
  exact rings_main ma ya0 ya1 mb yb0 yb1 mc yc0 yc1 (Lib.hid hok) sa sb sc (ja.mono (by omega) (by omega)) (jb.mono (by omega) (by omega)) (jc.mono (by omega) (by omega)) (jS.mono (by omega) (by omega)) (jU.mono (by omega) (by omega)) (jX.mono (by omega) (by omega)) (jY.mono (by omega) (by omega)) (jT.mono (by omega) (by omega)) (jZ.mono (by omega) (by omega)) (jD.mono (by omega) (by omega)) (jK.mono (by omega) (by omega)) (jL.mono (by omega) (by omega)) (jM.mono (by omega) (by omega))
    (Lib.hid rfl) (Lib.hid (sumN_comm _ _)) (Lib.hid rfl) (Lib.hid rfl) (Lib.hid rfl) (Lib.hid (by rw [mulN_comm nc nb]; exact (mulN_sum oa ob oc).symm)) (Lib.hid rfl) (Lib.hid rfl) (Lib.hid (sumN_assoc oa ob oc).symm) (Lib.hid rfl) (Lib.hid (sumN_back oa ob)) (Lib.hid rfl) (Lib.hid rfl) (Lib.hid rfl) (Lib.hid rfl) (Lib.hid (squares oa ob).symm) (Lib.hid rfl) hT hP
theorem rings_law (b1 : Bool) (A1 : Option Addr) (n1 c1 : Nat) (x1 : Int) (z1 : List Int) (b2 : Bool) (A2 : Option Addr) (n2 c2 : Nat) (x2 : Int) (z2 : List Int) (b3 : Bool) (A3 : Option Addr) (n3 c3 : Nat) (x3 : Int) (z3 : List Int) (w : World) (g1 : IsRow .u64 w A1 n1 c1 z1) (y0 : -9223372036854775808 ≤ x1) (y1 : x1 ≤ 9223372036854775807) (g2 : IsRow .u64 w A2 n2 c2 z2) (y2 : -9223372036854775808 ≤ x2) (y3 : x2 ≤ 9223372036854775807) (g3 : IsRow .u64 w A3 n3 c3 z3) (y4 : -9223372036854775808 ≤ x3) (y5 : x3 ≤ 9223372036854775807) (hT : Tab w) (hP : PowT w) :
    Calls Tryz.prog 12 #[.agg #[.bool b1, .slice A1 n1 c1, .int .i64 x1], .agg #[.bool b2, .slice A2 n2 c2, .int .i64 x2], .agg #[.bool b3, .slice A3 n3 c3, .int .i64 x3]] w fun e w' => e = .returned (.bool true) ∧ Below w.heap.size w w' := by
  obtain ⟨l1, h1⟩ := g1.lv
  obtain ⟨l2, h2⟩ := g2.lv
  obtain ⟨l3, h3⟩ := g3.lv
  have e1 := h1.1
  have e2 := h2.1
  have e3 := h3.1
  subst e1 e2 e3
  by_cases hok : ∀ e ∈ [(⟨b1, A1, c1, x1, l1⟩ : De), ⟨b2, A2, c2, x2, l2⟩, ⟨b3, A3, c3, x3, l3⟩], e.ok
  · exact rings_yes h1 y0 y1 h2 y2 y3 h3 y4 y5 hok hT hP
  · exact rings_not h1 y0 y1 h2 y2 y3 h3 y4 y5 hok hT hP
end
end Go.Proofs.YtknomchkfamajaaGreatDoor
