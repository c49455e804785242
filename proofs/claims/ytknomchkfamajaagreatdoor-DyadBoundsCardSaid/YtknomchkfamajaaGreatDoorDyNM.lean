/-
  Layer 3, the laws: the closed sentence of layer 3. (Written by a script of wip/tools.)
-/
import Derived.Test.YtknomchkfamajaaGreatDoorDyLZ
import Derived.Test.YtknomchkfamajaaGreatDoorDyNG
namespace Go.Proofs.YtknomchkfamajaaGreatDoor
open Go.RowKit Go.Sort Go.Bw
set_option linter.unusedVariables false
set_option linter.unusedSimpArgs false

section
variable {b : Bool} {A : Option Addr} {n c : Nat} {x : Int} {l : List Int} {w : World}
variable {b2 : Bool} {A2 : Option Addr} {n2 c2 : Nat} {x2 : Int} {l2 : List Int} {d d2 : Nf} {R : Nf × Int}

/-- powers of 2 -/
def pw (k : Int) : Nf := ⟨false, 1, k⟩
theorem pw_mul (a b : Int) : mulN (pw a) (pw b) = pw (a + b) := by
  have h : nf (1 * 1) (a + b) = mulN (nf 1 a) (nf 1 b) := mulN_of 1 a 1 b
  have e1 : ∀ k : Int, nf 1 k = pw k := fun k => nfl_odd (v := 1) false k (by decide) (by decide)
  rw [e1, e1, Int.mul_one, e1] at h
  exact h.symm
theorem bMul (hd : Dn b l x d) (h : Lv w A l.length c l) (hd2 : Dn b2 l2 x2 d2) (h2 : Lv w A2 l2.length c2 l2) (hT : Tab w) (hv : (d.man : Int) * (d2.man : Int) < 18446744073709551616) (hq : mulQ d.exp d2.exp d d2 = R) :
    Calls Tryz.prog 42 #[dyV b A l.length c x, dyV b2 A2 l2.length c2 x2] w (DyK R.1 R.2 w) := by
  have e1 := hd.is h.lim
  have e2 := hd2.is h2.lim
  have := dMul_any (b := b) (b2 := b2) (x := x) (x2 := x2) h hd.2.1 h2 hd2.2.1 hT (fun _ => by rw [← hd.man h.lim, ← hd2.man h2.lim]; exact small_pow hv)
  rw [e1, e2, ← hd.exp, ← hd2.exp, hq] at this
  rw [← hd.exp, ← hd2.exp]
  exact this
theorem bMulZ (hd : Dn b l x d) (h : Lv w A l.length c l) (hT : Tab w) (ho : okE d.exp = true) :
    Calls Tryz.prog 42 #[dyV b A l.length c x, dyV false none 0 0 0] w (DyK zeroN 0 w) := by
  have e1 := hd.is h.lim
  have := dMul_any (b := b) (b2 := false) (x := x) (x2 := 0) h hd.2.1 (lv_nil w) (by omega) hT (fun _ => by rw [val_nil, Int.mul_zero]; exact Int.pow_pos (by omega))
  have q : mulQ x 0 d zeroN = (zeroN, 0) := by
    unfold mulQ may2 mulR
    rw [← hd.exp, ho, show okE 0 = true from rfl, if_pos (show (true && true) = true from rfl), mulN_zero_right]
    rfl
  rw [e1, val_nil, nfl_zero, q] at this
  exact this
theorem bAdd (hd : Dn b l x d) (h : Lv w A l.length c l) (hd2 : Dn b2 l2 x2 d2) (h2 : Lv w A2 l2.length c2 l2) (hT : Tab w) (hf : farN d d2 = true ∨ Near d d2) (hq : addQ d.exp d2.exp d d2 = R) :
    Calls Tryz.prog 38 #[dyV b A l.length c x, dyV b2 A2 l2.length c2 x2] w (DyK R.1 R.2 w) := by
  have e1 := hd.is h.lim
  have e2 := hd2.is h2.lim
  have := dAdd_any (b := b) (b2 := b2) (x := x) (x2 := x2) h hd.2.1 h2 hd2.2.1 hT (fun _ => by rw [e1, e2]; exact hf)
  rw [e1, e2, ← hd.exp, ← hd2.exp, hq] at this
  rw [← hd.exp, ← hd2.exp]
  exact this
theorem bAddZ (hd : Dn b l x (pw 262144)) (h : Lv w A l.length c l) (hT : Tab w) :
    Calls Tryz.prog 38 #[dyV b A l.length c x, dyV false none 0 0 (-262144)] w (DyK (pw 262144) 0 w) := by
  have e1 := hd.is h.lim
  have hn : Near (pw 262144) zeroN := ⟨262144, 262145, .inr ⟨by decide, by decide, by decide⟩, .inl rfl, by decide, by decide⟩
  have := dAdd_any (b := b) (b2 := false) (x := x) (x2 := -262144) h hd.2.1 (lv_nil w) (by omega) hT (fun _ => by rw [e1, val_nil, nfl_zero]; exact .inr hn)
  have q : addQ x (-262144) (pw 262144) zeroN = (pw 262144, 0) := by
    unfold addQ may2 addR
    rw [← hd.exp, show okE (pw 262144).exp = true from rfl, show okE (-262144) = true from rfl, if_pos (show (true && true) = true from rfl), show farN (pw 262144) zeroN = false from rfl, sumN_zero_right (.inr (by decide))]
    rfl
  rw [e1, val_nil, nfl_zero, q] at this
  exact this
theorem bShift (hd : Dn b l x d) (h : Lv w A l.length c l) (hT : Tab w) (ho : okE d.exp = true) (hq : shR d 1 = R) :
    Calls Tryz.prog 44 #[dyV b A l.length c x, .int .i64 1] w (DyK R.1 R.2 w) := by
  have e1 := hd.is h.lim
  have := dShift_yes (b := b) (x := x) h hd.2.1 hT (by rw [← hd.exp]; exact ho) 1 (by omega) (by omega)
  rw [e1, hq] at this
  exact this
theorem bNorm (h : Lv w A n c l) (hn : n ≤ 4096) (hT : Tab w) (ho : okE x = true) {v : Int} (hv : val 18446744073709551616 l = v) (hq : doneR (nfl b v x) = R) :
    Calls Tryz.prog 16 #[dyV b A n c x] w (DyK R.1 R.2 w) := by
  have := dNorm_yes (b := b) (x := x) h hn hT ho
  rw [hv, hq] at this
  exact this
theorem of_53 : nfl (pneg ((4845873199050653696 : Nat) : Int)) (pman ((4845873199050653696 : Nat) : Int)) (pexp ((4845873199050653696 : Nat) : Int)) = pw 53 := by
  have e1 : pneg ((4845873199050653696 : Nat) : Int) = false := by decide
  have e2 : pman ((4845873199050653696 : Nat) : Int) = (1 : Nat) * 2 ^ 52 := by decide
  have e3 : pexp ((4845873199050653696 : Nat) : Int) = 1 := by decide
  rw [e1, e3, nfl_is (m := 1) (k := 52) (by decide) e2]
  rfl
def kU : Nf := ⟨false, 9007199254740993, 0⟩
def kT : Nf := ⟨false, 9007199254740993 * 2 ^ 2000 + 1, -2000⟩
theorem sum_U : sumN (sumN zeroN (pw 53)) (pw 0) = kU := by
  rw [sumN_zero_left (.inr (by decide))]
  have h : (pw 53).num * 2 ^ ((pw 53).exp - min (pw 53).exp (pw 0).exp).toNat + (pw 0).num * 2 ^ ((pw 0).exp - min (pw 53).exp (pw 0).exp).toNat = 9007199254740993 := by decide
  unfold sumN
  rw [h]
  exact nfl_odd (v := 9007199254740993) false 0 (by decide) (by decide)
theorem sum_T : sumN kU (pw (-2000)) = kT := by
  have h : kU.num * 2 ^ (kU.exp - min kU.exp (pw (-2000)).exp).toNat + (pw (-2000)).num * 2 ^ ((pw (-2000)).exp - min kU.exp (pw (-2000)).exp).toNat = ((9007199254740993 * 2 ^ 2000 + 1 : Nat) : Int) := by decide +kernel
  unfold sumN
  rw [h]
  have := nfl_odd (v := ((9007199254740993 * 2 ^ 2000 + 1 : Nat) : Int)) false (-2000) (by decide +kernel) (Int.natCast_nonneg _)
  rw [Int.toNat_natCast] at this
  exact this
theorem fw_kU : fw kU = 4845873199050653696 := by decide +kernel
theorem fw_kT : fw kT = 4845873199050653697 := by decide +kernel
theorem Dl.mk2 {W : World} {g : Nat} {a b : De} (hg : Blk W g [.bool a.b, .slice a.A a.l.length a.c, .int .i64 a.x, .bool b.b, .slice b.A b.l.length b.c, .int .i64 b.x]) (ha : Lv W a.A a.l.length a.c a.l) (hb : Lv W b.A b.l.length b.c b.l)
    (ba : -9223372036854775808 ≤ a.x ∧ a.x ≤ 9223372036854775807) (bb : -9223372036854775808 ≤ b.x ∧ b.x ≤ 9223372036854775807) : Dl W (some ⟨g, 0, none⟩) 2 2 [a, b] := by
  refine ⟨rfl, by omega, fun e he => ?_, fun _ => ⟨_, rfl, hg.lt, fun i e he => ?_⟩⟩
  · simp only [List.mem_cons, List.not_mem_nil, or_false] at he
    rcases he with rfl | rfl
    · exact ⟨ha, ba⟩
    · exact ⟨hb, bb⟩
  · rw [add_at, add_at, add_at]
    match i, he with
    | 0, he => cases he; exact ⟨hg.cell 0 rfl, hg.cell 1 rfl, hg.cell 2 rfl⟩
    | 1, he => cases he; exact ⟨hg.cell 3 rfl, hg.cell 4 rfl, hg.cell 5 rfl⟩
    | k + 2, he => simp at he
theorem Dl.mk3 {W : World} {g : Nat} {a b c : De} (hg : Blk W g [.bool a.b, .slice a.A a.l.length a.c, .int .i64 a.x, .bool b.b, .slice b.A b.l.length b.c, .int .i64 b.x, .bool c.b, .slice c.A c.l.length c.c, .int .i64 c.x]) (ha : Lv W a.A a.l.length a.c a.l) (hb : Lv W b.A b.l.length b.c b.l) (hc : Lv W c.A c.l.length c.c c.l)
    (ba : -9223372036854775808 ≤ a.x ∧ a.x ≤ 9223372036854775807) (bb : -9223372036854775808 ≤ b.x ∧ b.x ≤ 9223372036854775807) (bc : -9223372036854775808 ≤ c.x ∧ c.x ≤ 9223372036854775807) : Dl W (some ⟨g, 0, none⟩) 3 3 [a, b, c] := by
  refine ⟨rfl, by omega, fun e he => ?_, fun _ => ⟨_, rfl, hg.lt, fun i e he => ?_⟩⟩
  · simp only [List.mem_cons, List.not_mem_nil, or_false] at he
    rcases he with rfl | rfl | rfl
    · exact ⟨ha, ba⟩
    · exact ⟨hb, bb⟩
    · exact ⟨hc, bc⟩
  · rw [add_at, add_at, add_at]
    match i, he with
    | 0, he => cases he; exact ⟨hg.cell 0 rfl, hg.cell 1 rfl, hg.cell 2 rfl⟩
    | 1, he => cases he; exact ⟨hg.cell 3 rfl, hg.cell 4 rfl, hg.cell 5 rfl⟩
    | 2, he => cases he; exact ⟨hg.cell 6 rfl, hg.cell 7 rfl, hg.cell 8 rfl⟩
    | k + 3, he => simp at he
/-- a normal number as an element -/
theorem De.dn (hd : Dn b l x d) (h : Lv w A l.length c l) (i : d.In (-2000) 55) : De.N ⟨b, A, c, x, l⟩ = d ∧ okE x = true ∧ l.length ≤ 4096 ∧ -9223372036854775808 ≤ x ∧ x ≤ 9223372036854775807 := by
  have ho := in_okE hd.2.2.2 i (by omega) (by omega)
  rw [hd.exp] at ho
  have hx := (okE_iff x).1 ho
  exact ⟨hd.is h.lim, ho, hd.2.1, by omega, by omega⟩
theorem bSum {es : List De} {S : Nf} (h : Dl w A n c es) (hn : n ≤ 3) (hT : Tab w) (ho : ∀ e ∈ es, okE e.x = true) (hs : ∀ e ∈ es, e.l.length ≤ 4096) (hi : ∀ i, (at0 es i).In (-2000) 55) (hS : sumTo (at0 es) n = S) :
    Calls Tryz.prog 47 #[.slice A n c] w (DyK S 0 w) := by
  have HI : Hid (∀ k, k ≤ n → (sumTo (at0 es) k).In (-2000) 58) := Lib.hid fun k hk => (sumTo_in (at0 es) n (by omega) (fun i _ => at0_ok es i) (fun i _ => hi i) k hk).mono (by omega) (by omega)
  have HF : Hid (∀ k, k < n → (at0 es k).In (-2000) 58) := Lib.hid fun k _ => (hi k).mono (by omega) (by omega)
  have := dSum_in h hT ho hs HI HF (by omega) (by omega) (by omega) (by omega)
  rw [hS] at this
  exact this
theorem pw_in (k : Int) (h0 : -2000 ≤ k) (h1 : k ≤ 54) : (pw k).In (-2000) 55 := .inr ⟨h0, by show k ≤ 55; omega, by
  show (1 : Int) < 2 ^ (55 - k).toNat
  have := pw_mono (show 1 ≤ (55 - k).toNat by omega)
  have e : (2 : Int) ^ 1 = 2 := by decide
  omega⟩
section
variable {b1 b3 : Bool} {A1 A3 : Option Addr} {c1 c3 : Nat} {x1 x3 : Int} {l1 l3 : List Int}
theorem bSum3 {g : Nat} (hg : Blk w g [.bool b1, .slice A1 l1.length c1, .int .i64 x1, .bool b2, .slice A2 l2.length c2, .int .i64 x2, .bool b3, .slice A3 l3.length c3, .int .i64 x3]) (hd1 : Dn b1 l1 x1 (pw 53)) (m1 : Lv w A1 l1.length c1 l1) (hd2 : Dn b2 l2 x2 (pw 0)) (m2 : Lv w A2 l2.length c2 l2) (hd3 : Dn b3 l3 x3 (pw (-2000))) (m3 : Lv w A3 l3.length c3 l3) (hT : Tab w) :
    Calls Tryz.prog 47 #[.slice (some ⟨g, 0, none⟩) 3 3] w (DyK kT 0 w) := by
  obtain ⟨n1, o1, k1, y1⟩ := De.dn hd1 m1 (pw_in 53 (by omega) (by omega))
  obtain ⟨n2, o2, k2, y2⟩ := De.dn hd2 m2 (pw_in 0 (by omega) (by omega))
  obtain ⟨n3, o3, k3, y3⟩ := De.dn hd3 m3 (pw_in (-2000) (by omega) (by omega))
  have h := Dl.mk3 (a := ⟨b1, A1, c1, x1, l1⟩) (b := ⟨b2, A2, c2, x2, l2⟩) (c := ⟨b3, A3, c3, x3, l3⟩) hg m1 m2 m3 y1 y2 y3
  refine bSum h (by omega) hT (fun e he => ?_) (fun e he => ?_) (fun i => ?_) ?_
  · simp only [List.mem_cons, List.not_mem_nil, or_false] at he
    rcases he with rfl | rfl | rfl <;> assumption
  · simp only [List.mem_cons, List.not_mem_nil, or_false] at he
    rcases he with rfl | rfl | rfl <;> assumption
  · match i with
    | 0 => show (De.N _).In _ _; rw [n1]; exact pw_in 53 (by omega) (by omega)
    | 1 => show (De.N _).In _ _; rw [n2]; exact pw_in 0 (by omega) (by omega)
    | 2 => show (De.N _).In _ _; rw [n3]; exact pw_in (-2000) (by omega) (by omega)
    | k + 3 => exact zeroN_in _ _
  · show sumN (sumN (sumN zeroN (De.N _)) (De.N _)) (De.N _) = kT
    rw [n1, n2, n3, sum_U, sum_T]
theorem bSum2 {g : Nat} (hg : Blk w g [.bool b1, .slice A1 l1.length c1, .int .i64 x1, .bool b2, .slice A2 l2.length c2, .int .i64 x2]) (hd1 : Dn b1 l1 x1 (pw 53)) (m1 : Lv w A1 l1.length c1 l1) (hd2 : Dn b2 l2 x2 (pw 0)) (m2 : Lv w A2 l2.length c2 l2) (hT : Tab w) :
    Calls Tryz.prog 47 #[.slice (some ⟨g, 0, none⟩) 2 2] w (DyK kU 0 w) := by
  obtain ⟨n1, o1, k1, y1⟩ := De.dn hd1 m1 (pw_in 53 (by omega) (by omega))
  obtain ⟨n2, o2, k2, y2⟩ := De.dn hd2 m2 (pw_in 0 (by omega) (by omega))
  have h := Dl.mk2 (a := ⟨b1, A1, c1, x1, l1⟩) (b := ⟨b2, A2, c2, x2, l2⟩) hg m1 m2 y1 y2
  refine bSum h (by omega) hT (fun e he => ?_) (fun e he => ?_) (fun i => ?_) ?_
  · simp only [List.mem_cons, List.not_mem_nil, or_false] at he
    rcases he with rfl | rfl <;> assumption
  · simp only [List.mem_cons, List.not_mem_nil, or_false] at he
    rcases he with rfl | rfl <;> assumption
  · match i with
    | 0 => show (De.N _).In _ _; rw [n1]; exact pw_in 53 (by omega) (by omega)
    | 1 => show (De.N _).In _ _; rw [n2]; exact pw_in 0 (by omega) (by omega)
    | k + 2 => exact zeroN_in _ _
  · show sumN (sumN zeroN (De.N _)) (De.N _) = kU
    rw [n1, n2, sum_U]
end
theorem q_m1 : mulQ (pw 262144).exp (pw 1).exp (pw 262144) (pw 1) = (zeroN, 3) := by unfold mulQ mulR; rw [pw_mul]; rfl
theorem q_m2 : mulQ (pw (-262144)).exp (pw (-1)).exp (pw (-262144)) (pw (-1)) = (zeroN, 3) := by unfold mulQ mulR; rw [pw_mul]; rfl
theorem q_a1 : addQ (pw 262144).exp (pw (-262144)).exp (pw 262144) (pw (-262144)) = (zeroN, 3) := by unfold addQ addR; rfl
theorem q_n1 : doneR (nfl false 2 262144) = (zeroN, 3) := by
  rw [nfl_is (m := 1) (k := 1) (by decide) (by decide)]
  rfl
theorem q_n2 : doneR (nfl true 0 5) = (zeroN, 0) := by rw [nfl_zero]; rfl
theorem row_two (w : World) : Lv (w.alloc (.cells #[.int .u64 0, .int .u64 0] 35)) (some ⟨w.heap.size, 0, none⟩) 2 2 [0, 0] := Lv.row w [0, 0] 2 w.heap.size rfl rfl (by omega) (fun y hy => by simp at hy; omega) _ rfl
set_option maxRecDepth 1000000 in
set_option maxHeartbeats 16000000 in
theorem bounds_law (w : World) (hT : Tab w) (hP : PowT w) :
    Calls Tryz.prog 13 #[] w fun e w' => e = .returned (.bool true) ∧ Below w.heap.size w w' := by
  have bw : Below w.heap.size w w := Below.refl _ _
  go_enter Tryz.func13, Tryz.ntmps13
  go_wp2_with fail
  have p1 := ((show Calls Tryz.prog 33 #[.int .i64 262145] w (DyK zeroN 3 w) from dHalf_any 262145 w)).mono (fun _ _ => DyK.zero)
  with_reducible refine p1.mono ?_
  rintro e w1 ⟨Aa, ca, rfl, ma, hb⟩
  clear p1
  have hs1 := hb.size
  try simp only [World.size_alloc] at hs1
  replace bw : Below w.heap.size w w1 := dy_end (by go_grown) hb
  replace hT := hT.onD hb
  replace hP := hP.on hb
  clear hb
  clear ma
  replace hT := hT.alD (.cells #[.bool false, .slice Aa 0 ca, .int .i64 0] 24)
  replace hP := hP.on ((Below.refl _ _).alloc (Nat.le_refl _) (.cells #[.bool false, .slice Aa 0 ca, .int .i64 0] 24))
  replace bw : Below w.heap.size w (w1.alloc (.cells #[.bool false, .slice Aa 0 ca, .int .i64 0] 24)) := by go_grown
  have Z1 := Blk.new w1 [.bool false, .slice Aa 0 ca, .int .i64 0] 24
  obtain ⟨Z1_0, Z1_1, Z1_2, Z1_f0, Z1_f1, Z1_f2⟩ := Dbx.cells Z1
  clear Z1_0 Z1_1 Z1_2 Z1_f0 Z1_f1 Z1_f2
  clear Z1
  go_wp2_with fail
  have p2 := (show Calls Tryz.prog 53 #[.int .i64 (262144)] (w1.alloc (.cells #[.bool false, .slice Aa 0 ca, .int .i64 0] 24)) (DyP (pw (262144)) (w1.alloc (.cells #[.bool false, .slice Aa 0 ca, .int .i64 0] 24))) from lhalf_any (262144) (w1.alloc (.cells #[.bool false, .slice Aa 0 ca, .int .i64 0] 24)))
  with_reducible refine p2.mono ?_
  rintro e w2 ⟨bb, lb, Ab, cb, xb, rfl, db, mb, hb⟩
  clear p2
  have hs2 := hb.size
  try simp only [World.size_alloc] at hs2
  replace bw : Below w.heap.size w w2 := dy_end (by go_grown) hb
  replace hT := hT.onD hb
  replace hP := hP.on hb
  clear hb
  go_wp2_with fail
  have p3 := (show Calls Tryz.prog 53 #[.int .i64 (1)] w2 (DyP (pw (1)) w2) from lhalf_any (1) w2)
  with_reducible refine p3.mono ?_
  rintro e w3 ⟨bc, lc, Ac, cc, xc, rfl, dc, mc, hb⟩
  clear p3
  have hs3 := hb.size
  try simp only [World.size_alloc] at hs3
  replace bw : Below w.heap.size w w3 := dy_end (by go_grown) hb
  replace mb := Lv.on mb hb
  replace hT := hT.onD hb
  replace hP := hP.on hb
  clear hb
  go_wp2_with fail
  have p4 := (bMul db mb dc mc hT (by decide) q_m1).mono (fun _ _ => DyK.zero)
  with_reducible refine p4.mono ?_
  rintro e w4 ⟨Ae, ce, rfl, me, hb⟩
  clear p4
  have hs4 := hb.size
  try simp only [World.size_alloc] at hs4
  replace bw : Below w.heap.size w w4 := dy_end (by go_grown) hb
  replace mb := Lv.on mb hb
  replace mc := Lv.on mc hb
  replace hT := hT.onD hb
  replace hP := hP.on hb
  clear hb
  clear mb db
  clear mc dc
  replace hT := hT.alD (.cells #[.bool false, .slice Ae 0 ce, .int .i64 0] 24)
  replace hP := hP.on ((Below.refl _ _).alloc (Nat.le_refl _) (.cells #[.bool false, .slice Ae 0 ce, .int .i64 0] 24))
  replace bw : Below w.heap.size w (w4.alloc (.cells #[.bool false, .slice Ae 0 ce, .int .i64 0] 24)) := by go_grown
  have Z2 := Blk.new w4 [.bool false, .slice Ae 0 ce, .int .i64 0] 24
  obtain ⟨Z2_0, Z2_1, Z2_2, Z2_f0, Z2_f1, Z2_f2⟩ := Dbx.cells Z2
  clear Z2_0 Z2_1 Z2_2 Z2_f0 Z2_f1 Z2_f2
  clear Z2
  go_wp2_with fail
  have p5 := (show Calls Tryz.prog 53 #[.int .i64 (-262144)] (w4.alloc (.cells #[.bool false, .slice Ae 0 ce, .int .i64 0] 24)) (DyP (pw (-262144)) (w4.alloc (.cells #[.bool false, .slice Ae 0 ce, .int .i64 0] 24))) from lhalf_any (-262144) (w4.alloc (.cells #[.bool false, .slice Ae 0 ce, .int .i64 0] 24)))
  with_reducible refine p5.mono ?_
  rintro e w5 ⟨bf, lf, Af, cf, xf, rfl, df, mf, hb⟩
  clear p5
  have hs5 := hb.size
  try simp only [World.size_alloc] at hs5
  replace bw : Below w.heap.size w w5 := dy_end (by go_grown) hb
  replace hT := hT.onD hb
  replace hP := hP.on hb
  clear hb
  go_wp2_with fail
  have p6 := (show Calls Tryz.prog 53 #[.int .i64 (-1)] w5 (DyP (pw (-1)) w5) from lhalf_any (-1) w5)
  with_reducible refine p6.mono ?_
  rintro e w6 ⟨bg, lg, Ag, cg, xg, rfl, dg, mg, hb⟩
  clear p6
  have hs6 := hb.size
  try simp only [World.size_alloc] at hs6
  replace bw : Below w.heap.size w w6 := dy_end (by go_grown) hb
  replace mf := Lv.on mf hb
  replace hT := hT.onD hb
  replace hP := hP.on hb
  clear hb
  go_wp2_with fail
  have p7 := (bMul df mf dg mg hT (by decide) q_m2).mono (fun _ _ => DyK.zero)
  with_reducible refine p7.mono ?_
  rintro e w7 ⟨Ah, ch, rfl, mh, hb⟩
  clear p7
  have hs7 := hb.size
  try simp only [World.size_alloc] at hs7
  replace bw : Below w.heap.size w w7 := dy_end (by go_grown) hb
  replace mf := Lv.on mf hb
  replace mg := Lv.on mg hb
  replace hT := hT.onD hb
  replace hP := hP.on hb
  clear hb
  clear mf df
  clear mg dg
  replace hT := hT.alD (.cells #[.bool false, .slice Ah 0 ch, .int .i64 0] 24)
  replace hP := hP.on ((Below.refl _ _).alloc (Nat.le_refl _) (.cells #[.bool false, .slice Ah 0 ch, .int .i64 0] 24))
  replace bw : Below w.heap.size w (w7.alloc (.cells #[.bool false, .slice Ah 0 ch, .int .i64 0] 24)) := by go_grown
  have Z3 := Blk.new w7 [.bool false, .slice Ah 0 ch, .int .i64 0] 24
  obtain ⟨Z3_0, Z3_1, Z3_2, Z3_f0, Z3_f1, Z3_f2⟩ := Dbx.cells Z3
  clear Z3_0 Z3_1 Z3_2 Z3_f0 Z3_f1 Z3_f2
  clear Z3
  go_wp2_with fail
  have p8 := (show Calls Tryz.prog 53 #[.int .i64 (262144)] (w7.alloc (.cells #[.bool false, .slice Ah 0 ch, .int .i64 0] 24)) (DyP (pw (262144)) (w7.alloc (.cells #[.bool false, .slice Ah 0 ch, .int .i64 0] 24))) from lhalf_any (262144) (w7.alloc (.cells #[.bool false, .slice Ah 0 ch, .int .i64 0] 24)))
  with_reducible refine p8.mono ?_
  rintro e w8 ⟨bi, li, Ai, ci, xi, rfl, di, mi, hb⟩
  clear p8
  have hs8 := hb.size
  try simp only [World.size_alloc] at hs8
  replace bw : Below w.heap.size w w8 := dy_end (by go_grown) hb
  replace hT := hT.onD hb
  replace hP := hP.on hb
  clear hb
  go_wp2_with fail
  have p9 := (show Calls Tryz.prog 53 #[.int .i64 (-262144)] w8 (DyP (pw (-262144)) w8) from lhalf_any (-262144) w8)
  with_reducible refine p9.mono ?_
  rintro e w9 ⟨bj, lj, Aj, cj, xj, rfl, dj, mj, hb⟩
  clear p9
  have hs9 := hb.size
  try simp only [World.size_alloc] at hs9
  replace bw : Below w.heap.size w w9 := dy_end (by go_grown) hb
  replace mi := Lv.on mi hb
  replace hT := hT.onD hb
  replace hP := hP.on hb
  clear hb
  go_wp2_with fail
  have p10 := (bAdd di mi dj mj hT (.inl rfl) q_a1).mono (fun _ _ => DyK.zero)
  with_reducible refine p10.mono ?_
  rintro e w10 ⟨Ak, ck, rfl, mk, hb⟩
  clear p10
  have hs10 := hb.size
  try simp only [World.size_alloc] at hs10
  replace bw : Below w.heap.size w w10 := dy_end (by go_grown) hb
  replace mi := Lv.on mi hb
  replace mj := Lv.on mj hb
  replace hT := hT.onD hb
  replace hP := hP.on hb
  clear hb
  clear mi di
  clear mj dj
  replace hT := hT.alD (.cells #[.bool false, .slice Ak 0 ck, .int .i64 0] 24)
  replace hP := hP.on ((Below.refl _ _).alloc (Nat.le_refl _) (.cells #[.bool false, .slice Ak 0 ck, .int .i64 0] 24))
  replace bw : Below w.heap.size w (w10.alloc (.cells #[.bool false, .slice Ak 0 ck, .int .i64 0] 24)) := by go_grown
  have Z4 := Blk.new w10 [.bool false, .slice Ak 0 ck, .int .i64 0] 24
  obtain ⟨Z4_0, Z4_1, Z4_2, Z4_f0, Z4_f1, Z4_f2⟩ := Dbx.cells Z4
  clear Z4_0 Z4_1 Z4_2 Z4_f0 Z4_f1 Z4_f2
  clear Z4
  go_wp2_with fail
  have p11 := (show Calls Tryz.prog 53 #[.int .i64 (262144)] (w10.alloc (.cells #[.bool false, .slice Ak 0 ck, .int .i64 0] 24)) (DyP (pw (262144)) (w10.alloc (.cells #[.bool false, .slice Ak 0 ck, .int .i64 0] 24))) from lhalf_any (262144) (w10.alloc (.cells #[.bool false, .slice Ak 0 ck, .int .i64 0] 24)))
  with_reducible refine p11.mono ?_
  rintro e w11 ⟨bm, lm, Am, cm, xm, rfl, dm, mm, hb⟩
  clear p11
  have hs11 := hb.size
  try simp only [World.size_alloc] at hs11
  replace bw : Below w.heap.size w w11 := dy_end (by go_grown) hb
  replace hT := hT.onD hb
  replace hP := hP.on hb
  clear hb
  go_wp2_with fail
  have p12 := (show Calls Tryz.prog 53 #[.int .i64 (-1)] w11 (DyP (pw (-1)) w11) from lhalf_any (-1) w11)
  with_reducible refine p12.mono ?_
  rintro e w12 ⟨bn, ln, An, cn, xn, rfl, dn, mn, hb⟩
  clear p12
  have hs12 := hb.size
  try simp only [World.size_alloc] at hs12
  replace bw : Below w.heap.size w w12 := dy_end (by go_grown) hb
  replace mm := Lv.on mm hb
  replace hT := hT.onD hb
  replace hP := hP.on hb
  clear hb
  go_wp2_with fail
  have p13 := dCmp_dn dm mm dn mn hT (okE_dn dm (by decide)) (okE_dn dn (by decide)) (ord_far (d := pw 262144) (d2 := pw (-1)) rfl (by decide) rfl)
  with_reducible refine p13.mono ?_
  rintro e w13 ⟨rfl, hb⟩
  clear p13
  have hs13 := hb.size
  try simp only [World.size_alloc] at hs13
  replace bw : Below w.heap.size w w13 := dy_end (by go_grown) hb
  replace mm := Lv.on mm hb
  replace mn := Lv.on mn hb
  replace hT := hT.onD hb
  replace hP := hP.on hb
  clear hb
  clear mm dm
  clear mn dn
  go_wp2_with fail
  have p14 := (show Calls Tryz.prog 53 #[.int .i64 (262144)] w13 (DyP (pw (262144)) w13) from lhalf_any (262144) w13)
  with_reducible refine p14.mono ?_
  rintro e w14 ⟨bo, lo, Ao, co, xo, rfl, do9, mo, hb⟩
  clear p14
  have hs14 := hb.size
  try simp only [World.size_alloc] at hs14
  replace bw : Below w.heap.size w w14 := dy_end (by go_grown) hb
  replace hT := hT.onD hb
  replace hP := hP.on hb
  clear hb
  go_wp2_with fail
  have p15 := (bShift do9 mo hT rfl (R := (zeroN, 3)) rfl).mono (fun _ _ => DyK.zero)
  with_reducible refine p15.mono ?_
  rintro e w15 ⟨Ap, cp, rfl, mp, hb⟩
  clear p15
  have hs15 := hb.size
  try simp only [World.size_alloc] at hs15
  replace bw : Below w.heap.size w w15 := dy_end (by go_grown) hb
  replace mo := Lv.on mo hb
  replace hT := hT.onD hb
  replace hP := hP.on hb
  clear hb
  clear mo do9
  replace hT := hT.alD (.cells #[.bool false, .slice Ap 0 cp, .int .i64 0] 24)
  replace hP := hP.on ((Below.refl _ _).alloc (Nat.le_refl _) (.cells #[.bool false, .slice Ap 0 cp, .int .i64 0] 24))
  replace bw : Below w.heap.size w (w15.alloc (.cells #[.bool false, .slice Ap 0 cp, .int .i64 0] 24)) := by go_grown
  have Z5 := Blk.new w15 [.bool false, .slice Ap 0 cp, .int .i64 0] 24
  obtain ⟨Z5_0, Z5_1, Z5_2, Z5_f0, Z5_f1, Z5_f2⟩ := Dbx.cells Z5
  clear Z5_0 Z5_1 Z5_2 Z5_f0 Z5_f1 Z5_f2
  clear Z5
  go_wp2_with fail
  have mq := row_one (w15.alloc (.cells #[.bool false, .slice Ap 0 cp, .int .i64 0] 24)) (v := 2) (by omega) (by omega)
  simp only [World.size_alloc] at mq
  replace hT := hT.alD (.cells #[.int .u64 2] 35)
  replace hP := hP.on ((Below.refl _ _).alloc (Nat.le_refl _) (.cells #[.int .u64 2] 35))
  replace bw : Below w.heap.size w ((w15.alloc (.cells #[.bool false, .slice Ap 0 cp, .int .i64 0] 24)).alloc (.cells #[.int .u64 2] 35)) := by go_grown
  go_wp2_with fail
  have p16 := (bNorm (b := false) (x := 262144) mq (by omega) hT rfl (val_one 2) q_n1).mono (fun _ _ => DyK.zero)
  with_reducible refine p16.mono ?_
  rintro e w16 ⟨Ar, cr, rfl, mr, hb⟩
  clear p16
  have hs16 := hb.size
  try simp only [World.size_alloc] at hs16
  replace bw : Below w.heap.size w w16 := dy_end (by go_grown) hb
  replace mq := Lv.on mq hb
  replace hT := hT.onD hb
  replace hP := hP.on hb
  clear hb
  clear mq
  replace hT := hT.alD (.cells #[.bool false, .slice Ar 0 cr, .int .i64 0] 24)
  replace hP := hP.on ((Below.refl _ _).alloc (Nat.le_refl _) (.cells #[.bool false, .slice Ar 0 cr, .int .i64 0] 24))
  replace bw : Below w.heap.size w (w16.alloc (.cells #[.bool false, .slice Ar 0 cr, .int .i64 0] 24)) := by go_grown
  have Z6 := Blk.new w16 [.bool false, .slice Ar 0 cr, .int .i64 0] 24
  obtain ⟨Z6_0, Z6_1, Z6_2, Z6_f0, Z6_f1, Z6_f2⟩ := Dbx.cells Z6
  clear Z6_0 Z6_1 Z6_2 Z6_f0 Z6_f1 Z6_f2
  clear Z6
  go_wp2_with fail
  have ms := row_one (w16.alloc (.cells #[.bool false, .slice Ar 0 cr, .int .i64 0] 24)) (v := 1) (by omega) (by omega)
  simp only [World.size_alloc] at ms
  replace hT := hT.alD (.cells #[.int .u64 1] 35)
  replace hP := hP.on ((Below.refl _ _).alloc (Nat.le_refl _) (.cells #[.int .u64 1] 35))
  replace bw : Below w.heap.size w ((w16.alloc (.cells #[.bool false, .slice Ar 0 cr, .int .i64 0] 24)).alloc (.cells #[.int .u64 1] 35)) := by go_grown
  go_wp2_with fail
  have p17 := (dNorm_no (b := false) (x := 262145) ms (by omega) rfl).mono (fun _ _ => DyK.zero)
  with_reducible refine p17.mono ?_
  rintro e w17 ⟨At, ct, rfl, mt, hb⟩
  clear p17
  have hs17 := hb.size
  try simp only [World.size_alloc] at hs17
  replace bw : Below w.heap.size w w17 := dy_end (by go_grown) hb
  replace ms := Lv.on ms hb
  replace hT := hT.onD hb
  replace hP := hP.on hb
  clear hb
  clear ms
  replace hT := hT.alD (.cells #[.bool false, .slice At 0 ct, .int .i64 0] 24)
  replace hP := hP.on ((Below.refl _ _).alloc (Nat.le_refl _) (.cells #[.bool false, .slice At 0 ct, .int .i64 0] 24))
  replace bw : Below w.heap.size w (w17.alloc (.cells #[.bool false, .slice At 0 ct, .int .i64 0] 24)) := by go_grown
  have Z7 := Blk.new w17 [.bool false, .slice At 0 ct, .int .i64 0] 24
  obtain ⟨Z7_0, Z7_1, Z7_2, Z7_f0, Z7_f1, Z7_f2⟩ := Dbx.cells Z7
  clear Z7_0 Z7_1 Z7_2 Z7_f0 Z7_f1 Z7_f2
  clear Z7
  go_wp2_with fail
  have p18 := (show Calls Tryz.prog 53 #[.int .i64 (262144)] (w17.alloc (.cells #[.bool false, .slice At 0 ct, .int .i64 0] 24)) (DyP (pw (262144)) (w17.alloc (.cells #[.bool false, .slice At 0 ct, .int .i64 0] 24))) from lhalf_any (262144) (w17.alloc (.cells #[.bool false, .slice At 0 ct, .int .i64 0] 24)))
  with_reducible refine p18.mono ?_
  rintro e w18 ⟨bu, lu, Au, cu, xu, rfl, du, mu, hb⟩
  clear p18
  have hs18 := hb.size
  try simp only [World.size_alloc] at hs18
  replace bw : Below w.heap.size w w18 := dy_end (by go_grown) hb
  replace hT := hT.onD hb
  replace hP := hP.on hb
  clear hb
  go_wp2_with fail
  have p19 := (bMulZ du mu hT rfl).mono (fun _ _ => DyK.zero)
  with_reducible refine p19.mono ?_
  rintro e w19 ⟨Az, cz, rfl, mz, hb⟩
  clear p19
  have hs19 := hb.size
  try simp only [World.size_alloc] at hs19
  replace bw : Below w.heap.size w w19 := dy_end (by go_grown) hb
  replace mu := Lv.on mu hb
  replace hT := hT.onD hb
  replace hP := hP.on hb
  clear hb
  clear mu du
  replace mz := Lv.alloc mz (.cells #[.bool false, .slice Az 0 cz, .int .i64 0] 24)
  replace hT := hT.alD (.cells #[.bool false, .slice Az 0 cz, .int .i64 0] 24)
  replace hP := hP.on ((Below.refl _ _).alloc (Nat.le_refl _) (.cells #[.bool false, .slice Az 0 cz, .int .i64 0] 24))
  replace bw : Below w.heap.size w (w19.alloc (.cells #[.bool false, .slice Az 0 cz, .int .i64 0] 24)) := by go_grown
  have Z8 := Blk.new w19 [.bool false, .slice Az 0 cz, .int .i64 0] 24
  obtain ⟨Z8_0, Z8_1, Z8_2, Z8_f0, Z8_f1, Z8_f2⟩ := Dbx.cells Z8
  go_wp2_with fail
  have p20 := (show Calls Tryz.prog 53 #[.int .i64 (262144)] (w19.alloc (.cells #[.bool false, .slice Az 0 cz, .int .i64 0] 24)) (DyP (pw (262144)) (w19.alloc (.cells #[.bool false, .slice Az 0 cz, .int .i64 0] 24))) from lhalf_any (262144) (w19.alloc (.cells #[.bool false, .slice Az 0 cz, .int .i64 0] 24)))
  with_reducible refine p20.mono ?_
  rintro e w20 ⟨bv, lv, Av, cv, xv, rfl, dv, mv, hb⟩
  clear p20
  clear Z8_0 Z8_1 Z8_2 Z8_f0 Z8_f1 Z8_f2
  have hs20 := hb.size
  try simp only [World.size_alloc] at hs20
  replace bw : Below w.heap.size w w20 := dy_end (by go_grown) hb
  replace mz := Lv.on mz hb
  replace Z8 := Blk.on Z8 hb
  replace hT := hT.onD hb
  replace hP := hP.on hb
  clear hb
  obtain ⟨Z8_0, Z8_1, Z8_2, Z8_f0, Z8_f1, Z8_f2⟩ := Dbx.cells Z8
  go_wp2_with fail
  have p21 := bAddZ dv mv hT
  with_reducible refine p21.mono ?_
  rintro e w21 ⟨bY, lY, AY, cY, xY, rfl, dY, mY, hb⟩
  clear p21
  clear Z8_0 Z8_1 Z8_2 Z8_f0 Z8_f1 Z8_f2
  have hs21 := hb.size
  try simp only [World.size_alloc] at hs21
  replace bw : Below w.heap.size w w21 := dy_end (by go_grown) hb
  replace mz := Lv.on mz hb
  replace mv := Lv.on mv hb
  replace Z8 := Blk.on Z8 hb
  replace hT := hT.onD hb
  replace hP := hP.on hb
  clear hb
  obtain ⟨Z8_0, Z8_1, Z8_2, Z8_f0, Z8_f1, Z8_f2⟩ := Dbx.cells Z8
  clear mv dv
  replace mz := Lv.alloc mz (.cells #[.bool bY, .slice AY lY.length cY, .int .i64 xY] 24)
  replace mY := Lv.alloc mY (.cells #[.bool bY, .slice AY lY.length cY, .int .i64 xY] 24)
  clear Z8_0 Z8_1 Z8_2 Z8_f0 Z8_f1 Z8_f2
  replace Z8 := Blk.alloc Z8 (.cells #[.bool bY, .slice AY lY.length cY, .int .i64 xY] 24)
  replace hT := hT.alD (.cells #[.bool bY, .slice AY lY.length cY, .int .i64 xY] 24)
  replace hP := hP.on ((Below.refl _ _).alloc (Nat.le_refl _) (.cells #[.bool bY, .slice AY lY.length cY, .int .i64 xY] 24))
  replace bw : Below w.heap.size w (w21.alloc (.cells #[.bool bY, .slice AY lY.length cY, .int .i64 xY] 24)) := by go_grown
  have Z9 := Blk.new w21 [.bool bY, .slice AY lY.length cY, .int .i64 xY] 24
  obtain ⟨Z8_0, Z8_1, Z8_2, Z8_f0, Z8_f1, Z8_f2⟩ := Dbx.cells Z8
  obtain ⟨Z9_0, Z9_1, Z9_2, Z9_f0, Z9_f1, Z9_f2⟩ := Dbx.cells Z9
  go_wp2_with fail
  have p22 := (show Calls Tryz.prog 51 #[.float .f64 4845873199050653696] (w21.alloc (.cells #[.bool bY, .slice AY lY.length cY, .int .i64 xY] 24)) (DyP (pw 53) (w21.alloc (.cells #[.bool bY, .slice AY lY.length cY, .int .i64 xY] 24))) from of_53 ▸ lof_yes 4845873199050653696 (by decide) (by decide) hT)
  with_reducible refine p22.mono ?_
  rintro e w22 ⟨bA, lA, AA, cA, xA, rfl, dA, mA, hb⟩
  clear p22
  clear Z8_0 Z8_1 Z8_2 Z8_f0 Z8_f1 Z8_f2
  clear Z9_0 Z9_1 Z9_2 Z9_f0 Z9_f1 Z9_f2
  have hs22 := hb.size
  try simp only [World.size_alloc] at hs22
  replace bw : Below w.heap.size w w22 := dy_end (by go_grown) hb
  replace mz := Lv.on mz hb
  replace mY := Lv.on mY hb
  replace Z8 := Blk.on Z8 hb
  replace Z9 := Blk.on Z9 hb
  replace hT := hT.onD hb
  replace hP := hP.on hb
  clear hb
  obtain ⟨Z8_0, Z8_1, Z8_2, Z8_f0, Z8_f1, Z8_f2⟩ := Dbx.cells Z8
  obtain ⟨Z9_0, Z9_1, Z9_2, Z9_f0, Z9_f1, Z9_f2⟩ := Dbx.cells Z9
  go_wp2_with fail
  have p23 := (show Calls Tryz.prog 53 #[.int .i64 (0)] w22 (DyP (pw (0)) w22) from lhalf_any (0) w22)
  with_reducible refine p23.mono ?_
  rintro e w23 ⟨bB, lB, AB, cB, xB, rfl, dB, mB, hb⟩
  clear p23
  clear Z8_0 Z8_1 Z8_2 Z8_f0 Z8_f1 Z8_f2
  clear Z9_0 Z9_1 Z9_2 Z9_f0 Z9_f1 Z9_f2
  have hs23 := hb.size
  try simp only [World.size_alloc] at hs23
  replace bw : Below w.heap.size w w23 := dy_end (by go_grown) hb
  replace mz := Lv.on mz hb
  replace mY := Lv.on mY hb
  replace mA := Lv.on mA hb
  replace Z8 := Blk.on Z8 hb
  replace Z9 := Blk.on Z9 hb
  replace hT := hT.onD hb
  replace hP := hP.on hb
  clear hb
  obtain ⟨Z8_0, Z8_1, Z8_2, Z8_f0, Z8_f1, Z8_f2⟩ := Dbx.cells Z8
  obtain ⟨Z9_0, Z9_1, Z9_2, Z9_f0, Z9_f1, Z9_f2⟩ := Dbx.cells Z9
  go_wp2_with fail
  have p24 := (show Calls Tryz.prog 53 #[.int .i64 (-2000)] w23 (DyP (pw (-2000)) w23) from lhalf_any (-2000) w23)
  with_reducible refine p24.mono ?_
  rintro e w24 ⟨bC, lC, AC, cC, xC, rfl, dC, mC, hb⟩
  clear p24
  clear Z8_0 Z8_1 Z8_2 Z8_f0 Z8_f1 Z8_f2
  clear Z9_0 Z9_1 Z9_2 Z9_f0 Z9_f1 Z9_f2
  have hs24 := hb.size
  try simp only [World.size_alloc] at hs24
  replace bw : Below w.heap.size w w24 := dy_end (by go_grown) hb
  replace mz := Lv.on mz hb
  replace mY := Lv.on mY hb
  replace mA := Lv.on mA hb
  replace mB := Lv.on mB hb
  replace Z8 := Blk.on Z8 hb
  replace Z9 := Blk.on Z9 hb
  replace hT := hT.onD hb
  replace hP := hP.on hb
  clear hb
  obtain ⟨Z8_0, Z8_1, Z8_2, Z8_f0, Z8_f1, Z8_f2⟩ := Dbx.cells Z8
  obtain ⟨Z9_0, Z9_1, Z9_2, Z9_f0, Z9_f1, Z9_f2⟩ := Dbx.cells Z9
  go_wp2_with fail
  replace mz := Lv.alloc mz (.cells #[.bool bA, .slice AA lA.length cA, .int .i64 xA, .bool bB, .slice AB lB.length cB, .int .i64 xB, .bool bC, .slice AC lC.length cC, .int .i64 xC] 24)
  replace mY := Lv.alloc mY (.cells #[.bool bA, .slice AA lA.length cA, .int .i64 xA, .bool bB, .slice AB lB.length cB, .int .i64 xB, .bool bC, .slice AC lC.length cC, .int .i64 xC] 24)
  replace mA := Lv.alloc mA (.cells #[.bool bA, .slice AA lA.length cA, .int .i64 xA, .bool bB, .slice AB lB.length cB, .int .i64 xB, .bool bC, .slice AC lC.length cC, .int .i64 xC] 24)
  replace mB := Lv.alloc mB (.cells #[.bool bA, .slice AA lA.length cA, .int .i64 xA, .bool bB, .slice AB lB.length cB, .int .i64 xB, .bool bC, .slice AC lC.length cC, .int .i64 xC] 24)
  replace mC := Lv.alloc mC (.cells #[.bool bA, .slice AA lA.length cA, .int .i64 xA, .bool bB, .slice AB lB.length cB, .int .i64 xB, .bool bC, .slice AC lC.length cC, .int .i64 xC] 24)
  clear Z8_0 Z8_1 Z8_2 Z8_f0 Z8_f1 Z8_f2
  replace Z8 := Blk.alloc Z8 (.cells #[.bool bA, .slice AA lA.length cA, .int .i64 xA, .bool bB, .slice AB lB.length cB, .int .i64 xB, .bool bC, .slice AC lC.length cC, .int .i64 xC] 24)
  clear Z9_0 Z9_1 Z9_2 Z9_f0 Z9_f1 Z9_f2
  replace Z9 := Blk.alloc Z9 (.cells #[.bool bA, .slice AA lA.length cA, .int .i64 xA, .bool bB, .slice AB lB.length cB, .int .i64 xB, .bool bC, .slice AC lC.length cC, .int .i64 xC] 24)
  replace hT := hT.alD (.cells #[.bool bA, .slice AA lA.length cA, .int .i64 xA, .bool bB, .slice AB lB.length cB, .int .i64 xB, .bool bC, .slice AC lC.length cC, .int .i64 xC] 24)
  replace hP := hP.on ((Below.refl _ _).alloc (Nat.le_refl _) (.cells #[.bool bA, .slice AA lA.length cA, .int .i64 xA, .bool bB, .slice AB lB.length cB, .int .i64 xB, .bool bC, .slice AC lC.length cC, .int .i64 xC] 24))
  replace bw : Below w.heap.size w (w24.alloc (.cells #[.bool bA, .slice AA lA.length cA, .int .i64 xA, .bool bB, .slice AB lB.length cB, .int .i64 xB, .bool bC, .slice AC lC.length cC, .int .i64 xC] 24)) := by go_grown
  have NB := Blk.new w24 [.bool bA, .slice AA lA.length cA, .int .i64 xA, .bool bB, .slice AB lB.length cB, .int .i64 xB, .bool bC, .slice AC lC.length cC, .int .i64 xC] 24
  obtain ⟨Z8_0, Z8_1, Z8_2, Z8_f0, Z8_f1, Z8_f2⟩ := Dbx.cells Z8
  obtain ⟨Z9_0, Z9_1, Z9_2, Z9_f0, Z9_f1, Z9_f2⟩ := Dbx.cells Z9
  have NB_0 := Blk.cell NB 0 rfl
  have NB_1 := Blk.cell NB 1 rfl
  have NB_2 := Blk.cell NB 2 rfl
  have NB_3 := Blk.cell NB 3 rfl
  have NB_4 := Blk.cell NB 4 rfl
  have NB_5 := Blk.cell NB 5 rfl
  have NB_6 := Blk.cell NB 6 rfl
  have NB_7 := Blk.cell NB 7 rfl
  have NB_8 := Blk.cell NB 8 rfl
  have NB_f0 := Blk.free NB 0
  have NB_f1 := Blk.free NB 1
  have NB_f2 := Blk.free NB 2
  have NB_f3 := Blk.free NB 3
  have NB_f4 := Blk.free NB 4
  have NB_f5 := Blk.free NB 5
  have NB_f6 := Blk.free NB 6
  have NB_f7 := Blk.free NB 7
  have NB_f8 := Blk.free NB 8
  go_wp2_with fail
  have p25 := bSum3 NB dA mA dB mB dC mC hT
  with_reducible refine p25.mono ?_
  rintro e w25 ⟨bT, lT, AT, cT, xT, rfl, dT, mT, hb⟩
  clear p25
  clear Z8_0 Z8_1 Z8_2 Z8_f0 Z8_f1 Z8_f2
  clear Z9_0 Z9_1 Z9_2 Z9_f0 Z9_f1 Z9_f2
  clear NB_0 NB_1 NB_2 NB_3 NB_4 NB_5 NB_6 NB_7 NB_8 NB_f0 NB_f1 NB_f2 NB_f3 NB_f4 NB_f5 NB_f6 NB_f7 NB_f8
  have hs25 := hb.size
  try simp only [World.size_alloc] at hs25
  replace bw : Below w.heap.size w w25 := dy_end (by go_grown) hb
  replace mz := Lv.on mz hb
  replace mY := Lv.on mY hb
  replace mA := Lv.on mA hb
  replace mB := Lv.on mB hb
  replace mC := Lv.on mC hb
  replace Z8 := Blk.on Z8 hb
  replace Z9 := Blk.on Z9 hb
  replace NB := Blk.on NB hb
  replace hT := hT.onD hb
  replace hP := hP.on hb
  clear hb
  obtain ⟨Z8_0, Z8_1, Z8_2, Z8_f0, Z8_f1, Z8_f2⟩ := Dbx.cells Z8
  obtain ⟨Z9_0, Z9_1, Z9_2, Z9_f0, Z9_f1, Z9_f2⟩ := Dbx.cells Z9
  have NB_0 := Blk.cell NB 0 rfl
  have NB_1 := Blk.cell NB 1 rfl
  have NB_2 := Blk.cell NB 2 rfl
  have NB_3 := Blk.cell NB 3 rfl
  have NB_4 := Blk.cell NB 4 rfl
  have NB_5 := Blk.cell NB 5 rfl
  have NB_6 := Blk.cell NB 6 rfl
  have NB_7 := Blk.cell NB 7 rfl
  have NB_8 := Blk.cell NB 8 rfl
  have NB_f0 := Blk.free NB 0
  have NB_f1 := Blk.free NB 1
  have NB_f2 := Blk.free NB 2
  have NB_f3 := Blk.free NB 3
  have NB_f4 := Blk.free NB 4
  have NB_f5 := Blk.free NB 5
  have NB_f6 := Blk.free NB 6
  have NB_f7 := Blk.free NB 7
  have NB_f8 := Blk.free NB 8
  clear NB_0 NB_1 NB_2 NB_3 NB_4 NB_5 NB_6 NB_7 NB_8 NB_f0 NB_f1 NB_f2 NB_f3 NB_f4 NB_f5 NB_f6 NB_f7 NB_f8
  clear NB
  clear mA dA
  clear mB dB
  clear mC dC
  replace mz := Lv.alloc mz (.cells #[.bool bT, .slice AT lT.length cT, .int .i64 xT] 24)
  replace mY := Lv.alloc mY (.cells #[.bool bT, .slice AT lT.length cT, .int .i64 xT] 24)
  replace mT := Lv.alloc mT (.cells #[.bool bT, .slice AT lT.length cT, .int .i64 xT] 24)
  clear Z8_0 Z8_1 Z8_2 Z8_f0 Z8_f1 Z8_f2
  replace Z8 := Blk.alloc Z8 (.cells #[.bool bT, .slice AT lT.length cT, .int .i64 xT] 24)
  clear Z9_0 Z9_1 Z9_2 Z9_f0 Z9_f1 Z9_f2
  replace Z9 := Blk.alloc Z9 (.cells #[.bool bT, .slice AT lT.length cT, .int .i64 xT] 24)
  replace hT := hT.alD (.cells #[.bool bT, .slice AT lT.length cT, .int .i64 xT] 24)
  replace hP := hP.on ((Below.refl _ _).alloc (Nat.le_refl _) (.cells #[.bool bT, .slice AT lT.length cT, .int .i64 xT] 24))
  replace bw : Below w.heap.size w (w25.alloc (.cells #[.bool bT, .slice AT lT.length cT, .int .i64 xT] 24)) := by go_grown
  have Z10 := Blk.new w25 [.bool bT, .slice AT lT.length cT, .int .i64 xT] 24
  obtain ⟨Z8_0, Z8_1, Z8_2, Z8_f0, Z8_f1, Z8_f2⟩ := Dbx.cells Z8
  obtain ⟨Z9_0, Z9_1, Z9_2, Z9_f0, Z9_f1, Z9_f2⟩ := Dbx.cells Z9
  obtain ⟨Z10_0, Z10_1, Z10_2, Z10_f0, Z10_f1, Z10_f2⟩ := Dbx.cells Z10
  go_wp2_with fail
  have p26 := (show Calls Tryz.prog 51 #[.float .f64 4845873199050653696] (w25.alloc (.cells #[.bool bT, .slice AT lT.length cT, .int .i64 xT] 24)) (DyP (pw 53) (w25.alloc (.cells #[.bool bT, .slice AT lT.length cT, .int .i64 xT] 24))) from of_53 ▸ lof_yes 4845873199050653696 (by decide) (by decide) hT)
  with_reducible refine p26.mono ?_
  rintro e w26 ⟨bD, lD, AD, cD, xD, rfl, dD, mD, hb⟩
  clear p26
  clear Z8_0 Z8_1 Z8_2 Z8_f0 Z8_f1 Z8_f2
  clear Z9_0 Z9_1 Z9_2 Z9_f0 Z9_f1 Z9_f2
  clear Z10_0 Z10_1 Z10_2 Z10_f0 Z10_f1 Z10_f2
  have hs26 := hb.size
  try simp only [World.size_alloc] at hs26
  replace bw : Below w.heap.size w w26 := dy_end (by go_grown) hb
  replace mz := Lv.on mz hb
  replace mY := Lv.on mY hb
  replace mT := Lv.on mT hb
  replace Z8 := Blk.on Z8 hb
  replace Z9 := Blk.on Z9 hb
  replace Z10 := Blk.on Z10 hb
  replace hT := hT.onD hb
  replace hP := hP.on hb
  clear hb
  obtain ⟨Z8_0, Z8_1, Z8_2, Z8_f0, Z8_f1, Z8_f2⟩ := Dbx.cells Z8
  obtain ⟨Z9_0, Z9_1, Z9_2, Z9_f0, Z9_f1, Z9_f2⟩ := Dbx.cells Z9
  obtain ⟨Z10_0, Z10_1, Z10_2, Z10_f0, Z10_f1, Z10_f2⟩ := Dbx.cells Z10
  go_wp2_with fail
  have p27 := (show Calls Tryz.prog 53 #[.int .i64 (0)] w26 (DyP (pw (0)) w26) from lhalf_any (0) w26)
  with_reducible refine p27.mono ?_
  rintro e w27 ⟨bE, lE, AE, cE, xE, rfl, dE, mE, hb⟩
  clear p27
  clear Z8_0 Z8_1 Z8_2 Z8_f0 Z8_f1 Z8_f2
  clear Z9_0 Z9_1 Z9_2 Z9_f0 Z9_f1 Z9_f2
  clear Z10_0 Z10_1 Z10_2 Z10_f0 Z10_f1 Z10_f2
  have hs27 := hb.size
  try simp only [World.size_alloc] at hs27
  replace bw : Below w.heap.size w w27 := dy_end (by go_grown) hb
  replace mz := Lv.on mz hb
  replace mY := Lv.on mY hb
  replace mT := Lv.on mT hb
  replace mD := Lv.on mD hb
  replace Z8 := Blk.on Z8 hb
  replace Z9 := Blk.on Z9 hb
  replace Z10 := Blk.on Z10 hb
  replace hT := hT.onD hb
  replace hP := hP.on hb
  clear hb
  obtain ⟨Z8_0, Z8_1, Z8_2, Z8_f0, Z8_f1, Z8_f2⟩ := Dbx.cells Z8
  obtain ⟨Z9_0, Z9_1, Z9_2, Z9_f0, Z9_f1, Z9_f2⟩ := Dbx.cells Z9
  obtain ⟨Z10_0, Z10_1, Z10_2, Z10_f0, Z10_f1, Z10_f2⟩ := Dbx.cells Z10
  go_wp2_with fail
  replace mz := Lv.alloc mz (.cells #[.bool bD, .slice AD lD.length cD, .int .i64 xD, .bool bE, .slice AE lE.length cE, .int .i64 xE] 24)
  replace mY := Lv.alloc mY (.cells #[.bool bD, .slice AD lD.length cD, .int .i64 xD, .bool bE, .slice AE lE.length cE, .int .i64 xE] 24)
  replace mT := Lv.alloc mT (.cells #[.bool bD, .slice AD lD.length cD, .int .i64 xD, .bool bE, .slice AE lE.length cE, .int .i64 xE] 24)
  replace mD := Lv.alloc mD (.cells #[.bool bD, .slice AD lD.length cD, .int .i64 xD, .bool bE, .slice AE lE.length cE, .int .i64 xE] 24)
  replace mE := Lv.alloc mE (.cells #[.bool bD, .slice AD lD.length cD, .int .i64 xD, .bool bE, .slice AE lE.length cE, .int .i64 xE] 24)
  clear Z8_0 Z8_1 Z8_2 Z8_f0 Z8_f1 Z8_f2
  replace Z8 := Blk.alloc Z8 (.cells #[.bool bD, .slice AD lD.length cD, .int .i64 xD, .bool bE, .slice AE lE.length cE, .int .i64 xE] 24)
  clear Z9_0 Z9_1 Z9_2 Z9_f0 Z9_f1 Z9_f2
  replace Z9 := Blk.alloc Z9 (.cells #[.bool bD, .slice AD lD.length cD, .int .i64 xD, .bool bE, .slice AE lE.length cE, .int .i64 xE] 24)
  clear Z10_0 Z10_1 Z10_2 Z10_f0 Z10_f1 Z10_f2
  replace Z10 := Blk.alloc Z10 (.cells #[.bool bD, .slice AD lD.length cD, .int .i64 xD, .bool bE, .slice AE lE.length cE, .int .i64 xE] 24)
  replace hT := hT.alD (.cells #[.bool bD, .slice AD lD.length cD, .int .i64 xD, .bool bE, .slice AE lE.length cE, .int .i64 xE] 24)
  replace hP := hP.on ((Below.refl _ _).alloc (Nat.le_refl _) (.cells #[.bool bD, .slice AD lD.length cD, .int .i64 xD, .bool bE, .slice AE lE.length cE, .int .i64 xE] 24))
  replace bw : Below w.heap.size w (w27.alloc (.cells #[.bool bD, .slice AD lD.length cD, .int .i64 xD, .bool bE, .slice AE lE.length cE, .int .i64 xE] 24)) := by go_grown
  have NB := Blk.new w27 [.bool bD, .slice AD lD.length cD, .int .i64 xD, .bool bE, .slice AE lE.length cE, .int .i64 xE] 24
  obtain ⟨Z8_0, Z8_1, Z8_2, Z8_f0, Z8_f1, Z8_f2⟩ := Dbx.cells Z8
  obtain ⟨Z9_0, Z9_1, Z9_2, Z9_f0, Z9_f1, Z9_f2⟩ := Dbx.cells Z9
  obtain ⟨Z10_0, Z10_1, Z10_2, Z10_f0, Z10_f1, Z10_f2⟩ := Dbx.cells Z10
  have NB_0 := Blk.cell NB 0 rfl
  have NB_1 := Blk.cell NB 1 rfl
  have NB_2 := Blk.cell NB 2 rfl
  have NB_3 := Blk.cell NB 3 rfl
  have NB_4 := Blk.cell NB 4 rfl
  have NB_5 := Blk.cell NB 5 rfl
  have NB_f0 := Blk.free NB 0
  have NB_f1 := Blk.free NB 1
  have NB_f2 := Blk.free NB 2
  have NB_f3 := Blk.free NB 3
  have NB_f4 := Blk.free NB 4
  have NB_f5 := Blk.free NB 5
  go_wp2_with fail
  have p28 := bSum2 NB dD mD dE mE hT
  with_reducible refine p28.mono ?_
  rintro e w28 ⟨bU, lU, AU, cU, xU, rfl, dU, mU, hb⟩
  clear p28
  clear Z8_0 Z8_1 Z8_2 Z8_f0 Z8_f1 Z8_f2
  clear Z9_0 Z9_1 Z9_2 Z9_f0 Z9_f1 Z9_f2
  clear Z10_0 Z10_1 Z10_2 Z10_f0 Z10_f1 Z10_f2
  clear NB_0 NB_1 NB_2 NB_3 NB_4 NB_5 NB_f0 NB_f1 NB_f2 NB_f3 NB_f4 NB_f5
  have hs28 := hb.size
  try simp only [World.size_alloc] at hs28
  replace bw : Below w.heap.size w w28 := dy_end (by go_grown) hb
  replace mz := Lv.on mz hb
  replace mY := Lv.on mY hb
  replace mT := Lv.on mT hb
  replace mD := Lv.on mD hb
  replace mE := Lv.on mE hb
  replace Z8 := Blk.on Z8 hb
  replace Z9 := Blk.on Z9 hb
  replace Z10 := Blk.on Z10 hb
  replace NB := Blk.on NB hb
  replace hT := hT.onD hb
  replace hP := hP.on hb
  clear hb
  obtain ⟨Z8_0, Z8_1, Z8_2, Z8_f0, Z8_f1, Z8_f2⟩ := Dbx.cells Z8
  obtain ⟨Z9_0, Z9_1, Z9_2, Z9_f0, Z9_f1, Z9_f2⟩ := Dbx.cells Z9
  obtain ⟨Z10_0, Z10_1, Z10_2, Z10_f0, Z10_f1, Z10_f2⟩ := Dbx.cells Z10
  have NB_0 := Blk.cell NB 0 rfl
  have NB_1 := Blk.cell NB 1 rfl
  have NB_2 := Blk.cell NB 2 rfl
  have NB_3 := Blk.cell NB 3 rfl
  have NB_4 := Blk.cell NB 4 rfl
  have NB_5 := Blk.cell NB 5 rfl
  have NB_f0 := Blk.free NB 0
  have NB_f1 := Blk.free NB 1
  have NB_f2 := Blk.free NB 2
  have NB_f3 := Blk.free NB 3
  have NB_f4 := Blk.free NB 4
  have NB_f5 := Blk.free NB 5
  clear NB_0 NB_1 NB_2 NB_3 NB_4 NB_5 NB_f0 NB_f1 NB_f2 NB_f3 NB_f4 NB_f5
  clear NB
  clear mD dD
  clear mE dE
  replace mz := Lv.alloc mz (.cells #[.bool bU, .slice AU lU.length cU, .int .i64 xU] 24)
  replace mY := Lv.alloc mY (.cells #[.bool bU, .slice AU lU.length cU, .int .i64 xU] 24)
  replace mT := Lv.alloc mT (.cells #[.bool bU, .slice AU lU.length cU, .int .i64 xU] 24)
  replace mU := Lv.alloc mU (.cells #[.bool bU, .slice AU lU.length cU, .int .i64 xU] 24)
  clear Z8_0 Z8_1 Z8_2 Z8_f0 Z8_f1 Z8_f2
  replace Z8 := Blk.alloc Z8 (.cells #[.bool bU, .slice AU lU.length cU, .int .i64 xU] 24)
  clear Z9_0 Z9_1 Z9_2 Z9_f0 Z9_f1 Z9_f2
  replace Z9 := Blk.alloc Z9 (.cells #[.bool bU, .slice AU lU.length cU, .int .i64 xU] 24)
  clear Z10_0 Z10_1 Z10_2 Z10_f0 Z10_f1 Z10_f2
  replace Z10 := Blk.alloc Z10 (.cells #[.bool bU, .slice AU lU.length cU, .int .i64 xU] 24)
  replace hT := hT.alD (.cells #[.bool bU, .slice AU lU.length cU, .int .i64 xU] 24)
  replace hP := hP.on ((Below.refl _ _).alloc (Nat.le_refl _) (.cells #[.bool bU, .slice AU lU.length cU, .int .i64 xU] 24))
  replace bw : Below w.heap.size w (w28.alloc (.cells #[.bool bU, .slice AU lU.length cU, .int .i64 xU] 24)) := by go_grown
  have Z11 := Blk.new w28 [.bool bU, .slice AU lU.length cU, .int .i64 xU] 24
  obtain ⟨Z8_0, Z8_1, Z8_2, Z8_f0, Z8_f1, Z8_f2⟩ := Dbx.cells Z8
  obtain ⟨Z9_0, Z9_1, Z9_2, Z9_f0, Z9_f1, Z9_f2⟩ := Dbx.cells Z9
  obtain ⟨Z10_0, Z10_1, Z10_2, Z10_f0, Z10_f1, Z10_f2⟩ := Dbx.cells Z10
  obtain ⟨Z11_0, Z11_1, Z11_2, Z11_f0, Z11_f1, Z11_f2⟩ := Dbx.cells Z11
  go_wp2_with fail
  have mF := row_two (w28.alloc (.cells #[.bool bU, .slice AU lU.length cU, .int .i64 xU] 24))
  simp only [World.size_alloc] at mF
  replace mz := Lv.alloc mz (.cells #[.int .u64 0, .int .u64 0] 35)
  replace mY := Lv.alloc mY (.cells #[.int .u64 0, .int .u64 0] 35)
  replace mT := Lv.alloc mT (.cells #[.int .u64 0, .int .u64 0] 35)
  replace mU := Lv.alloc mU (.cells #[.int .u64 0, .int .u64 0] 35)
  clear Z8_0 Z8_1 Z8_2 Z8_f0 Z8_f1 Z8_f2
  replace Z8 := Blk.alloc Z8 (.cells #[.int .u64 0, .int .u64 0] 35)
  clear Z9_0 Z9_1 Z9_2 Z9_f0 Z9_f1 Z9_f2
  replace Z9 := Blk.alloc Z9 (.cells #[.int .u64 0, .int .u64 0] 35)
  clear Z10_0 Z10_1 Z10_2 Z10_f0 Z10_f1 Z10_f2
  replace Z10 := Blk.alloc Z10 (.cells #[.int .u64 0, .int .u64 0] 35)
  clear Z11_0 Z11_1 Z11_2 Z11_f0 Z11_f1 Z11_f2
  replace Z11 := Blk.alloc Z11 (.cells #[.int .u64 0, .int .u64 0] 35)
  replace hT := hT.alD (.cells #[.int .u64 0, .int .u64 0] 35)
  replace hP := hP.on ((Below.refl _ _).alloc (Nat.le_refl _) (.cells #[.int .u64 0, .int .u64 0] 35))
  replace bw : Below w.heap.size w ((w28.alloc (.cells #[.bool bU, .slice AU lU.length cU, .int .i64 xU] 24)).alloc (.cells #[.int .u64 0, .int .u64 0] 35)) := by go_grown
  obtain ⟨Z8_0, Z8_1, Z8_2, Z8_f0, Z8_f1, Z8_f2⟩ := Dbx.cells Z8
  obtain ⟨Z9_0, Z9_1, Z9_2, Z9_f0, Z9_f1, Z9_f2⟩ := Dbx.cells Z9
  obtain ⟨Z10_0, Z10_1, Z10_2, Z10_f0, Z10_f1, Z10_f2⟩ := Dbx.cells Z10
  obtain ⟨Z11_0, Z11_1, Z11_2, Z11_f0, Z11_f1, Z11_f2⟩ := Dbx.cells Z11
  go_wp2_with fail
  have p29 := (bNorm (b := true) (x := 5) mF (by omega) hT rfl (v := 0) rfl q_n2).mono (fun _ _ => DyK.zero)
  with_reducible refine p29.mono ?_
  rintro e w29 ⟨AV, cV, rfl, mV, hb⟩
  clear p29
  clear Z8_0 Z8_1 Z8_2 Z8_f0 Z8_f1 Z8_f2
  clear Z9_0 Z9_1 Z9_2 Z9_f0 Z9_f1 Z9_f2
  clear Z10_0 Z10_1 Z10_2 Z10_f0 Z10_f1 Z10_f2
  clear Z11_0 Z11_1 Z11_2 Z11_f0 Z11_f1 Z11_f2
  have hs29 := hb.size
  try simp only [World.size_alloc] at hs29
  replace bw : Below w.heap.size w w29 := dy_end (by go_grown) hb
  replace mz := Lv.on mz hb
  replace mY := Lv.on mY hb
  replace mT := Lv.on mT hb
  replace mU := Lv.on mU hb
  replace mF := Lv.on mF hb
  replace Z8 := Blk.on Z8 hb
  replace Z9 := Blk.on Z9 hb
  replace Z10 := Blk.on Z10 hb
  replace Z11 := Blk.on Z11 hb
  replace hT := hT.onD hb
  replace hP := hP.on hb
  clear hb
  obtain ⟨Z8_0, Z8_1, Z8_2, Z8_f0, Z8_f1, Z8_f2⟩ := Dbx.cells Z8
  obtain ⟨Z9_0, Z9_1, Z9_2, Z9_f0, Z9_f1, Z9_f2⟩ := Dbx.cells Z9
  obtain ⟨Z10_0, Z10_1, Z10_2, Z10_f0, Z10_f1, Z10_f2⟩ := Dbx.cells Z10
  obtain ⟨Z11_0, Z11_1, Z11_2, Z11_f0, Z11_f1, Z11_f2⟩ := Dbx.cells Z11
  clear mF
  replace mz := Lv.alloc mz (.cells #[.bool false, .slice AV 0 cV, .int .i64 0] 24)
  replace mY := Lv.alloc mY (.cells #[.bool false, .slice AV 0 cV, .int .i64 0] 24)
  replace mT := Lv.alloc mT (.cells #[.bool false, .slice AV 0 cV, .int .i64 0] 24)
  replace mU := Lv.alloc mU (.cells #[.bool false, .slice AV 0 cV, .int .i64 0] 24)
  replace mV := Lv.alloc mV (.cells #[.bool false, .slice AV 0 cV, .int .i64 0] 24)
  clear Z8_0 Z8_1 Z8_2 Z8_f0 Z8_f1 Z8_f2
  replace Z8 := Blk.alloc Z8 (.cells #[.bool false, .slice AV 0 cV, .int .i64 0] 24)
  clear Z9_0 Z9_1 Z9_2 Z9_f0 Z9_f1 Z9_f2
  replace Z9 := Blk.alloc Z9 (.cells #[.bool false, .slice AV 0 cV, .int .i64 0] 24)
  clear Z10_0 Z10_1 Z10_2 Z10_f0 Z10_f1 Z10_f2
  replace Z10 := Blk.alloc Z10 (.cells #[.bool false, .slice AV 0 cV, .int .i64 0] 24)
  clear Z11_0 Z11_1 Z11_2 Z11_f0 Z11_f1 Z11_f2
  replace Z11 := Blk.alloc Z11 (.cells #[.bool false, .slice AV 0 cV, .int .i64 0] 24)
  replace hT := hT.alD (.cells #[.bool false, .slice AV 0 cV, .int .i64 0] 24)
  replace hP := hP.on ((Below.refl _ _).alloc (Nat.le_refl _) (.cells #[.bool false, .slice AV 0 cV, .int .i64 0] 24))
  replace bw : Below w.heap.size w (w29.alloc (.cells #[.bool false, .slice AV 0 cV, .int .i64 0] 24)) := by go_grown
  have Z12 := Blk.new w29 [.bool false, .slice AV 0 cV, .int .i64 0] 24
  obtain ⟨Z8_0, Z8_1, Z8_2, Z8_f0, Z8_f1, Z8_f2⟩ := Dbx.cells Z8
  obtain ⟨Z9_0, Z9_1, Z9_2, Z9_f0, Z9_f1, Z9_f2⟩ := Dbx.cells Z9
  obtain ⟨Z10_0, Z10_1, Z10_2, Z10_f0, Z10_f1, Z10_f2⟩ := Dbx.cells Z10
  obtain ⟨Z11_0, Z11_1, Z11_2, Z11_f0, Z11_f1, Z11_f2⟩ := Dbx.cells Z11
  obtain ⟨Z12_0, Z12_1, Z12_2, Z12_f0, Z12_f1, Z12_f2⟩ := Dbx.cells Z12
  go_wp2_with fail
  have w00 : IntKind.i64.wrap 0 = 0 := by rfl
  refine wp_region_held_drew (S := fun w9 : World => Below (w29.alloc (.cells #[.bool false, .slice AV 0 cV, .int .i64 0] 24)).heap.size (w29.alloc (.cells #[.bool false, .slice AV 0 cV, .int .i64 0] 24)) w9) (by kernel_rfl) ((Below.refl _ _).drew) (fun hHeld => ?_)
  refine wpAnyH_take (i := 0) (v := ?v0) rfl (by kernel_rfl) (by kernel_rfl) (by kernel_rfl) (fun _ _ _ h => h) (Or.inl ⟨by rfl, ?hy0⟩) (by assumption) ?rest0
  case hy0 => (intro w hSw; clear hSw; go_simp; try with_reducible rfl)
  simp only [Act.put, List.setIfInBounds_toArray, List.set_cons_zero, List.set_cons_succ, List.getElem_toArray, List.getElem_cons_zero, List.getElem_cons_succ]
  refine wpAnyH_ready (rs := [1]) (by kernel_rfl) (by simp) ?_
  refine AllReadyH.cons rfl (fun K hK => ?_) AllReadyH.nil
  go_simp
  with_reducible refine (lnum_any 3 _).mono ?_
  rintro e u1 ⟨rfl, rfl⟩
  refine hK.out _ _ (hHeld) (fun hH => ?_)
  clear hK K hHeld
  have hHeld := hH
  clear hH
  try simp only [Act.put, List.setIfInBounds_toArray, List.set_cons_zero, List.set_cons_succ, List.getElem_toArray, List.getElem_cons_zero, List.getElem_cons_succ]
  refine wpAnyH_take (i := 2) (v := ?v2) rfl (by kernel_rfl) (by kernel_rfl) (by kernel_rfl) (fun _ _ _ h => h) (Or.inl ⟨by rfl, ?hy2⟩) (by assumption) ?rest2
  case hy2 => (intro w hSw; clear hSw; go_simp; try with_reducible rfl)
  simp only [Act.put, List.setIfInBounds_toArray, List.set_cons_zero, List.set_cons_succ, List.getElem_toArray, List.getElem_cons_zero, List.getElem_cons_succ]
  refine wpAnyH_take (i := 3) (v := ?v3) rfl (by kernel_rfl) (by kernel_rfl) (by kernel_rfl) (fun _ _ _ h => h) (Or.inl ⟨by rfl, ?hy3⟩) (by assumption) ?rest3
  case hy3 => (intro w hSw; clear hSw; go_simp; try with_reducible rfl)
  simp only [Act.put, List.setIfInBounds_toArray, List.set_cons_zero, List.set_cons_succ, List.getElem_toArray, List.getElem_cons_zero, List.getElem_cons_succ]
  refine wpAnyH_take (i := 4) (v := ?v4) rfl (by kernel_rfl) (by kernel_rfl) (by kernel_rfl) (fun _ _ _ h => h) (Or.inl ⟨by rfl, ?hy4⟩) (by assumption) ?rest4
  case hy4 => (intro w hSw; clear hSw; go_simp; try with_reducible rfl)
  simp only [Act.put, List.setIfInBounds_toArray, List.set_cons_zero, List.set_cons_succ, List.getElem_toArray, List.getElem_cons_zero, List.getElem_cons_succ]
  refine wpAnyH_ready (rs := [5]) (by kernel_rfl) (by simp) ?_
  refine AllReadyH.cons rfl (fun K hK => ?_) AllReadyH.nil
  go_simp
  with_reducible refine (lnum_any 3 _).mono ?_
  rintro e u5 ⟨rfl, rfl⟩
  refine hK.out _ _ (hHeld) (fun hH => ?_)
  clear hK K hHeld
  have hHeld := hH
  clear hH
  try simp only [Act.put, List.setIfInBounds_toArray, List.set_cons_zero, List.set_cons_succ, List.getElem_toArray, List.getElem_cons_zero, List.getElem_cons_succ]
  refine wpAnyH_take (i := 6) (v := ?v6) rfl (by kernel_rfl) (by kernel_rfl) (by kernel_rfl) (fun _ _ _ h => h) (Or.inl ⟨by rfl, ?hy6⟩) (by assumption) ?rest6
  case hy6 => (intro w hSw; clear hSw; go_simp; try with_reducible rfl)
  simp only [Act.put, List.setIfInBounds_toArray, List.set_cons_zero, List.set_cons_succ, List.getElem_toArray, List.getElem_cons_zero, List.getElem_cons_succ]
  refine wpAnyH_take (i := 7) (v := ?v7) rfl (by kernel_rfl) (by kernel_rfl) (by kernel_rfl) (fun _ _ _ h => h) (Or.inl ⟨by rfl, ?hy7⟩) (by assumption) ?rest7
  case hy7 => (intro w hSw; clear hSw; go_simp; try with_reducible rfl)
  simp only [Act.put, List.setIfInBounds_toArray, List.set_cons_zero, List.set_cons_succ, List.getElem_toArray, List.getElem_cons_zero, List.getElem_cons_succ]
  refine wpAnyH_take (i := 8) (v := ?v8) rfl (by kernel_rfl) (by kernel_rfl) (by kernel_rfl) (fun _ _ _ h => h) (Or.inl ⟨by rfl, ?hy8⟩) (by assumption) ?rest8
  case hy8 => (intro w hSw; clear hSw; go_simp; try with_reducible rfl)
  simp only [Act.put, List.setIfInBounds_toArray, List.set_cons_zero, List.set_cons_succ, List.getElem_toArray, List.getElem_cons_zero, List.getElem_cons_succ]
  refine wpAnyH_take (i := 9) (v := ?v9) rfl (by kernel_rfl) (by kernel_rfl) (by kernel_rfl) (fun _ _ _ h => h) (Or.inl ⟨by rfl, ?hy9⟩) (by assumption) ?rest9
  case hy9 => (intro w hSw; clear hSw; go_simp; try with_reducible rfl)
  simp only [Act.put, List.setIfInBounds_toArray, List.set_cons_zero, List.set_cons_succ, List.getElem_toArray, List.getElem_cons_zero, List.getElem_cons_succ]
  refine wpAnyH_ready (rs := [10]) (by kernel_rfl) (by simp) ?_
  refine AllReadyH.cons rfl (fun K hK => ?_) AllReadyH.nil
  go_simp
  with_reducible refine (lnum_any 3 _).mono ?_
  rintro e u10 ⟨rfl, rfl⟩
  refine hK.out _ _ (hHeld) (fun hH => ?_)
  clear hK K hHeld
  have hHeld := hH
  clear hH
  try simp only [Act.put, List.setIfInBounds_toArray, List.set_cons_zero, List.set_cons_succ, List.getElem_toArray, List.getElem_cons_zero, List.getElem_cons_succ]
  refine wpAnyH_take (i := 11) (v := ?v11) rfl (by kernel_rfl) (by kernel_rfl) (by kernel_rfl) (fun _ _ _ h => h) (Or.inl ⟨by rfl, ?hy11⟩) (by assumption) ?rest11
  case hy11 => (intro w hSw; clear hSw; go_simp; try with_reducible rfl)
  simp only [Act.put, List.setIfInBounds_toArray, List.set_cons_zero, List.set_cons_succ, List.getElem_toArray, List.getElem_cons_zero, List.getElem_cons_succ]
  refine wpAnyH_take (i := 12) (v := ?v12) rfl (by kernel_rfl) (by kernel_rfl) (by kernel_rfl) (fun _ _ _ h => h) (Or.inl ⟨by rfl, ?hy12⟩) (by assumption) ?rest12
  case hy12 => (intro w hSw; clear hSw; go_simp; try with_reducible rfl)
  simp only [Act.put, List.setIfInBounds_toArray, List.set_cons_zero, List.set_cons_succ, List.getElem_toArray, List.getElem_cons_zero, List.getElem_cons_succ]
  refine wpAnyH_take (i := 13) (v := ?v13) rfl (by kernel_rfl) (by kernel_rfl) (by kernel_rfl) (fun _ _ _ h => h) (Or.inl ⟨by rfl, ?hy13⟩) (by assumption) ?rest13
  case hy13 => (intro w hSw; clear hSw; go_simp; try with_reducible rfl)
  simp only [Act.put, List.setIfInBounds_toArray, List.set_cons_zero, List.set_cons_succ, List.getElem_toArray, List.getElem_cons_zero, List.getElem_cons_succ]
  refine wpAnyH_take (i := 14) (v := ?v14) rfl (by kernel_rfl) (by kernel_rfl) (by kernel_rfl) (fun _ _ _ h => h) (Or.inl ⟨by rfl, ?hy14⟩) (by assumption) ?rest14
  case hy14 => (intro w hSw; clear hSw; go_simp; try with_reducible rfl)
  simp only [Act.put, List.setIfInBounds_toArray, List.set_cons_zero, List.set_cons_succ, List.getElem_toArray, List.getElem_cons_zero, List.getElem_cons_succ]
  refine wpAnyH_ready (rs := [15]) (by kernel_rfl) (by simp) ?_
  refine AllReadyH.cons rfl (fun K hK => ?_) AllReadyH.nil
  go_simp
  with_reducible refine (lnum_any 3 _).mono ?_
  rintro e u15 ⟨rfl, rfl⟩
  refine hK.out _ _ (hHeld) (fun hH => ?_)
  clear hK K hHeld
  have hHeld := hH
  clear hH
  try simp only [Act.put, List.setIfInBounds_toArray, List.set_cons_zero, List.set_cons_succ, List.getElem_toArray, List.getElem_cons_zero, List.getElem_cons_succ]
  refine wpAnyH_take (i := 16) (v := ?v16) rfl (by kernel_rfl) (by kernel_rfl) (by kernel_rfl) (fun _ _ _ h => h) (Or.inl ⟨by rfl, ?hy16⟩) (by assumption) ?rest16
  case hy16 => (intro w hSw; clear hSw; go_simp; try with_reducible rfl)
  simp only [Act.put, List.setIfInBounds_toArray, List.set_cons_zero, List.set_cons_succ, List.getElem_toArray, List.getElem_cons_zero, List.getElem_cons_succ]
  refine wpAnyH_take (i := 17) (v := ?v17) rfl (by kernel_rfl) (by kernel_rfl) (by kernel_rfl) (fun _ _ _ h => h) (Or.inl ⟨by rfl, ?hy17⟩) (by assumption) ?rest17
  case hy17 => (intro w hSw; clear hSw; go_simp; try with_reducible rfl)
  simp only [Act.put, List.setIfInBounds_toArray, List.set_cons_zero, List.set_cons_succ, List.getElem_toArray, List.getElem_cons_zero, List.getElem_cons_succ]
  refine wpAnyH_take (i := 18) (v := ?v18) rfl (by kernel_rfl) (by kernel_rfl) (by kernel_rfl) (fun _ _ _ h => h) (Or.inl ⟨by rfl, ?hy18⟩) (by assumption) ?rest18
  case hy18 => (intro w hSw; clear hSw; go_simp; try with_reducible rfl)
  simp only [Act.put, List.setIfInBounds_toArray, List.set_cons_zero, List.set_cons_succ, List.getElem_toArray, List.getElem_cons_zero, List.getElem_cons_succ]
  refine wpAnyH_take (i := 19) (v := ?v19) rfl (by kernel_rfl) (by kernel_rfl) (by kernel_rfl) (fun _ _ _ h => h) (Or.inl ⟨by rfl, ?hy19⟩) (by assumption) ?rest19
  case hy19 => (intro w hSw; clear hSw; go_simp; try with_reducible rfl)
  simp only [Act.put, List.setIfInBounds_toArray, List.set_cons_zero, List.set_cons_succ, List.getElem_toArray, List.getElem_cons_zero, List.getElem_cons_succ]
  refine wpAnyH_ready (rs := [20]) (by kernel_rfl) (by simp) ?_
  refine AllReadyH.cons rfl (fun K hK => ?_) AllReadyH.nil
  go_simp
  with_reducible refine (lnum_any 3 _).mono ?_
  rintro e u20 ⟨rfl, rfl⟩
  refine hK.out _ _ (hHeld) (fun hH => ?_)
  clear hK K hHeld
  have hHeld := hH
  clear hH
  try simp only [Act.put, List.setIfInBounds_toArray, List.set_cons_zero, List.set_cons_succ, List.getElem_toArray, List.getElem_cons_zero, List.getElem_cons_succ]
  refine wpAnyH_take (i := 21) (v := ?v21) rfl (by kernel_rfl) (by kernel_rfl) (by kernel_rfl) (fun _ _ _ h => h) (Or.inl ⟨by rfl, ?hy21⟩) (by assumption) ?rest21
  case hy21 => (intro w hSw; clear hSw; go_simp; try with_reducible rfl)
  simp only [Act.put, List.setIfInBounds_toArray, List.set_cons_zero, List.set_cons_succ, List.getElem_toArray, List.getElem_cons_zero, List.getElem_cons_succ]
  refine wpAnyH_take (i := 22) (v := ?v22) rfl (by kernel_rfl) (by kernel_rfl) (by kernel_rfl) (fun _ _ _ h => h) (Or.inl ⟨by rfl, ?hy22⟩) (by assumption) ?rest22
  case hy22 => (intro w hSw; clear hSw; go_simp; try with_reducible rfl)
  simp only [Act.put, List.setIfInBounds_toArray, List.set_cons_zero, List.set_cons_succ, List.getElem_toArray, List.getElem_cons_zero, List.getElem_cons_succ]
  refine wpAnyH_take (i := 23) (v := ?v23) rfl (by kernel_rfl) (by kernel_rfl) (by kernel_rfl) (fun _ _ _ h => h) (Or.inl ⟨by rfl, ?hy23⟩) (by assumption) ?rest23
  case hy23 => (intro w hSw; clear hSw; go_simp; try with_reducible rfl)
  simp only [Act.put, List.setIfInBounds_toArray, List.set_cons_zero, List.set_cons_succ, List.getElem_toArray, List.getElem_cons_zero, List.getElem_cons_succ]
  refine wpAnyH_take (i := 24) (v := ?v24) rfl (by kernel_rfl) (by kernel_rfl) (by kernel_rfl) (fun _ _ _ h => h) (Or.inl ⟨by rfl, ?hy24⟩) (by assumption) ?rest24
  case hy24 => (intro w hSw; clear hSw; go_simp; try with_reducible rfl)
  simp only [Act.put, List.setIfInBounds_toArray, List.set_cons_zero, List.set_cons_succ, List.getElem_toArray, List.getElem_cons_zero, List.getElem_cons_succ]
  refine wpAnyH_ready (rs := [25]) (by kernel_rfl) (by simp) ?_
  refine AllReadyH.cons rfl (fun K hK => ?_) AllReadyH.nil
  go_simp
  with_reducible refine (lnum_any 3 _).mono ?_
  rintro e u25 ⟨rfl, rfl⟩
  refine hK.out _ _ (hHeld) (fun hH => ?_)
  clear hK K hHeld
  have hHeld := hH
  clear hH
  try simp only [Act.put, List.setIfInBounds_toArray, List.set_cons_zero, List.set_cons_succ, List.getElem_toArray, List.getElem_cons_zero, List.getElem_cons_succ]
  refine wpAnyH_take (i := 26) (v := ?v26) rfl (by kernel_rfl) (by kernel_rfl) (by kernel_rfl) (fun _ _ _ h => h) (Or.inl ⟨by rfl, ?hy26⟩) (by assumption) ?rest26
  case hy26 => (intro w hSw; clear hSw; go_simp; try with_reducible rfl)
  simp only [Act.put, List.setIfInBounds_toArray, List.set_cons_zero, List.set_cons_succ, List.getElem_toArray, List.getElem_cons_zero, List.getElem_cons_succ]
  refine wpAnyH_take (i := 27) (v := ?v27) rfl (by kernel_rfl) (by kernel_rfl) (by kernel_rfl) (fun _ _ _ h => h) (Or.inl ⟨by rfl, ?hy27⟩) (by assumption) ?rest27
  case hy27 => (intro w hSw; clear hSw; go_simp; try with_reducible rfl)
  simp only [Act.put, List.setIfInBounds_toArray, List.set_cons_zero, List.set_cons_succ, List.getElem_toArray, List.getElem_cons_zero, List.getElem_cons_succ]
  refine wpAnyH_take (i := 28) (v := ?v28) rfl (by kernel_rfl) (by kernel_rfl) (by kernel_rfl) (fun _ _ _ h => h) (Or.inl ⟨by rfl, ?hy28⟩) (by assumption) ?rest28
  case hy28 => (intro w hSw; clear hSw; go_simp; try with_reducible rfl)
  simp only [Act.put, List.setIfInBounds_toArray, List.set_cons_zero, List.set_cons_succ, List.getElem_toArray, List.getElem_cons_zero, List.getElem_cons_succ]
  refine wpAnyH_take (i := 29) (v := ?v29) rfl (by kernel_rfl) (by kernel_rfl) (by kernel_rfl) (fun _ _ _ h => h) (Or.inl ⟨by rfl, ?hy29⟩) (by assumption) ?rest29
  case hy29 => (intro w hSw; clear hSw; go_simp; try with_reducible rfl)
  simp only [Act.put, List.setIfInBounds_toArray, List.set_cons_zero, List.set_cons_succ, List.getElem_toArray, List.getElem_cons_zero, List.getElem_cons_succ]
  refine wpAnyH_ready (rs := [30]) (by kernel_rfl) (by simp) ?_
  refine AllReadyH.cons rfl (fun K hK => ?_) AllReadyH.nil
  go_simp
  with_reducible refine (lnum_any 3 _).mono ?_
  rintro e u30 ⟨rfl, rfl⟩
  refine hK.out _ _ (hHeld) (fun hH => ?_)
  clear hK K hHeld
  have hHeld := hH
  clear hH
  try simp only [Act.put, List.setIfInBounds_toArray, List.set_cons_zero, List.set_cons_succ, List.getElem_toArray, List.getElem_cons_zero, List.getElem_cons_succ]
  refine wpAnyH_take (i := 31) (v := ?v31) rfl (by kernel_rfl) (by kernel_rfl) (by kernel_rfl) (fun _ _ _ h => h) (Or.inl ⟨by rfl, ?hy31⟩) (by assumption) ?rest31
  case hy31 => (intro w hSw; clear hSw; go_simp; try with_reducible rfl)
  simp only [Act.put, List.setIfInBounds_toArray, List.set_cons_zero, List.set_cons_succ, List.getElem_toArray, List.getElem_cons_zero, List.getElem_cons_succ]
  refine wpAnyH_take (i := 32) (v := ?v32) rfl (by kernel_rfl) (by kernel_rfl) (by kernel_rfl) (fun _ _ _ h => h) (Or.inl ⟨by rfl, ?hy32⟩) (by assumption) ?rest32
  case hy32 => (intro w hSw; clear hSw; go_simp; try with_reducible rfl)
  simp only [Act.put, List.setIfInBounds_toArray, List.set_cons_zero, List.set_cons_succ, List.getElem_toArray, List.getElem_cons_zero, List.getElem_cons_succ]
  refine wpAnyH_take (i := 33) (v := ?v33) rfl (by kernel_rfl) (by kernel_rfl) (by kernel_rfl) (fun _ _ _ h => h) (Or.inl ⟨by rfl, ?hy33⟩) (by assumption) ?rest33
  case hy33 => (intro w hSw; clear hSw; go_simp; try with_reducible rfl)
  simp only [Act.put, List.setIfInBounds_toArray, List.set_cons_zero, List.set_cons_succ, List.getElem_toArray, List.getElem_cons_zero, List.getElem_cons_succ]
  refine wpAnyH_take (i := 34) (v := ?v34) rfl (by kernel_rfl) (by kernel_rfl) (by kernel_rfl) (fun _ _ _ h => h) (Or.inl ⟨by rfl, ?hy34⟩) (by assumption) ?rest34
  case hy34 => (intro w hSw; clear hSw; go_simp; try with_reducible rfl)
  simp only [Act.put, List.setIfInBounds_toArray, List.set_cons_zero, List.set_cons_succ, List.getElem_toArray, List.getElem_cons_zero, List.getElem_cons_succ]
  refine wpAnyH_ready (rs := [35]) (by kernel_rfl) (by simp) ?_
  refine AllReadyH.cons rfl (fun K hK => ?_) AllReadyH.nil
  go_simp
  with_reducible refine (lnum_any 2 _).mono ?_
  rintro e u35 ⟨rfl, rfl⟩
  refine hK.out _ _ (hHeld) (fun hH => ?_)
  clear hK K hHeld
  have hHeld := hH
  clear hH
  try simp only [Act.put, List.setIfInBounds_toArray, List.set_cons_zero, List.set_cons_succ, List.getElem_toArray, List.getElem_cons_zero, List.getElem_cons_succ]
  refine wpAnyH_take (i := 36) (v := ?v36) rfl (by kernel_rfl) (by kernel_rfl) (by kernel_rfl) (fun _ _ _ h => h) (Or.inl ⟨by rfl, ?hy36⟩) (by assumption) ?rest36
  case hy36 => (intro w hSw; clear hSw; go_simp; try with_reducible rfl)
  simp only [Act.put, List.setIfInBounds_toArray, List.set_cons_zero, List.set_cons_succ, List.getElem_toArray, List.getElem_cons_zero, List.getElem_cons_succ]
  refine wpAnyH_take (i := 37) (v := ?v37) rfl (by kernel_rfl) (by kernel_rfl) (by kernel_rfl) (fun _ _ _ h => h) (Or.inl ⟨by rfl, ?hy37⟩) (by assumption) ?rest37
  case hy37 => (intro w hSw; clear hSw; go_simp; try with_reducible rfl)
  simp only [Act.put, List.setIfInBounds_toArray, List.set_cons_zero, List.set_cons_succ, List.getElem_toArray, List.getElem_cons_zero, List.getElem_cons_succ]
  refine wpAnyH_take (i := 38) (v := ?v38) rfl (by kernel_rfl) (by kernel_rfl) (by kernel_rfl) (fun _ _ _ h => h) (Or.inl ⟨by rfl, ?hy38⟩) (by assumption) ?rest38
  case hy38 => (intro w hSw; clear hSw; go_simp; try with_reducible rfl)
  simp only [Act.put, List.setIfInBounds_toArray, List.set_cons_zero, List.set_cons_succ, List.getElem_toArray, List.getElem_cons_zero, List.getElem_cons_succ]
  refine wpAnyH_take (i := 39) (v := ?v39) rfl (by kernel_rfl) (by kernel_rfl) (by kernel_rfl) (fun _ _ _ h => h) (Or.inl ⟨by rfl, ?hy39⟩) (by assumption) ?rest39
  case hy39 => (intro w hSw; have c0 := below_cell Z8_0 hSw; have c1 := below_cell Z8_1 hSw; have c2 := below_cell Z8_2 hSw; clear hSw; go_simp; try with_reducible rfl)
  simp only [Act.put, List.setIfInBounds_toArray, List.set_cons_zero, List.set_cons_succ, List.getElem_toArray, List.getElem_cons_zero, List.getElem_cons_succ]
  refine wpAnyH_take (i := 40) (v := ?v40) rfl (by kernel_rfl) (by kernel_rfl) (by kernel_rfl) (fun _ _ _ h => h) (Or.inl ⟨by rfl, ?hy40⟩) (by assumption) ?rest40
  case hy40 => (intro w hSw; clear hSw; go_simp; try with_reducible rfl)
  simp only [Act.put, List.setIfInBounds_toArray, List.set_cons_zero, List.set_cons_succ, List.getElem_toArray, List.getElem_cons_zero, List.getElem_cons_succ]
  refine wpAnyH_ready (rs := [41]) (by kernel_rfl) (by simp) ?_
  refine AllReadyH.cons rfl (fun K hK => ?_) AllReadyH.nil
  go_simp
  with_reducible refine (rSame_any (b := false) (x := 0) (mz.on hHeld) (lv_nil _)).mono ?_
  rintro e u41 ⟨rfl, hb⟩
  refine hK.out _ _ (dy_end hHeld hb) (fun hH => ?_)
  clear hK K hHeld hb
  have hHeld := hH
  clear hH
  try simp only [Act.put, List.setIfInBounds_toArray, List.set_cons_zero, List.set_cons_succ, List.getElem_toArray, List.getElem_cons_zero, List.getElem_cons_succ]
  refine wpAnyH_take (i := 42) (v := ?v42) rfl (by kernel_rfl) (by kernel_rfl) (by kernel_rfl) (fun _ _ _ h => h) (Or.inl ⟨by rfl, ?hy42⟩) (by assumption) ?rest42
  case hy42 => (intro w hSw; clear hSw; go_simp; try with_reducible rfl)
  simp only [Act.put, List.setIfInBounds_toArray, List.set_cons_zero, List.set_cons_succ, List.getElem_toArray, List.getElem_cons_zero, List.getElem_cons_succ]
  refine wpAnyH_take (i := 43) (v := ?v43) rfl (by kernel_rfl) (by kernel_rfl) (by kernel_rfl) (fun _ _ _ h => h) (Or.inl ⟨by rfl, ?hy43⟩) (by assumption) ?rest43
  case hy43 => (intro w hSw; clear hSw; go_simp; try with_reducible rfl)
  simp only [Act.put, List.setIfInBounds_toArray, List.set_cons_zero, List.set_cons_succ, List.getElem_toArray, List.getElem_cons_zero, List.getElem_cons_succ]
  refine wpAnyH_take (i := 44) (v := ?v44) rfl (by kernel_rfl) (by kernel_rfl) (by kernel_rfl) (fun _ _ _ h => h) (Or.inl ⟨by rfl, ?hy44⟩) (by assumption) ?rest44
  case hy44 => (intro w hSw; have c0 := below_cell Z9_0 hSw; have c1 := below_cell Z9_1 hSw; have c2 := below_cell Z9_2 hSw; clear hSw; go_simp; try with_reducible rfl)
  simp only [Act.put, List.setIfInBounds_toArray, List.set_cons_zero, List.set_cons_succ, List.getElem_toArray, List.getElem_cons_zero, List.getElem_cons_succ]
  refine wpAnyH_take (i := 45) (v := ?v45) rfl (by kernel_rfl) (by kernel_rfl) (by kernel_rfl) (fun _ _ _ h => h) (Or.inl ⟨by rfl, ?hy45⟩) (by assumption) ?rest45
  case hy45 => (intro w hSw; clear hSw; go_simp; try with_reducible rfl)
  simp only [Act.put, List.setIfInBounds_toArray, List.set_cons_zero, List.set_cons_succ, List.getElem_toArray, List.getElem_cons_zero, List.getElem_cons_succ]
  refine wpAnyH_ready (rs := [46]) (by kernel_rfl) (by simp) ?_
  refine AllReadyH.cons rfl (fun K hK => ?_) AllReadyH.nil
  go_simp
  with_reducible refine ((show Calls Tryz.prog 53 #[.int .i64 262144] _ (DyP (pw 262144) _) from lhalf_any 262144 _)).mono ?_
  rintro e u46 ⟨bH, lH, AH, cH, xH, rfl, dH, mH, hb⟩
  refine hK.out _ _ (dy_end hHeld hb) (fun hH => ?_)
  clear hK K hHeld hb
  have hHeld := hH
  clear hH
  try simp only [Act.put, List.setIfInBounds_toArray, List.set_cons_zero, List.set_cons_succ, List.getElem_toArray, List.getElem_cons_zero, List.getElem_cons_succ]
  obtain ⟨z1, z2, z3⟩ := Dn.uniq dY dH mY.lim mH.lim
  subst z1 z2 z3
  refine wpAnyH_ready (rs := [47]) (by kernel_rfl) (by simp) ?_
  refine AllReadyH.cons rfl (fun K hK => ?_) AllReadyH.nil
  go_simp
  with_reducible refine (rSame_any (mY.on hHeld) mH).mono ?_
  rintro e u47 ⟨rfl, hb⟩
  refine hK.out _ _ (dy_end hHeld hb) (fun hH => ?_)
  clear hK K hHeld hb
  have hHeld := hH
  clear hH
  try simp only [Act.put, List.setIfInBounds_toArray, List.set_cons_zero, List.set_cons_succ, List.getElem_toArray, List.getElem_cons_zero, List.getElem_cons_succ]
  refine wpAnyH_take (i := 48) (v := ?v48) rfl (by kernel_rfl) (by kernel_rfl) (by kernel_rfl) (fun _ _ _ h => h) (Or.inl ⟨by rfl, ?hy48⟩) (by assumption) ?rest48
  case hy48 => (intro w hSw; clear hSw; go_simp; try with_reducible rfl)
  simp only [Act.put, List.setIfInBounds_toArray, List.set_cons_zero, List.set_cons_succ, List.getElem_toArray, List.getElem_cons_zero, List.getElem_cons_succ]
  refine wpAnyH_take (i := 49) (v := ?v49) rfl (by kernel_rfl) (by kernel_rfl) (by kernel_rfl) (fun _ _ _ h => h) (Or.inl ⟨by rfl, ?hy49⟩) (by assumption) ?rest49
  case hy49 => (intro w hSw; clear hSw; go_simp; try with_reducible rfl)
  simp only [Act.put, List.setIfInBounds_toArray, List.set_cons_zero, List.set_cons_succ, List.getElem_toArray, List.getElem_cons_zero, List.getElem_cons_succ]
  refine wpAnyH_take (i := 50) (v := ?v50) rfl (by kernel_rfl) (by kernel_rfl) (by kernel_rfl) (fun _ _ _ h => h) (Or.inl ⟨by rfl, ?hy50⟩) (by assumption) ?rest50
  case hy50 => (intro w hSw; clear hSw; go_simp; try with_reducible rfl)
  simp only [Act.put, List.setIfInBounds_toArray, List.set_cons_zero, List.set_cons_succ, List.getElem_toArray, List.getElem_cons_zero, List.getElem_cons_succ]
  refine wpAnyH_take (i := 52) (v := ?v52) rfl (by kernel_rfl) (by kernel_rfl) (by kernel_rfl) (fun _ _ _ h => h) (Or.inl ⟨by rfl, ?hy52⟩) (by assumption) ?rest52
  case hy52 => (intro w hSw; clear hSw; go_simp; try with_reducible rfl)
  simp only [Act.put, List.setIfInBounds_toArray, List.set_cons_zero, List.set_cons_succ, List.getElem_toArray, List.getElem_cons_zero, List.getElem_cons_succ]
  refine wpAnyH_ready (rs := [51]) (by kernel_rfl) (by simp) ?_
  refine AllReadyH.cons rfl (fun K hK => ?_) AllReadyH.nil
  go_simp
  with_reducible refine (lnum_any 0 _).mono ?_
  rintro e u51 ⟨rfl, rfl⟩
  refine hK.out _ _ (hHeld) (fun hH => ?_)
  clear hK K hHeld
  have hHeld := hH
  clear hH
  try simp only [Act.put, List.setIfInBounds_toArray, List.set_cons_zero, List.set_cons_succ, List.getElem_toArray, List.getElem_cons_zero, List.getElem_cons_succ]
  refine wpAnyH_ready (rs := [53]) (by kernel_rfl) (by simp) ?_
  refine AllReadyH.cons rfl (fun K hK => ?_) AllReadyH.nil
  go_simp
  with_reducible refine (lnum_any 0 _).mono ?_
  rintro e u53 ⟨rfl, rfl⟩
  refine hK.out _ _ (hHeld) (fun hH => ?_)
  clear hK K hHeld
  have hHeld := hH
  clear hH
  try simp only [Act.put, List.setIfInBounds_toArray, List.set_cons_zero, List.set_cons_succ, List.getElem_toArray, List.getElem_cons_zero, List.getElem_cons_succ]
  refine wpAnyH_take (i := 54) (v := ?v54) rfl (by kernel_rfl) (by kernel_rfl) (by kernel_rfl) (fun _ _ _ h => h) (Or.inl ⟨by rfl, ?hy54⟩) (by assumption) ?rest54
  case hy54 => (intro w hSw; clear hSw; go_simp; try with_reducible rfl)
  simp only [Act.put, List.setIfInBounds_toArray, List.set_cons_zero, List.set_cons_succ, List.getElem_toArray, List.getElem_cons_zero, List.getElem_cons_succ]
  refine wpAnyH_take (i := 55) (v := ?v55) rfl (by kernel_rfl) (by kernel_rfl) (by kernel_rfl) (fun _ _ _ h => h) (Or.inl ⟨by rfl, ?hy55⟩) (by assumption) ?rest55
  case hy55 => (intro w hSw; clear hSw; go_simp; try with_reducible rfl)
  simp only [Act.put, List.setIfInBounds_toArray, List.set_cons_zero, List.set_cons_succ, List.getElem_toArray, List.getElem_cons_zero, List.getElem_cons_succ]
  refine wpAnyH_take (i := 56) (v := ?v56) rfl (by kernel_rfl) (by kernel_rfl) (by kernel_rfl) (fun _ _ _ h => h) (Or.inl ⟨by rfl, ?hy56⟩) (by assumption) ?rest56
  case hy56 => (intro w hSw; clear hSw; go_simp; try with_reducible rfl)
  simp only [Act.put, List.setIfInBounds_toArray, List.set_cons_zero, List.set_cons_succ, List.getElem_toArray, List.getElem_cons_zero, List.getElem_cons_succ]
  refine wpAnyH_take (i := 57) (v := ?v57) rfl (by kernel_rfl) (by kernel_rfl) (by kernel_rfl) (fun _ _ _ h => h) (Or.inl ⟨by rfl, ?hy57⟩) (by assumption) ?rest57
  case hy57 => (intro w hSw; clear hSw; go_simp; try with_reducible rfl)
  simp only [Act.put, List.setIfInBounds_toArray, List.set_cons_zero, List.set_cons_succ, List.getElem_toArray, List.getElem_cons_zero, List.getElem_cons_succ]
  refine wpAnyH_take (i := 58) (v := ?v58) rfl (by kernel_rfl) (by kernel_rfl) (by kernel_rfl) (fun _ _ _ h => h) (Or.inl ⟨by rfl, ?hy58⟩) (by assumption) ?rest58
  case hy58 => (intro w hSw; have c0 := below_cell Z10_0 hSw; have c1 := below_cell Z10_1 hSw; have c2 := below_cell Z10_2 hSw; clear hSw; go_simp; try with_reducible rfl)
  simp only [Act.put, List.setIfInBounds_toArray, List.set_cons_zero, List.set_cons_succ, List.getElem_toArray, List.getElem_cons_zero, List.getElem_cons_succ]
  refine wpAnyH_take (i := 59) (v := ?v59) rfl (by kernel_rfl) (by kernel_rfl) (by kernel_rfl) (fun _ _ _ h => h) (Or.inl ⟨by rfl, ?hy59⟩) (by assumption) ?rest59
  case hy59 => (intro w hSw; clear hSw; go_simp; try with_reducible rfl)
  simp only [Act.put, List.setIfInBounds_toArray, List.set_cons_zero, List.set_cons_succ, List.getElem_toArray, List.getElem_cons_zero, List.getElem_cons_succ]
  refine wpAnyH_ready (rs := [60]) (by kernel_rfl) (by simp) ?_
  refine AllReadyH.cons rfl (fun K hK => ?_) AllReadyH.nil
  go_simp
  with_reducible refine (lfloat_true dT (mT.on hHeld) (hT.onD hHeld) (okE_dn dT rfl) fw_kT).mono ?_
  rintro e u60 ⟨rfl, hb⟩
  refine hK.out _ _ (dy_end hHeld hb) (fun hH => ?_)
  clear hK K hHeld hb
  have hHeld := hH
  clear hH
  try simp only [Act.put, List.setIfInBounds_toArray, List.set_cons_zero, List.set_cons_succ, List.getElem_toArray, List.getElem_cons_zero, List.getElem_cons_succ]
  refine wpAnyH_take (i := 61) (v := ?v61) rfl (by kernel_rfl) (by kernel_rfl) (by kernel_rfl) (fun _ _ _ h => h) (Or.inl ⟨by rfl, ?hy61⟩) (by assumption) ?rest61
  case hy61 => (intro w hSw; clear hSw; go_simp; try with_reducible rfl)
  simp only [Act.put, List.setIfInBounds_toArray, List.set_cons_zero, List.set_cons_succ, List.getElem_toArray, List.getElem_cons_zero, List.getElem_cons_succ]
  refine wpAnyH_take (i := 62) (v := ?v62) rfl (by kernel_rfl) (by kernel_rfl) (by kernel_rfl) (fun _ _ _ h => h) (Or.inl ⟨by rfl, ?hy62⟩) (by assumption) ?rest62
  case hy62 => (intro w hSw; clear hSw; go_simp; try with_reducible rfl)
  simp only [Act.put, List.setIfInBounds_toArray, List.set_cons_zero, List.set_cons_succ, List.getElem_toArray, List.getElem_cons_zero, List.getElem_cons_succ]
  refine wpAnyH_take (i := 63) (v := ?v63) rfl (by kernel_rfl) (by kernel_rfl) (by kernel_rfl) (fun _ _ _ h => h) (Or.inl ⟨by rfl, ?hy63⟩) (by assumption) ?rest63
  case hy63 => (intro w hSw; have c0 := below_cell Z11_0 hSw; have c1 := below_cell Z11_1 hSw; have c2 := below_cell Z11_2 hSw; clear hSw; go_simp; try with_reducible rfl)
  simp only [Act.put, List.setIfInBounds_toArray, List.set_cons_zero, List.set_cons_succ, List.getElem_toArray, List.getElem_cons_zero, List.getElem_cons_succ]
  refine wpAnyH_take (i := 64) (v := ?v64) rfl (by kernel_rfl) (by kernel_rfl) (by kernel_rfl) (fun _ _ _ h => h) (Or.inl ⟨by rfl, ?hy64⟩) (by assumption) ?rest64
  case hy64 => (intro w hSw; clear hSw; go_simp; try with_reducible rfl)
  simp only [Act.put, List.setIfInBounds_toArray, List.set_cons_zero, List.set_cons_succ, List.getElem_toArray, List.getElem_cons_zero, List.getElem_cons_succ]
  refine wpAnyH_ready (rs := [65]) (by kernel_rfl) (by simp) ?_
  refine AllReadyH.cons rfl (fun K hK => ?_) AllReadyH.nil
  go_simp
  with_reducible refine (lfloat_true dU (mU.on hHeld) (hT.onD hHeld) (okE_dn dU rfl) fw_kU).mono ?_
  rintro e u65 ⟨rfl, hb⟩
  refine hK.out _ _ (dy_end hHeld hb) (fun hH => ?_)
  clear hK K hHeld hb
  have hHeld := hH
  clear hH
  try simp only [Act.put, List.setIfInBounds_toArray, List.set_cons_zero, List.set_cons_succ, List.getElem_toArray, List.getElem_cons_zero, List.getElem_cons_succ]
  refine wpAnyH_take (i := 66) (v := ?v66) rfl (by kernel_rfl) (by kernel_rfl) (by kernel_rfl) (fun _ _ _ h => h) (Or.inl ⟨by rfl, ?hy66⟩) (by assumption) ?rest66
  case hy66 => (intro w hSw; clear hSw; go_simp; try with_reducible rfl)
  simp only [Act.put, List.setIfInBounds_toArray, List.set_cons_zero, List.set_cons_succ, List.getElem_toArray, List.getElem_cons_zero, List.getElem_cons_succ]
  refine wpAnyH_take (i := 67) (v := ?v67) rfl (by kernel_rfl) (by kernel_rfl) (by kernel_rfl) (fun _ _ _ h => h) (Or.inl ⟨by rfl, ?hy67⟩) (by assumption) ?rest67
  case hy67 => (intro w hSw; clear hSw; go_simp; try with_reducible rfl)
  simp only [Act.put, List.setIfInBounds_toArray, List.set_cons_zero, List.set_cons_succ, List.getElem_toArray, List.getElem_cons_zero, List.getElem_cons_succ]
  refine wpAnyH_take (i := 68) (v := ?v68) rfl (by kernel_rfl) (by kernel_rfl) (by kernel_rfl) (fun _ _ _ h => h) (Or.inl ⟨by rfl, ?hy68⟩) (by assumption) ?rest68
  case hy68 => (intro w hSw; have c0 := below_cell Z12_0 hSw; have c1 := below_cell Z12_1 hSw; have c2 := below_cell Z12_2 hSw; clear hSw; go_simp; try with_reducible rfl)
  simp only [Act.put, List.setIfInBounds_toArray, List.set_cons_zero, List.set_cons_succ, List.getElem_toArray, List.getElem_cons_zero, List.getElem_cons_succ]
  refine wpAnyH_take (i := 69) (v := ?v69) rfl (by kernel_rfl) (by kernel_rfl) (by kernel_rfl) (fun _ _ _ h => h) (Or.inl ⟨by rfl, ?hy69⟩) (by assumption) ?rest69
  case hy69 => (intro w hSw; clear hSw; go_simp; try with_reducible rfl)
  simp only [Act.put, List.setIfInBounds_toArray, List.set_cons_zero, List.set_cons_succ, List.getElem_toArray, List.getElem_cons_zero, List.getElem_cons_succ]
  refine wpAnyH_ready (rs := [70]) (by kernel_rfl) (by simp) ?_
  refine AllReadyH.cons rfl (fun K hK => ?_) AllReadyH.nil
  go_simp
  with_reducible refine (rSame_any (b := false) (x := 0) (mV.on hHeld) (lv_nil _)).mono ?_
  rintro e u70 ⟨rfl, hb⟩
  refine hK.out _ _ (dy_end hHeld hb) (fun hH => ?_)
  clear hK K hHeld hb
  have hHeld := hH
  clear hH
  try simp only [Act.put, List.setIfInBounds_toArray, List.set_cons_zero, List.set_cons_succ, List.getElem_toArray, List.getElem_cons_zero, List.getElem_cons_succ]
  refine wpAnyH_take (i := 71) (v := ?v71) rfl (by kernel_rfl) (by kernel_rfl) (by kernel_rfl) (fun _ _ _ h => h) (Or.inl ⟨by rfl, ?hy71⟩) (by assumption) ?rest71
  case hy71 => (intro w hSw; clear hSw; go_simp; try with_reducible rfl)
  simp only [Act.put, List.setIfInBounds_toArray, List.set_cons_zero, List.set_cons_succ, List.getElem_toArray, List.getElem_cons_zero, List.getElem_cons_succ]
  refine wpAnyH_take (i := 72) (v := ?v72) rfl (by kernel_rfl) (by kernel_rfl) (by kernel_rfl) (fun _ _ _ h => h) (Or.inl ⟨by rfl, ?hy72⟩) (by assumption) ?rest72
  case hy72 => (intro w hSw; clear hSw; go_simp; try with_reducible rfl)
  simp only [Act.put, List.setIfInBounds_toArray, List.set_cons_zero, List.set_cons_succ, List.getElem_toArray, List.getElem_cons_zero, List.getElem_cons_succ]
  refine wpAnyH_take (i := 73) (v := ?v73) rfl (by kernel_rfl) (by kernel_rfl) (by kernel_rfl) (fun _ _ _ h => h) (Or.inl ⟨by rfl, ?hy73⟩) (by assumption) ?rest73
  case hy73 => (intro w hSw; clear hSw; go_simp; try with_reducible rfl)
  simp only [Act.put, List.setIfInBounds_toArray, List.set_cons_zero, List.set_cons_succ, List.getElem_toArray, List.getElem_cons_zero, List.getElem_cons_succ]
  refine wpAnyH_ready (rs := [74]) (by kernel_rfl) (by simp) ?_
  refine AllReadyH.cons rfl (fun K hK => ?_) AllReadyH.nil
  go_simp
  with_reducible refine (lnum_any 0 _).mono ?_
  rintro e u74 ⟨rfl, rfl⟩
  refine hK.out _ _ (hHeld) (fun hH => ?_)
  clear hK K hHeld
  have hHeld := hH
  clear hH
  try simp only [Act.put, List.setIfInBounds_toArray, List.set_cons_zero, List.set_cons_succ, List.getElem_toArray, List.getElem_cons_zero, List.getElem_cons_succ]
  refine wpAnyH_take (i := 75) (v := ?v75) rfl (by kernel_rfl) (by kernel_rfl) (by kernel_rfl) (fun _ _ _ h => h) (Or.inl ⟨by rfl, ?hy75⟩) (by assumption) ?rest75
  case hy75 => (intro w hSw; clear hSw; go_simp; try with_reducible rfl)
  simp only [Act.put, List.setIfInBounds_toArray, List.set_cons_zero, List.set_cons_succ, List.getElem_toArray, List.getElem_cons_zero, List.getElem_cons_succ]
  refine wpAnyH_take (i := 76) (v := ?v76) rfl (by kernel_rfl) (by kernel_rfl) (by kernel_rfl) (fun _ _ _ h => h) (Or.inl ⟨by rfl, ?hy76⟩) (by assumption) ?rest76
  case hy76 => (intro w hSw; clear hSw; go_simp; try with_reducible rfl)
  simp only [Act.put, List.setIfInBounds_toArray, List.set_cons_zero, List.set_cons_succ, List.getElem_toArray, List.getElem_cons_zero, List.getElem_cons_succ]
  refine wpAnyH_take (i := 77) (v := ?v77) rfl (by kernel_rfl) (by kernel_rfl) (by kernel_rfl) (fun _ _ _ h => h) (Or.inl ⟨by rfl, ?hy77⟩) (by assumption) ?rest77
  case hy77 => (intro w hSw; clear hSw; go_simp; try with_reducible rfl)
  simp only [Act.put, List.setIfInBounds_toArray, List.set_cons_zero, List.set_cons_succ, List.getElem_toArray, List.getElem_cons_zero, List.getElem_cons_succ]
  refine wpAnyH_ready (rs := [78]) (by kernel_rfl) (by simp) ?_
  refine AllReadyH.cons rfl (fun K hK => ?_) AllReadyH.nil
  go_simp
  with_reducible refine (dknown_any _ (hT.onD hHeld) (hP.on hHeld)).mono ?_
  rintro e u78 ⟨rfl, hb⟩
  refine hK.out _ _ (dy_end hHeld hb) (fun hH => ?_)
  clear hK K hHeld hb
  have hHeld := hH
  clear hH
  try simp only [Act.put, List.setIfInBounds_toArray, List.set_cons_zero, List.set_cons_succ, List.getElem_toArray, List.getElem_cons_zero, List.getElem_cons_succ]
  refine wpAnyH_take (i := 79) (oi := { dst := some 202, op := Go.Op.pick (Go.Operand.tmp 200) (Go.Operand.tmp 201) (Go.Operand.const (Go.Value.bool false)), type := 4, pos := "law.go:254", after := #[{ on := 77, ground := Go.Ground.data }, { on := 78, ground := Go.Ground.data }], guard := none }) (v := ?v79) (by first | rfl | kernel_rfl) (by kernel_rfl) (by kernel_rfl) (by kernel_rfl) (fun _ _ _ h => h) (Or.inl ⟨by rfl, ?hy79⟩) (by assumption) ?rest79
  case hy79 => (intro w hSw; clear hSw; go_simp; try with_reducible rfl)
  simp only [Act.put, List.setIfInBounds_toArray, List.set_cons_zero, List.set_cons_succ, List.getElem_toArray, List.getElem_cons_zero, List.getElem_cons_succ]
  refine wpAnyH_take (i := 80) (oi := { dst := some 0, op := Go.Op.assign (Go.Operand.tmp 202), type := 4, pos := "law.go:254", after := ([{ on := 79, ground := Go.Ground.data }, { on := 78, ground := Go.Ground.chain }, { on := 0, ground := Go.Ground.phase }, { on := 1, ground := Go.Ground.phase }, { on := 2, ground := Go.Ground.phase }, { on := 3, ground := Go.Ground.phase }, { on := 4, ground := Go.Ground.phase }, { on := 5, ground := Go.Ground.phase }, { on := 6, ground := Go.Ground.phase }, { on := 7, ground := Go.Ground.phase }, { on := 8, ground := Go.Ground.phase }, { on := 9, ground := Go.Ground.phase }, { on := 10, ground := Go.Ground.phase }, { on := 11, ground := Go.Ground.phase }, { on := 12, ground := Go.Ground.phase }, { on := 13, ground := Go.Ground.phase }, { on := 14, ground := Go.Ground.phase }, { on := 15, ground := Go.Ground.phase }, { on := 16, ground := Go.Ground.phase }, { on := 17, ground := Go.Ground.phase }, { on := 18, ground := Go.Ground.phase }, { on := 19, ground := Go.Ground.phase }, { on := 20, ground := Go.Ground.phase }, { on := 21, ground := Go.Ground.phase }, { on := 22, ground := Go.Ground.phase }, { on := 23, ground := Go.Ground.phase }, { on := 24, ground := Go.Ground.phase }, { on := 25, ground := Go.Ground.phase }, { on := 26, ground := Go.Ground.phase }, { on := 27, ground := Go.Ground.phase }, { on := 28, ground := Go.Ground.phase }, { on := 29, ground := Go.Ground.phase }, { on := 30, ground := Go.Ground.phase }, { on := 31, ground := Go.Ground.phase }, { on := 32, ground := Go.Ground.phase }, { on := 33, ground := Go.Ground.phase }, { on := 34, ground := Go.Ground.phase }, { on := 35, ground := Go.Ground.phase }, { on := 36, ground := Go.Ground.phase }, { on := 37, ground := Go.Ground.phase }, { on := 38, ground := Go.Ground.phase }].append [{ on := 39, ground := Go.Ground.phase }, { on := 40, ground := Go.Ground.phase }, { on := 41, ground := Go.Ground.phase }, { on := 42, ground := Go.Ground.phase }, { on := 43, ground := Go.Ground.phase }, { on := 44, ground := Go.Ground.phase }, { on := 45, ground := Go.Ground.phase }, { on := 46, ground := Go.Ground.phase }, { on := 47, ground := Go.Ground.phase }, { on := 48, ground := Go.Ground.phase }, { on := 49, ground := Go.Ground.phase }, { on := 50, ground := Go.Ground.phase }, { on := 51, ground := Go.Ground.phase }, { on := 52, ground := Go.Ground.phase }, { on := 53, ground := Go.Ground.phase }, { on := 54, ground := Go.Ground.phase }, { on := 55, ground := Go.Ground.phase }, { on := 56, ground := Go.Ground.phase }, { on := 57, ground := Go.Ground.phase }, { on := 58, ground := Go.Ground.phase }, { on := 59, ground := Go.Ground.phase }, { on := 60, ground := Go.Ground.phase }, { on := 61, ground := Go.Ground.phase }, { on := 62, ground := Go.Ground.phase }, { on := 63, ground := Go.Ground.phase }, { on := 64, ground := Go.Ground.phase }, { on := 65, ground := Go.Ground.phase }, { on := 66, ground := Go.Ground.phase }, { on := 67, ground := Go.Ground.phase }, { on := 68, ground := Go.Ground.phase }, { on := 69, ground := Go.Ground.phase }, { on := 70, ground := Go.Ground.phase }, { on := 71, ground := Go.Ground.phase }, { on := 72, ground := Go.Ground.phase }, { on := 73, ground := Go.Ground.phase }, { on := 74, ground := Go.Ground.phase }, { on := 75, ground := Go.Ground.phase }, { on := 76, ground := Go.Ground.phase }, { on := 77, ground := Go.Ground.phase }, { on := 78, ground := Go.Ground.phase }, { on := 79, ground := Go.Ground.phase }]).toArray, guard := none }) (v := ?v80) (by first | rfl | kernel_rfl) (by kernel_rfl) (by kernel_rfl) (by kernel_rfl) (fun _ _ _ h => h) (Or.inl ⟨by rfl, ?hy80⟩) (by assumption) ?rest80
  case hy80 => (intro w hSw; clear hSw; go_simp; try with_reducible rfl)
  simp only [Act.put, List.setIfInBounds_toArray, List.set_cons_zero, List.set_cons_succ, List.getElem_toArray, List.getElem_cons_zero, List.getElem_cons_succ]
  refine wpAnyH_done (by kernel_rfl) ?_ _
  go_wp2_with fail
  go_ret
  exact ⟨rfl, dy_end bw hHeld⟩

end
end Go.Proofs.YtknomchkfamajaaGreatDoor
