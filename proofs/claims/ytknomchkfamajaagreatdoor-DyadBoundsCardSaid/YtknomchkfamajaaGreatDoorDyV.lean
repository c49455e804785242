/-
  Layer 3, the laws, part two: the chapter's rows. (Written by wip/tools/gen_dyv.py.)
-/
import Derived.Test.YtknomchkfamajaaGreatDoorDyW
namespace Go.Proofs.YtknomchkfamajaaGreatDoor
open Go.RowKit Go.Sort Go.Bw
set_option linter.unusedVariables false
set_option linter.unusedSimpArgs false

theorem tx_0 : txt 0 = [48] := by unfold txt; rw [if_pos rfl]
theorem tx_1 : txt 1 = [49] := by
  have hd : digs 1 = [1] := (digs_unique (by intro x hx; simp at hx; omega) (.inr (by decide)) (by decide)).symm
  unfold txt
  rw [hd, if_neg (by decide)]
  decide
theorem tx_3 : txt 3 = [51] := by
  have hd : digs 3 = [3] := (digs_unique (by intro x hx; simp at hx; omega) (.inr (by decide)) (by decide)).symm
  unfold txt
  rw [hd, if_neg (by decide)]
  decide
theorem tx_1152921504606846977 : txt 1152921504606846977 = [49, 49, 53, 50, 57, 50, 49, 53, 48, 52, 54, 48, 54, 56, 52, 54, 57, 55, 55] := by
  have hd : digs 1152921504606846977 = [7, 7, 9, 6, 4, 8, 6, 0, 6, 4, 0, 5, 1, 2, 9, 2, 5, 1, 1] := (digs_unique (by intro x hx; simp at hx; omega) (.inr (by decide)) (by decide)).symm
  unfold txt
  rw [hd, if_neg (by decide)]
  decide
theorem tx_18014398509481985 : txt 18014398509481985 = [49, 56, 48, 49, 52, 51, 57, 56, 53, 48, 57, 52, 56, 49, 57, 56, 53] := by
  have hd : digs 18014398509481985 = [5, 8, 9, 1, 8, 4, 9, 0, 5, 8, 9, 3, 4, 1, 0, 8, 1] := (digs_unique (by intro x hx; simp at hx; omega) (.inr (by decide)) (by decide)).symm
  unfold txt
  rw [hd, if_neg (by decide)]
  decide
theorem it_n1 : Lib.itoa (-1) = [45, 49] := by simp [Lib.itoa, Lib.decDigits]
theorem it_p1 : Lib.itoa (1) = [49] := by simp [Lib.itoa, Lib.decDigits]
theorem it_n60 : Lib.itoa (-60) = [45, 54, 48] := by simp [Lib.itoa, Lib.decDigits]
theorem it_n54 : Lib.itoa (-54) = [45, 53, 52] := by simp [Lib.itoa, Lib.decDigits]
def kOne : Nf := ⟨false, 1, 0⟩
def kH60 : Nf := ⟨false, 1, -60⟩
def kS60 : Nf := ⟨false, 1152921504606846977, -60⟩
def kH53 : Nf := ⟨false, 1, -53⟩
def kS53 : Nf := ⟨false, 9007199254740993, -53⟩
def kH1 : Nf := ⟨false, 1, -1⟩
def kW3 : Nf := ⟨false, 3, 0⟩
def kTen : Nf := ⟨false, 5, 1⟩
def kTenth : Nf := ⟨false, 3602879701896397, -55⟩
def kProd : Nf := ⟨false, 18014398509481985, -54⟩
def kH1075 : Nf := ⟨false, 1, -1075⟩
def kN1075 : Nf := ⟨true, 1, -1075⟩
def kSix : Nf := ⟨true, 3, 1⟩
def kH1024 : Nf := ⟨false, 1, 1024⟩
theorem kOne_ok : kOne.Ok := .inr (by decide)
theorem kH60_ok : kH60.Ok := .inr (by decide)
theorem kS60_ok : kS60.Ok := .inr (by decide)
theorem kH53_ok : kH53.Ok := .inr (by decide)
theorem kS53_ok : kS53.Ok := .inr (by decide)
theorem kH1_ok : kH1.Ok := .inr (by decide)
theorem kW3_ok : kW3.Ok := .inr (by decide)
theorem kTen_ok : kTen.Ok := .inr (by decide)
theorem kTenth_ok : kTenth.Ok := .inr (by decide)
theorem kProd_ok : kProd.Ok := .inr (by decide)
theorem kH1075_ok : kH1075.Ok := .inr (by decide)
theorem kN1075_ok : kN1075.Ok := .inr (by decide)
theorem kSix_ok : kSix.Ok := .inr (by decide)
theorem kH1024_ok : kH1024.Ok := .inr (by decide)
theorem of_kOne : nfl (pneg ((4607182418800017408 : Nat) : Int)) (pman ((4607182418800017408 : Nat) : Int)) (pexp ((4607182418800017408 : Nat) : Int)) = kOne := by
  have e1 : pneg ((4607182418800017408 : Nat) : Int) = false := by decide
  have e2 : pman ((4607182418800017408 : Nat) : Int) = (1 : Nat) * 2 ^ 52 := by decide
  have e3 : pexp ((4607182418800017408 : Nat) : Int) = -52 := by decide
  rw [e1, e3, nfl_is (m := 1) (k := 52) (by decide) e2]
  rfl
theorem of_kTenth : nfl (pneg ((4591870180066957722 : Nat) : Int)) (pman ((4591870180066957722 : Nat) : Int)) (pexp ((4591870180066957722 : Nat) : Int)) = kTenth := by
  have e1 : pneg ((4591870180066957722 : Nat) : Int) = false := by decide
  have e2 : pman ((4591870180066957722 : Nat) : Int) = (3602879701896397 : Nat) * 2 ^ 1 := by decide
  have e3 : pexp ((4591870180066957722 : Nat) : Int) = -56 := by decide
  rw [e1, e3, nfl_is (m := 3602879701896397) (k := 1) (by decide) e2]
  rfl
theorem of_kH1 : nfl (pneg ((4602678819172646912 : Nat) : Int)) (pman ((4602678819172646912 : Nat) : Int)) (pexp ((4602678819172646912 : Nat) : Int)) = kH1 := by
  have e1 : pneg ((4602678819172646912 : Nat) : Int) = false := by decide
  have e2 : pman ((4602678819172646912 : Nat) : Int) = (1 : Nat) * 2 ^ 52 := by decide
  have e3 : pexp ((4602678819172646912 : Nat) : Int) = -53 := by decide
  rw [e1, e3, nfl_is (m := 1) (k := 52) (by decide) e2]
  rfl
theorem of_kSix : nfl (pneg ((13841813454723219456 : Nat) : Int)) (pman ((13841813454723219456 : Nat) : Int)) (pexp ((13841813454723219456 : Nat) : Int)) = kSix := by
  have e1 : pneg ((13841813454723219456 : Nat) : Int) = true := by decide
  have e2 : pman ((13841813454723219456 : Nat) : Int) = (3 : Nat) * 2 ^ 51 := by decide
  have e3 : pexp ((13841813454723219456 : Nat) : Int) = -50 := by decide
  rw [e1, e3, nfl_is (m := 3) (k := 51) (by decide) e2]
  rfl
theorem of_zero : nfl (pneg ((9223372036854775808 : Nat) : Int)) (pman ((9223372036854775808 : Nat) : Int)) (pexp ((9223372036854775808 : Nat) : Int)) = zeroN := by
  have e2 : pman ((9223372036854775808 : Nat) : Int) = 0 := by decide
  rw [e2, nfl_zero]
theorem half_kH60 : (ansR false 1 (-60)).1 = kH60 := rfl
theorem half_kH53 : (ansR false 1 (-53)).1 = kH53 := rfl
theorem half_kH1 : (ansR false 1 (-1)).1 = kH1 := rfl
theorem half_kH1075 : (ansR false 1 (-1075)).1 = kH1075 := rfl
theorem half_kH1024 : (ansR false 1 (1024)).1 = kH1024 := rfl
theorem kW3_is : nf 3 0 = kW3 := nfl_odd false 0 (by decide) (by decide)
theorem kTen_is : nf 10 0 = kTen := by
  have := nfl_is (b := false) (v := 10) (e := 0) (m := 5) (k := 1) (by decide) (by decide)
  exact this
theorem sum_60 : addR kOne kH60 = (kS60, 0) := by
  have e : sumN kOne kH60 = kS60 := by
    have h : kOne.num * 2 ^ (kOne.exp - min kOne.exp kH60.exp).toNat + kH60.num * 2 ^ (kH60.exp - min kOne.exp kH60.exp).toNat = 1152921504606846977 := by decide
    unfold sumN
    rw [h]
    exact nfl_odd (v := 1152921504606846977) false (-60) (by decide) (by decide)
  unfold addR
  rw [show farN kOne kH60 = false by decide, e]
  rfl
theorem sum_53 : addR kOne kH53 = (kS53, 0) := by
  have e : sumN kOne kH53 = kS53 := by
    have h : kOne.num * 2 ^ (kOne.exp - min kOne.exp kH53.exp).toNat + kH53.num * 2 ^ (kH53.exp - min kOne.exp kH53.exp).toNat = 9007199254740993 := by decide
    unfold sumN
    rw [h]
    exact nfl_odd (v := 9007199254740993) false (-53) (by decide) (by decide)
  unfold addR
  rw [show farN kOne kH53 = false by decide, e]
  rfl
theorem neg_w3 : negN kW3 = ⟨true, 3, 0⟩ := negN_is (by decide)
theorem diff_3 : addR kW3 (negN kW3) = (zeroN, 0) := by
  have e : sumN kW3 (negN kW3) = zeroN := by rw [neg_w3]; exact nf_zero _
  unfold addR
  rw [e, neg_w3]
  rfl
theorem prod_10 : doneR (mulN kTenth kTen) = (kProd, 0) := by
  have e : mulN kTenth kTen = kProd := by
    have h : kTenth.num * kTen.num = 18014398509481985 := by decide
    unfold mulN
    rw [h]
    exact nfl_odd (v := 18014398509481985) false (-54) (by decide) (by decide)
  rw [e]
  rfl
theorem neg_1075 : doneR (negN kH1075) = (kN1075, 0) := by
  rw [show negN kH1075 = kN1075 from negN_is (by decide)]
  rfl
theorem near_60 : Near kOne kH60 := ⟨-60, 1, .inr ⟨by decide, by decide, by decide⟩, .inr ⟨by decide, by decide, by decide⟩, by decide, by decide⟩
theorem near_53 : Near kOne kH53 := ⟨-53, 1, .inr ⟨by decide, by decide, by decide⟩, .inr ⟨by decide, by decide, by decide⟩, by decide, by decide⟩
theorem near_3 : Near kW3 (negN kW3) := by
  rw [neg_w3]
  exact ⟨0, 2, .inr ⟨by decide, by decide, by decide⟩, .inr ⟨by decide, by decide, by decide⟩, by decide, by decide⟩
theorem below_cell {W w : World} {p : Addr} {v : Value} (h : W.cell? p = some v) (hb : Below W.heap.size W w) : w.cell? p = some v := (hb.cell (World.block_lt_of_cell? _ _ h)).trans h
theorem okE_dn {b : Bool} {l : List Int} {x : Int} {d : Nf} (hd : Dn b l x d) (h : okE d.exp = true) : okE x = true := by rw [← hd.exp]; exact h
theorem x_dn {b : Bool} {l : List Int} {x : Int} {d : Nf} (hd : Dn b l x d) (h : d.exp ≠ 0) : x ≠ 0 := by rw [← hd.exp]; exact h
theorem x0_dn {b : Bool} {l : List Int} {x : Int} {d : Nf} (hd : Dn b l x d) (h : d.exp = 0) : x = 0 := by rw [← hd.exp]; exact h
theorem b_dn {b b' : Bool} {l : List Int} {x : Int} {d : Nf} (hd : Dn b l x d) (h : d.neg = b') : b = b' := by rw [← hd.neg]; exact h
theorem st_kS60 : ((⟨(txt kS60.man).toArray⟩ : ByteArray) ++ ((⟨#[112]⟩ : ByteArray) ++ ⟨(Lib.itoa kS60.exp).toArray⟩)) = ⟨#[49, 49, 53, 50, 57, 50, 49, 53, 48, 52, 54, 48, 54, 56, 52, 54, 57, 55, 55, 112, 45, 54, 48]⟩ := by
  show ((⟨(txt 1152921504606846977).toArray⟩ : ByteArray) ++ ((⟨#[112]⟩ : ByteArray) ++ ⟨(Lib.itoa (-60)).toArray⟩)) = _
  rw [tx_1152921504606846977, it_n60]
  rfl
theorem st_kProd : ((⟨(txt kProd.man).toArray⟩ : ByteArray) ++ ((⟨#[112]⟩ : ByteArray) ++ ⟨(Lib.itoa kProd.exp).toArray⟩)) = ⟨#[49, 56, 48, 49, 52, 51, 57, 56, 53, 48, 57, 52, 56, 49, 57, 56, 53, 112, 45, 53, 52]⟩ := by
  show ((⟨(txt 18014398509481985).toArray⟩ : ByteArray) ++ ((⟨#[112]⟩ : ByteArray) ++ ⟨(Lib.itoa (-54)).toArray⟩)) = _
  rw [tx_18014398509481985, it_n54]
  rfl
theorem st_kH1 : ((⟨(txt kH1.man).toArray⟩ : ByteArray) ++ ((⟨#[112]⟩ : ByteArray) ++ ⟨(Lib.itoa kH1.exp).toArray⟩)) = ⟨#[49, 112, 45, 49]⟩ := by
  show ((⟨(txt 1).toArray⟩ : ByteArray) ++ ((⟨#[112]⟩ : ByteArray) ++ ⟨(Lib.itoa (-1)).toArray⟩)) = _
  rw [tx_1, it_n1]
  rfl
theorem st_kSix : (((⟨#[45]⟩ : ByteArray) ++ ⟨(txt kSix.man).toArray⟩) ++ ((⟨#[112]⟩ : ByteArray) ++ ⟨(Lib.itoa kSix.exp).toArray⟩)) = ⟨#[45, 51, 112, 49]⟩ := by
  show (((⟨#[45]⟩ : ByteArray) ++ ⟨(txt 3).toArray⟩) ++ ((⟨#[112]⟩ : ByteArray) ++ ⟨(Lib.itoa 1).toArray⟩)) = _
  rw [tx_3, it_p1]
  rfl
theorem st_zero : (⟨(txt zeroN.man).toArray⟩ : ByteArray) = ⟨#[48]⟩ := by
  show (⟨(txt 0).toArray⟩ : ByteArray) = _
  rw [tx_0]
theorem fw_kS60 : fw kS60 = 4607182418800017408 := by decide +kernel
theorem fw_kS53 : fw kS53 = 4607182418800017408 := by decide +kernel
theorem fw_kH1024 : fw kH1024 = 9218868437227405312 := by decide +kernel
theorem fw_kH1075 : fw kH1075 = 0 := by decide +kernel
theorem fw_kN1075 : fw kN1075 = 9223372036854775808 := by decide +kernel
set_option maxRecDepth 1000000 in
set_option maxHeartbeats 16000000 in
theorem k_NaN (w : World) : Calls Tryz.prog 55 #[] w fun e w' => e = .returned (.float .f64 9221120237041090561) ∧ w = w' := by
  have h9 := run_float64frombits 9221120237041090561
  go_enter Tryz.func55, Tryz.ntmps55
  go_wp2_with fail
  go_ret
  exact ⟨rfl, rfl⟩

set_option maxRecDepth 1000000 in
set_option maxHeartbeats 16000000 in
theorem k_Inf (w : World) : Calls Tryz.prog 58 #[.int .i64 1] w fun e w' => e = .returned (.float .f64 9218868437227405312) ∧ w = w' := by
  have h9 := run_float64frombits 9218868437227405312
  go_enter Tryz.func58, Tryz.ntmps58
  go_wp2_with fail
  go_ret
  exact ⟨rfl, rfl⟩

set_option maxRecDepth 1000000 in
set_option maxHeartbeats 16000000 in
theorem k_Copysign (w : World) : Calls Tryz.prog 57 #[.float .f64 0, .float .f64 13830554455654793216] w fun e w' => e = .returned (.float .f64 9223372036854775808) ∧ w = w' := by
  have h9 := run_float64frombits 9223372036854775808
  have h8 := run_float64bits 0
  have h7 := run_float64bits 13830554455654793216
  have h6 : bits .andNot .u64 0 9223372036854775808 = 0 := by decide
  have h5 : bits .and .u64 13830554455654793216 9223372036854775808 = 9223372036854775808 := by decide
  have h4 : bits .or .u64 0 9223372036854775808 = 9223372036854775808 := by decide
  go_enter Tryz.func57, Tryz.ntmps57
  go_wp2_with fail
  go_ret
  exact ⟨rfl, rfl⟩

theorem small_pow {v : Int} (h : v < 18446744073709551616) : v < 18446744073709551616 ^ 4096 := Int.lt_of_lt_of_le h (by have := pow_le' (b := 18446744073709551616) (by omega) (show 1 ≤ 4096 by omega); rwa [Int.pow_succ, Int.pow_zero, Int.one_mul] at this)
set_option maxRecDepth 1000000 in
set_option maxHeartbeats 16000000 in
theorem dknown_any (w : World) (hT : Tab w) (hP : PowT w) :
    Calls Tryz.prog 15 #[] w fun e w' => e = .returned (.bool true) ∧ Below w.heap.size w w' := by
  have bw : Below w.heap.size w w := Below.refl _ _
  go_enter Tryz.func15, Tryz.ntmps15
  go_wp2_with fail
  with_reducible refine (k_NaN _).mono ?_
  rintro e v0 ⟨rfl, rfl⟩
  go_wp2_with fail
  have p1 := dOf_no 9221120237041090561 (by decide) (by decide) w
  with_reducible refine p1.mono ?_
  rintro e w1 ⟨bn, ln, An, cn, xn, rfl, dn, mn, hb⟩
  clear p1
  have hs1 := hb.size
  try simp only [World.size_alloc] at hs1
  replace bw : Below w.heap.size w w1 := dy_end (by go_grown) hb
  replace hT := hT.onD hb
  replace hP := hP.on hb
  clear hb
  replace mn := Lv.alloc mn (.cells #[.bool bn, .slice An ln.length cn, .int .i64 xn] 24)
  have T1 := Blk.new w1 [.bool bn, .slice An ln.length cn, .int .i64 xn] 24
  have T1_0 := Blk.cell T1 0 rfl
  have T1_1 := Blk.cell T1 1 rfl
  have T1_2 := Blk.cell T1 2 rfl
  have T1_f0 := Blk.free T1 0
  have T1_f1 := Blk.free T1 1
  have T1_f2 := Blk.free T1 2
  replace hT := hT.alD (.cells #[.bool bn, .slice An ln.length cn, .int .i64 xn] 24)
  replace hP := hP.on ((Below.refl _ _).alloc (Nat.le_refl _) (.cells #[.bool bn, .slice An ln.length cn, .int .i64 xn] 24))
  replace bw : Below w.heap.size w (w1.alloc (.cells #[.bool bn, .slice An ln.length cn, .int .i64 xn] 24)) := by go_grown
  go_wp2_with fail
  have p2 := lof_yes 4607182418800017408 (by decide) (by decide) hT
  rw [of_kOne] at p2
  with_reducible refine p2.mono ?_
  rintro e w2 ⟨ba, la, Aa, ca, xa, rfl, da, ma, hb⟩
  clear p2
  clear T1_0 T1_1 T1_2 T1_f0 T1_f1 T1_f2
  have hs2 := hb.size
  try simp only [World.size_alloc] at hs2
  replace bw : Below w.heap.size w w2 := dy_end (by go_grown) hb
  replace mn := Lv.on mn hb
  replace T1 := Blk.on T1 hb
  replace hT := hT.onD hb
  replace hP := hP.on hb
  clear hb
  have T1_0 := Blk.cell T1 0 rfl
  have T1_1 := Blk.cell T1 1 rfl
  have T1_2 := Blk.cell T1 2 rfl
  have T1_f0 := Blk.free T1 0
  have T1_f1 := Blk.free T1 1
  have T1_f2 := Blk.free T1 2
  go_wp2_with fail
  have p3 := lhalf_any (-60) w2
  rw [half_kH60] at p3
  with_reducible refine p3.mono ?_
  rintro e w3 ⟨be, le, Ae, ce, xe, rfl, de, me, hb⟩
  clear p3
  clear T1_0 T1_1 T1_2 T1_f0 T1_f1 T1_f2
  have hs3 := hb.size
  try simp only [World.size_alloc] at hs3
  replace bw : Below w.heap.size w w3 := dy_end (by go_grown) hb
  replace mn := Lv.on mn hb
  replace ma := Lv.on ma hb
  replace T1 := Blk.on T1 hb
  replace hT := hT.onD hb
  replace hP := hP.on hb
  clear hb
  have T1_0 := Blk.cell T1 0 rfl
  have T1_1 := Blk.cell T1 1 rfl
  have T1_2 := Blk.cell T1 2 rfl
  have T1_f0 := Blk.free T1 0
  have T1_f1 := Blk.free T1 1
  have T1_f2 := Blk.free T1 2
  go_wp2_with fail
  have p4 := dAdd_dn da ma de me hT (okE_dn da (by decide)) (okE_dn de (by decide)) (.inr near_60)
  rw [sum_60] at p4
  with_reducible refine p4.mono ?_
  rintro e w4 ⟨bf, lf, Af, cf, xf, rfl, df, mf, hb⟩
  clear p4
  clear T1_0 T1_1 T1_2 T1_f0 T1_f1 T1_f2
  have hs4 := hb.size
  try simp only [World.size_alloc] at hs4
  replace bw : Below w.heap.size w w4 := dy_end (by go_grown) hb
  replace mn := Lv.on mn hb
  replace ma := Lv.on ma hb
  replace me := Lv.on me hb
  replace T1 := Blk.on T1 hb
  replace hT := hT.onD hb
  replace hP := hP.on hb
  clear hb
  have T1_0 := Blk.cell T1 0 rfl
  have T1_1 := Blk.cell T1 1 rfl
  have T1_2 := Blk.cell T1 2 rfl
  have T1_f0 := Blk.free T1 0
  have T1_f1 := Blk.free T1 1
  have T1_f2 := Blk.free T1 2
  replace mn := Lv.alloc mn (.cells #[.bool bf, .slice Af lf.length cf, .int .i64 xf] 24)
  replace ma := Lv.alloc ma (.cells #[.bool bf, .slice Af lf.length cf, .int .i64 xf] 24)
  replace me := Lv.alloc me (.cells #[.bool bf, .slice Af lf.length cf, .int .i64 xf] 24)
  replace mf := Lv.alloc mf (.cells #[.bool bf, .slice Af lf.length cf, .int .i64 xf] 24)
  replace T1 := Blk.alloc T1 (.cells #[.bool bf, .slice Af lf.length cf, .int .i64 xf] 24)
  have T3 := Blk.new w4 [.bool bf, .slice Af lf.length cf, .int .i64 xf] 24
  have T1_v0_0 := Blk.cell T1 0 rfl
  have T1_v0_1 := Blk.cell T1 1 rfl
  have T1_v0_2 := Blk.cell T1 2 rfl
  have T1_v0_f0 := Blk.free T1 0
  have T1_v0_f1 := Blk.free T1 1
  have T1_v0_f2 := Blk.free T1 2
  have T3_0 := Blk.cell T3 0 rfl
  have T3_1 := Blk.cell T3 1 rfl
  have T3_2 := Blk.cell T3 2 rfl
  have T3_f0 := Blk.free T3 0
  have T3_f1 := Blk.free T3 1
  have T3_f2 := Blk.free T3 2
  replace hT := hT.alD (.cells #[.bool bf, .slice Af lf.length cf, .int .i64 xf] 24)
  replace hP := hP.on ((Below.refl _ _).alloc (Nat.le_refl _) (.cells #[.bool bf, .slice Af lf.length cf, .int .i64 xf] 24))
  replace bw : Below w.heap.size w (w4.alloc (.cells #[.bool bf, .slice Af lf.length cf, .int .i64 xf] 24)) := by go_grown
  go_wp2_with fail
  have p5 := lof_yes 4607182418800017408 (by decide) (by decide) hT
  rw [of_kOne] at p5
  with_reducible refine p5.mono ?_
  rintro e w5 ⟨bg, lg, Ag, cg, xg, rfl, dg, mg, hb⟩
  clear p5
  clear T1_0 T1_1 T1_2 T1_f0 T1_f1 T1_f2 T1_v0_0 T1_v0_1 T1_v0_2 T1_v0_f0 T1_v0_f1 T1_v0_f2
  clear T3_0 T3_1 T3_2 T3_f0 T3_f1 T3_f2
  have hs5 := hb.size
  try simp only [World.size_alloc] at hs5
  replace bw : Below w.heap.size w w5 := dy_end (by go_grown) hb
  replace mn := Lv.on mn hb
  replace ma := Lv.on ma hb
  replace me := Lv.on me hb
  replace mf := Lv.on mf hb
  replace T1 := Blk.on T1 hb
  replace T3 := Blk.on T3 hb
  replace hT := hT.onD hb
  replace hP := hP.on hb
  clear hb
  have T1_0 := Blk.cell T1 0 rfl
  have T1_1 := Blk.cell T1 1 rfl
  have T1_2 := Blk.cell T1 2 rfl
  have T1_f0 := Blk.free T1 0
  have T1_f1 := Blk.free T1 1
  have T1_f2 := Blk.free T1 2
  have T3_0 := Blk.cell T3 0 rfl
  have T3_1 := Blk.cell T3 1 rfl
  have T3_2 := Blk.cell T3 2 rfl
  have T3_f0 := Blk.free T3 0
  have T3_f1 := Blk.free T3 1
  have T3_f2 := Blk.free T3 2
  go_wp2_with fail
  have p6 := lhalf_any (-53) w5
  rw [half_kH53] at p6
  with_reducible refine p6.mono ?_
  rintro e w6 ⟨bh, lh, Ah, ch, xh, rfl, dh, mh, hb⟩
  clear p6
  clear T1_0 T1_1 T1_2 T1_f0 T1_f1 T1_f2
  clear T3_0 T3_1 T3_2 T3_f0 T3_f1 T3_f2
  have hs6 := hb.size
  try simp only [World.size_alloc] at hs6
  replace bw : Below w.heap.size w w6 := dy_end (by go_grown) hb
  replace mn := Lv.on mn hb
  replace ma := Lv.on ma hb
  replace me := Lv.on me hb
  replace mf := Lv.on mf hb
  replace mg := Lv.on mg hb
  replace T1 := Blk.on T1 hb
  replace T3 := Blk.on T3 hb
  replace hT := hT.onD hb
  replace hP := hP.on hb
  clear hb
  have T1_0 := Blk.cell T1 0 rfl
  have T1_1 := Blk.cell T1 1 rfl
  have T1_2 := Blk.cell T1 2 rfl
  have T1_f0 := Blk.free T1 0
  have T1_f1 := Blk.free T1 1
  have T1_f2 := Blk.free T1 2
  have T3_0 := Blk.cell T3 0 rfl
  have T3_1 := Blk.cell T3 1 rfl
  have T3_2 := Blk.cell T3 2 rfl
  have T3_f0 := Blk.free T3 0
  have T3_f1 := Blk.free T3 1
  have T3_f2 := Blk.free T3 2
  go_wp2_with fail
  have p7 := dAdd_dn dg mg dh mh hT (okE_dn dg (by decide)) (okE_dn dh (by decide)) (.inr near_53)
  rw [sum_53] at p7
  with_reducible refine p7.mono ?_
  rintro e w7 ⟨bi, li, Ai, ci, xi, rfl, di, mi, hb⟩
  clear p7
  clear T1_0 T1_1 T1_2 T1_f0 T1_f1 T1_f2
  clear T3_0 T3_1 T3_2 T3_f0 T3_f1 T3_f2
  have hs7 := hb.size
  try simp only [World.size_alloc] at hs7
  replace bw : Below w.heap.size w w7 := dy_end (by go_grown) hb
  replace mn := Lv.on mn hb
  replace ma := Lv.on ma hb
  replace me := Lv.on me hb
  replace mf := Lv.on mf hb
  replace mg := Lv.on mg hb
  replace mh := Lv.on mh hb
  replace T1 := Blk.on T1 hb
  replace T3 := Blk.on T3 hb
  replace hT := hT.onD hb
  replace hP := hP.on hb
  clear hb
  have T1_0 := Blk.cell T1 0 rfl
  have T1_1 := Blk.cell T1 1 rfl
  have T1_2 := Blk.cell T1 2 rfl
  have T1_f0 := Blk.free T1 0
  have T1_f1 := Blk.free T1 1
  have T1_f2 := Blk.free T1 2
  have T3_0 := Blk.cell T3 0 rfl
  have T3_1 := Blk.cell T3 1 rfl
  have T3_2 := Blk.cell T3 2 rfl
  have T3_f0 := Blk.free T3 0
  have T3_f1 := Blk.free T3 1
  have T3_f2 := Blk.free T3 2
  replace mn := Lv.alloc mn (.cells #[.bool bi, .slice Ai li.length ci, .int .i64 xi] 24)
  replace ma := Lv.alloc ma (.cells #[.bool bi, .slice Ai li.length ci, .int .i64 xi] 24)
  replace me := Lv.alloc me (.cells #[.bool bi, .slice Ai li.length ci, .int .i64 xi] 24)
  replace mf := Lv.alloc mf (.cells #[.bool bi, .slice Ai li.length ci, .int .i64 xi] 24)
  replace mg := Lv.alloc mg (.cells #[.bool bi, .slice Ai li.length ci, .int .i64 xi] 24)
  replace mh := Lv.alloc mh (.cells #[.bool bi, .slice Ai li.length ci, .int .i64 xi] 24)
  replace mi := Lv.alloc mi (.cells #[.bool bi, .slice Ai li.length ci, .int .i64 xi] 24)
  replace T1 := Blk.alloc T1 (.cells #[.bool bi, .slice Ai li.length ci, .int .i64 xi] 24)
  replace T3 := Blk.alloc T3 (.cells #[.bool bi, .slice Ai li.length ci, .int .i64 xi] 24)
  have T5 := Blk.new w7 [.bool bi, .slice Ai li.length ci, .int .i64 xi] 24
  have T1_v1_0 := Blk.cell T1 0 rfl
  have T1_v1_1 := Blk.cell T1 1 rfl
  have T1_v1_2 := Blk.cell T1 2 rfl
  have T1_v1_f0 := Blk.free T1 0
  have T1_v1_f1 := Blk.free T1 1
  have T1_v1_f2 := Blk.free T1 2
  have T3_v2_0 := Blk.cell T3 0 rfl
  have T3_v2_1 := Blk.cell T3 1 rfl
  have T3_v2_2 := Blk.cell T3 2 rfl
  have T3_v2_f0 := Blk.free T3 0
  have T3_v2_f1 := Blk.free T3 1
  have T3_v2_f2 := Blk.free T3 2
  have T5_0 := Blk.cell T5 0 rfl
  have T5_1 := Blk.cell T5 1 rfl
  have T5_2 := Blk.cell T5 2 rfl
  have T5_f0 := Blk.free T5 0
  have T5_f1 := Blk.free T5 1
  have T5_f2 := Blk.free T5 2
  replace hT := hT.alD (.cells #[.bool bi, .slice Ai li.length ci, .int .i64 xi] 24)
  replace hP := hP.on ((Below.refl _ _).alloc (Nat.le_refl _) (.cells #[.bool bi, .slice Ai li.length ci, .int .i64 xi] 24))
  replace bw : Below w.heap.size w (w7.alloc (.cells #[.bool bi, .slice Ai li.length ci, .int .i64 xi] 24)) := by go_grown
  go_wp2_with fail
  have p8 := lhalf_any (-1) (w7.alloc (.cells #[.bool bi, .slice Ai li.length ci, .int .i64 xi] 24))
  rw [half_kH1] at p8
  with_reducible refine p8.mono ?_
  rintro e w8 ⟨bj, lj, Aj, cj, xj, rfl, dj, mj, hb⟩
  clear p8
  clear T1_0 T1_1 T1_2 T1_f0 T1_f1 T1_f2 T1_v1_0 T1_v1_1 T1_v1_2 T1_v1_f0 T1_v1_f1 T1_v1_f2
  clear T3_0 T3_1 T3_2 T3_f0 T3_f1 T3_f2 T3_v2_0 T3_v2_1 T3_v2_2 T3_v2_f0 T3_v2_f1 T3_v2_f2
  clear T5_0 T5_1 T5_2 T5_f0 T5_f1 T5_f2
  have hs8 := hb.size
  try simp only [World.size_alloc] at hs8
  replace bw : Below w.heap.size w w8 := dy_end (by go_grown) hb
  replace mn := Lv.on mn hb
  replace ma := Lv.on ma hb
  replace me := Lv.on me hb
  replace mf := Lv.on mf hb
  replace mg := Lv.on mg hb
  replace mh := Lv.on mh hb
  replace mi := Lv.on mi hb
  replace T1 := Blk.on T1 hb
  replace T3 := Blk.on T3 hb
  replace T5 := Blk.on T5 hb
  replace hT := hT.onD hb
  replace hP := hP.on hb
  clear hb
  have T1_0 := Blk.cell T1 0 rfl
  have T1_1 := Blk.cell T1 1 rfl
  have T1_2 := Blk.cell T1 2 rfl
  have T1_f0 := Blk.free T1 0
  have T1_f1 := Blk.free T1 1
  have T1_f2 := Blk.free T1 2
  have T3_0 := Blk.cell T3 0 rfl
  have T3_1 := Blk.cell T3 1 rfl
  have T3_2 := Blk.cell T3 2 rfl
  have T3_f0 := Blk.free T3 0
  have T3_f1 := Blk.free T3 1
  have T3_f2 := Blk.free T3 2
  have T5_0 := Blk.cell T5 0 rfl
  have T5_1 := Blk.cell T5 1 rfl
  have T5_2 := Blk.cell T5 2 rfl
  have T5_f0 := Blk.free T5 0
  have T5_f1 := Blk.free T5 1
  have T5_f2 := Blk.free T5 2
  go_wp2_with fail
  have p9 := dWhole_any 0 hT (by decide) (by decide)
  rw [nf_zero] at p9
  with_reducible refine p9.mono ?_
  rintro e w9 ⟨bk, lk, Ak, ck, xk, rfl, dk, mk, hb⟩
  clear p9
  clear T1_0 T1_1 T1_2 T1_f0 T1_f1 T1_f2
  clear T3_0 T3_1 T3_2 T3_f0 T3_f1 T3_f2
  clear T5_0 T5_1 T5_2 T5_f0 T5_f1 T5_f2
  have hs9 := hb.size
  try simp only [World.size_alloc] at hs9
  replace bw : Below w.heap.size w w9 := dy_end (by go_grown) hb
  replace mn := Lv.on mn hb
  replace ma := Lv.on ma hb
  replace me := Lv.on me hb
  replace mf := Lv.on mf hb
  replace mg := Lv.on mg hb
  replace mh := Lv.on mh hb
  replace mi := Lv.on mi hb
  replace mj := Lv.on mj hb
  replace T1 := Blk.on T1 hb
  replace T3 := Blk.on T3 hb
  replace T5 := Blk.on T5 hb
  replace hT := hT.onD hb
  replace hP := hP.on hb
  clear hb
  have T1_0 := Blk.cell T1 0 rfl
  have T1_1 := Blk.cell T1 1 rfl
  have T1_2 := Blk.cell T1 2 rfl
  have T1_f0 := Blk.free T1 0
  have T1_f1 := Blk.free T1 1
  have T1_f2 := Blk.free T1 2
  have T3_0 := Blk.cell T3 0 rfl
  have T3_1 := Blk.cell T3 1 rfl
  have T3_2 := Blk.cell T3 2 rfl
  have T3_f0 := Blk.free T3 0
  have T3_f1 := Blk.free T3 1
  have T3_f2 := Blk.free T3 2
  have T5_0 := Blk.cell T5 0 rfl
  have T5_1 := Blk.cell T5 1 rfl
  have T5_2 := Blk.cell T5 2 rfl
  have T5_f0 := Blk.free T5 0
  have T5_f1 := Blk.free T5 1
  have T5_f2 := Blk.free T5 2
  go_wp2_with fail
  have p10 := dCmp_dn dj mj dk mk hT (okE_dn dj (by decide)) (okE_dn dk (by decide)) (ord_signs (d := kH1) (d2 := zeroN) (.inl (by decide)) (fun _ h => absurd rfl h))
  rw [show cmpS (sgn kH1) (sgn zeroN) = 1 by decide] at p10
  with_reducible refine p10.mono ?_
  rintro e w10 ⟨rfl, hb⟩
  clear p10
  clear T1_0 T1_1 T1_2 T1_f0 T1_f1 T1_f2
  clear T3_0 T3_1 T3_2 T3_f0 T3_f1 T3_f2
  clear T5_0 T5_1 T5_2 T5_f0 T5_f1 T5_f2
  have hs10 := hb.size
  try simp only [World.size_alloc] at hs10
  replace bw : Below w.heap.size w w10 := dy_end (by go_grown) hb
  replace mn := Lv.on mn hb
  replace ma := Lv.on ma hb
  replace me := Lv.on me hb
  replace mf := Lv.on mf hb
  replace mg := Lv.on mg hb
  replace mh := Lv.on mh hb
  replace mi := Lv.on mi hb
  replace mj := Lv.on mj hb
  replace mk := Lv.on mk hb
  replace T1 := Blk.on T1 hb
  replace T3 := Blk.on T3 hb
  replace T5 := Blk.on T5 hb
  replace hT := hT.onD hb
  replace hP := hP.on hb
  clear hb
  have T1_0 := Blk.cell T1 0 rfl
  have T1_1 := Blk.cell T1 1 rfl
  have T1_2 := Blk.cell T1 2 rfl
  have T1_f0 := Blk.free T1 0
  have T1_f1 := Blk.free T1 1
  have T1_f2 := Blk.free T1 2
  have T3_0 := Blk.cell T3 0 rfl
  have T3_1 := Blk.cell T3 1 rfl
  have T3_2 := Blk.cell T3 2 rfl
  have T3_f0 := Blk.free T3 0
  have T3_f1 := Blk.free T3 1
  have T3_f2 := Blk.free T3 2
  have T5_0 := Blk.cell T5 0 rfl
  have T5_1 := Blk.cell T5 1 rfl
  have T5_2 := Blk.cell T5 2 rfl
  have T5_f0 := Blk.free T5 0
  have T5_f1 := Blk.free T5 1
  have T5_f2 := Blk.free T5 2
  go_wp2_with fail
  have p11 := dWhole_any 3 hT (by decide) (by decide)
  rw [kW3_is] at p11
  with_reducible refine p11.mono ?_
  rintro e w11 ⟨boo, loo, Aoo, coo, xoo, rfl, doo, moo, hb⟩
  clear p11
  clear T1_0 T1_1 T1_2 T1_f0 T1_f1 T1_f2
  clear T3_0 T3_1 T3_2 T3_f0 T3_f1 T3_f2
  clear T5_0 T5_1 T5_2 T5_f0 T5_f1 T5_f2
  have hs11 := hb.size
  try simp only [World.size_alloc] at hs11
  replace bw : Below w.heap.size w w11 := dy_end (by go_grown) hb
  replace mn := Lv.on mn hb
  replace ma := Lv.on ma hb
  replace me := Lv.on me hb
  replace mf := Lv.on mf hb
  replace mg := Lv.on mg hb
  replace mh := Lv.on mh hb
  replace mi := Lv.on mi hb
  replace mj := Lv.on mj hb
  replace mk := Lv.on mk hb
  replace T1 := Blk.on T1 hb
  replace T3 := Blk.on T3 hb
  replace T5 := Blk.on T5 hb
  replace hT := hT.onD hb
  replace hP := hP.on hb
  clear hb
  have T1_0 := Blk.cell T1 0 rfl
  have T1_1 := Blk.cell T1 1 rfl
  have T1_2 := Blk.cell T1 2 rfl
  have T1_f0 := Blk.free T1 0
  have T1_f1 := Blk.free T1 1
  have T1_f2 := Blk.free T1 2
  have T3_0 := Blk.cell T3 0 rfl
  have T3_1 := Blk.cell T3 1 rfl
  have T3_2 := Blk.cell T3 2 rfl
  have T3_f0 := Blk.free T3 0
  have T3_f1 := Blk.free T3 1
  have T3_f2 := Blk.free T3 2
  have T5_0 := Blk.cell T5 0 rfl
  have T5_1 := Blk.cell T5 1 rfl
  have T5_2 := Blk.cell T5 2 rfl
  have T5_f0 := Blk.free T5 0
  have T5_f1 := Blk.free T5 1
  have T5_f2 := Blk.free T5 2
  go_wp2_with fail
  have p12 := dWhole_any 3 hT (by decide) (by decide)
  rw [kW3_is] at p12
  with_reducible refine p12.mono ?_
  rintro e w12 ⟨bp, lp, Ap, cp, xp, rfl, dp, mp, hb⟩
  clear p12
  clear T1_0 T1_1 T1_2 T1_f0 T1_f1 T1_f2
  clear T3_0 T3_1 T3_2 T3_f0 T3_f1 T3_f2
  clear T5_0 T5_1 T5_2 T5_f0 T5_f1 T5_f2
  have hs12 := hb.size
  try simp only [World.size_alloc] at hs12
  replace bw : Below w.heap.size w w12 := dy_end (by go_grown) hb
  replace mn := Lv.on mn hb
  replace ma := Lv.on ma hb
  replace me := Lv.on me hb
  replace mf := Lv.on mf hb
  replace mg := Lv.on mg hb
  replace mh := Lv.on mh hb
  replace mi := Lv.on mi hb
  replace mj := Lv.on mj hb
  replace mk := Lv.on mk hb
  replace moo := Lv.on moo hb
  replace T1 := Blk.on T1 hb
  replace T3 := Blk.on T3 hb
  replace T5 := Blk.on T5 hb
  replace hT := hT.onD hb
  replace hP := hP.on hb
  clear hb
  have T1_0 := Blk.cell T1 0 rfl
  have T1_1 := Blk.cell T1 1 rfl
  have T1_2 := Blk.cell T1 2 rfl
  have T1_f0 := Blk.free T1 0
  have T1_f1 := Blk.free T1 1
  have T1_f2 := Blk.free T1 2
  have T3_0 := Blk.cell T3 0 rfl
  have T3_1 := Blk.cell T3 1 rfl
  have T3_2 := Blk.cell T3 2 rfl
  have T3_f0 := Blk.free T3 0
  have T3_f1 := Blk.free T3 1
  have T3_f2 := Blk.free T3 2
  have T5_0 := Blk.cell T5 0 rfl
  have T5_1 := Blk.cell T5 1 rfl
  have T5_2 := Blk.cell T5 2 rfl
  have T5_f0 := Blk.free T5 0
  have T5_f1 := Blk.free T5 1
  have T5_f2 := Blk.free T5 2
  go_wp2_with fail
  have p13 := dSub_dn doo moo dp mp hT (okE_dn doo (by decide)) (okE_dn dp (by decide)) (.inr near_3)
  rw [diff_3] at p13
  with_reducible refine p13.mono ?_
  rintro e w13 ⟨bq, lq, Aq, cq, xq, rfl, dq, mq, hb⟩
  clear p13
  clear T1_0 T1_1 T1_2 T1_f0 T1_f1 T1_f2
  clear T3_0 T3_1 T3_2 T3_f0 T3_f1 T3_f2
  clear T5_0 T5_1 T5_2 T5_f0 T5_f1 T5_f2
  have hs13 := hb.size
  try simp only [World.size_alloc] at hs13
  replace bw : Below w.heap.size w w13 := dy_end (by go_grown) hb
  replace mn := Lv.on mn hb
  replace ma := Lv.on ma hb
  replace me := Lv.on me hb
  replace mf := Lv.on mf hb
  replace mg := Lv.on mg hb
  replace mh := Lv.on mh hb
  replace mi := Lv.on mi hb
  replace mj := Lv.on mj hb
  replace mk := Lv.on mk hb
  replace moo := Lv.on moo hb
  replace mp := Lv.on mp hb
  replace T1 := Blk.on T1 hb
  replace T3 := Blk.on T3 hb
  replace T5 := Blk.on T5 hb
  replace hT := hT.onD hb
  replace hP := hP.on hb
  clear hb
  have T1_0 := Blk.cell T1 0 rfl
  have T1_1 := Blk.cell T1 1 rfl
  have T1_2 := Blk.cell T1 2 rfl
  have T1_f0 := Blk.free T1 0
  have T1_f1 := Blk.free T1 1
  have T1_f2 := Blk.free T1 2
  have T3_0 := Blk.cell T3 0 rfl
  have T3_1 := Blk.cell T3 1 rfl
  have T3_2 := Blk.cell T3 2 rfl
  have T3_f0 := Blk.free T3 0
  have T3_f1 := Blk.free T3 1
  have T3_f2 := Blk.free T3 2
  have T5_0 := Blk.cell T5 0 rfl
  have T5_1 := Blk.cell T5 1 rfl
  have T5_2 := Blk.cell T5 2 rfl
  have T5_f0 := Blk.free T5 0
  have T5_f1 := Blk.free T5 1
  have T5_f2 := Blk.free T5 2
  replace mn := Lv.alloc mn (.cells #[.bool bq, .slice Aq lq.length cq, .int .i64 xq] 24)
  replace ma := Lv.alloc ma (.cells #[.bool bq, .slice Aq lq.length cq, .int .i64 xq] 24)
  replace me := Lv.alloc me (.cells #[.bool bq, .slice Aq lq.length cq, .int .i64 xq] 24)
  replace mf := Lv.alloc mf (.cells #[.bool bq, .slice Aq lq.length cq, .int .i64 xq] 24)
  replace mg := Lv.alloc mg (.cells #[.bool bq, .slice Aq lq.length cq, .int .i64 xq] 24)
  replace mh := Lv.alloc mh (.cells #[.bool bq, .slice Aq lq.length cq, .int .i64 xq] 24)
  replace mi := Lv.alloc mi (.cells #[.bool bq, .slice Aq lq.length cq, .int .i64 xq] 24)
  replace mj := Lv.alloc mj (.cells #[.bool bq, .slice Aq lq.length cq, .int .i64 xq] 24)
  replace mk := Lv.alloc mk (.cells #[.bool bq, .slice Aq lq.length cq, .int .i64 xq] 24)
  replace moo := Lv.alloc moo (.cells #[.bool bq, .slice Aq lq.length cq, .int .i64 xq] 24)
  replace mp := Lv.alloc mp (.cells #[.bool bq, .slice Aq lq.length cq, .int .i64 xq] 24)
  replace mq := Lv.alloc mq (.cells #[.bool bq, .slice Aq lq.length cq, .int .i64 xq] 24)
  replace T1 := Blk.alloc T1 (.cells #[.bool bq, .slice Aq lq.length cq, .int .i64 xq] 24)
  replace T3 := Blk.alloc T3 (.cells #[.bool bq, .slice Aq lq.length cq, .int .i64 xq] 24)
  replace T5 := Blk.alloc T5 (.cells #[.bool bq, .slice Aq lq.length cq, .int .i64 xq] 24)
  have T9 := Blk.new w13 [.bool bq, .slice Aq lq.length cq, .int .i64 xq] 24
  have T1_v3_0 := Blk.cell T1 0 rfl
  have T1_v3_1 := Blk.cell T1 1 rfl
  have T1_v3_2 := Blk.cell T1 2 rfl
  have T1_v3_f0 := Blk.free T1 0
  have T1_v3_f1 := Blk.free T1 1
  have T1_v3_f2 := Blk.free T1 2
  have T3_v4_0 := Blk.cell T3 0 rfl
  have T3_v4_1 := Blk.cell T3 1 rfl
  have T3_v4_2 := Blk.cell T3 2 rfl
  have T3_v4_f0 := Blk.free T3 0
  have T3_v4_f1 := Blk.free T3 1
  have T3_v4_f2 := Blk.free T3 2
  have T5_v5_0 := Blk.cell T5 0 rfl
  have T5_v5_1 := Blk.cell T5 1 rfl
  have T5_v5_2 := Blk.cell T5 2 rfl
  have T5_v5_f0 := Blk.free T5 0
  have T5_v5_f1 := Blk.free T5 1
  have T5_v5_f2 := Blk.free T5 2
  have T9_0 := Blk.cell T9 0 rfl
  have T9_1 := Blk.cell T9 1 rfl
  have T9_2 := Blk.cell T9 2 rfl
  have T9_f0 := Blk.free T9 0
  have T9_f1 := Blk.free T9 1
  have T9_f2 := Blk.free T9 2
  replace hT := hT.alD (.cells #[.bool bq, .slice Aq lq.length cq, .int .i64 xq] 24)
  replace hP := hP.on ((Below.refl _ _).alloc (Nat.le_refl _) (.cells #[.bool bq, .slice Aq lq.length cq, .int .i64 xq] 24))
  replace bw : Below w.heap.size w (w13.alloc (.cells #[.bool bq, .slice Aq lq.length cq, .int .i64 xq] 24)) := by go_grown
  go_wp2_with fail
  have p14 := lof_yes 4591870180066957722 (by decide) (by decide) hT
  rw [of_kTenth] at p14
  with_reducible refine p14.mono ?_
  rintro e w14 ⟨br, lr, Ar, cr, xr, rfl, dr, mr, hb⟩
  clear p14
  clear T1_0 T1_1 T1_2 T1_f0 T1_f1 T1_f2 T1_v3_0 T1_v3_1 T1_v3_2 T1_v3_f0 T1_v3_f1 T1_v3_f2
  clear T3_0 T3_1 T3_2 T3_f0 T3_f1 T3_f2 T3_v4_0 T3_v4_1 T3_v4_2 T3_v4_f0 T3_v4_f1 T3_v4_f2
  clear T5_0 T5_1 T5_2 T5_f0 T5_f1 T5_f2 T5_v5_0 T5_v5_1 T5_v5_2 T5_v5_f0 T5_v5_f1 T5_v5_f2
  clear T9_0 T9_1 T9_2 T9_f0 T9_f1 T9_f2
  have hs14 := hb.size
  try simp only [World.size_alloc] at hs14
  replace bw : Below w.heap.size w w14 := dy_end (by go_grown) hb
  replace mn := Lv.on mn hb
  replace ma := Lv.on ma hb
  replace me := Lv.on me hb
  replace mf := Lv.on mf hb
  replace mg := Lv.on mg hb
  replace mh := Lv.on mh hb
  replace mi := Lv.on mi hb
  replace mj := Lv.on mj hb
  replace mk := Lv.on mk hb
  replace moo := Lv.on moo hb
  replace mp := Lv.on mp hb
  replace mq := Lv.on mq hb
  replace T1 := Blk.on T1 hb
  replace T3 := Blk.on T3 hb
  replace T5 := Blk.on T5 hb
  replace T9 := Blk.on T9 hb
  replace hT := hT.onD hb
  replace hP := hP.on hb
  clear hb
  have T1_0 := Blk.cell T1 0 rfl
  have T1_1 := Blk.cell T1 1 rfl
  have T1_2 := Blk.cell T1 2 rfl
  have T1_f0 := Blk.free T1 0
  have T1_f1 := Blk.free T1 1
  have T1_f2 := Blk.free T1 2
  have T3_0 := Blk.cell T3 0 rfl
  have T3_1 := Blk.cell T3 1 rfl
  have T3_2 := Blk.cell T3 2 rfl
  have T3_f0 := Blk.free T3 0
  have T3_f1 := Blk.free T3 1
  have T3_f2 := Blk.free T3 2
  have T5_0 := Blk.cell T5 0 rfl
  have T5_1 := Blk.cell T5 1 rfl
  have T5_2 := Blk.cell T5 2 rfl
  have T5_f0 := Blk.free T5 0
  have T5_f1 := Blk.free T5 1
  have T5_f2 := Blk.free T5 2
  have T9_0 := Blk.cell T9 0 rfl
  have T9_1 := Blk.cell T9 1 rfl
  have T9_2 := Blk.cell T9 2 rfl
  have T9_f0 := Blk.free T9 0
  have T9_f1 := Blk.free T9 1
  have T9_f2 := Blk.free T9 2
  go_wp2_with fail
  have p15 := dWhole_any 10 hT (by decide) (by decide)
  rw [kTen_is] at p15
  with_reducible refine p15.mono ?_
  rintro e w15 ⟨bs, ls, As, cs, xs, rfl, ds, ms, hb⟩
  clear p15
  clear T1_0 T1_1 T1_2 T1_f0 T1_f1 T1_f2
  clear T3_0 T3_1 T3_2 T3_f0 T3_f1 T3_f2
  clear T5_0 T5_1 T5_2 T5_f0 T5_f1 T5_f2
  clear T9_0 T9_1 T9_2 T9_f0 T9_f1 T9_f2
  have hs15 := hb.size
  try simp only [World.size_alloc] at hs15
  replace bw : Below w.heap.size w w15 := dy_end (by go_grown) hb
  replace mn := Lv.on mn hb
  replace ma := Lv.on ma hb
  replace me := Lv.on me hb
  replace mf := Lv.on mf hb
  replace mg := Lv.on mg hb
  replace mh := Lv.on mh hb
  replace mi := Lv.on mi hb
  replace mj := Lv.on mj hb
  replace mk := Lv.on mk hb
  replace moo := Lv.on moo hb
  replace mp := Lv.on mp hb
  replace mq := Lv.on mq hb
  replace mr := Lv.on mr hb
  replace T1 := Blk.on T1 hb
  replace T3 := Blk.on T3 hb
  replace T5 := Blk.on T5 hb
  replace T9 := Blk.on T9 hb
  replace hT := hT.onD hb
  replace hP := hP.on hb
  clear hb
  have T1_0 := Blk.cell T1 0 rfl
  have T1_1 := Blk.cell T1 1 rfl
  have T1_2 := Blk.cell T1 2 rfl
  have T1_f0 := Blk.free T1 0
  have T1_f1 := Blk.free T1 1
  have T1_f2 := Blk.free T1 2
  have T3_0 := Blk.cell T3 0 rfl
  have T3_1 := Blk.cell T3 1 rfl
  have T3_2 := Blk.cell T3 2 rfl
  have T3_f0 := Blk.free T3 0
  have T3_f1 := Blk.free T3 1
  have T3_f2 := Blk.free T3 2
  have T5_0 := Blk.cell T5 0 rfl
  have T5_1 := Blk.cell T5 1 rfl
  have T5_2 := Blk.cell T5 2 rfl
  have T5_f0 := Blk.free T5 0
  have T5_f1 := Blk.free T5 1
  have T5_f2 := Blk.free T5 2
  have T9_0 := Blk.cell T9 0 rfl
  have T9_1 := Blk.cell T9 1 rfl
  have T9_2 := Blk.cell T9 2 rfl
  have T9_f0 := Blk.free T9 0
  have T9_f1 := Blk.free T9 1
  have T9_f2 := Blk.free T9 2
  go_wp2_with fail
  have p16 := dMul_dn dr mr ds ms hT (okE_dn dr (by decide)) (okE_dn ds (by decide)) (small_pow (by decide))
  rw [prod_10] at p16
  with_reducible refine p16.mono ?_
  rintro e w16 ⟨bt, lt, At, ct, xt, rfl, dt, mt, hb⟩
  clear p16
  clear T1_0 T1_1 T1_2 T1_f0 T1_f1 T1_f2
  clear T3_0 T3_1 T3_2 T3_f0 T3_f1 T3_f2
  clear T5_0 T5_1 T5_2 T5_f0 T5_f1 T5_f2
  clear T9_0 T9_1 T9_2 T9_f0 T9_f1 T9_f2
  have hs16 := hb.size
  try simp only [World.size_alloc] at hs16
  replace bw : Below w.heap.size w w16 := dy_end (by go_grown) hb
  replace mn := Lv.on mn hb
  replace ma := Lv.on ma hb
  replace me := Lv.on me hb
  replace mf := Lv.on mf hb
  replace mg := Lv.on mg hb
  replace mh := Lv.on mh hb
  replace mi := Lv.on mi hb
  replace mj := Lv.on mj hb
  replace mk := Lv.on mk hb
  replace moo := Lv.on moo hb
  replace mp := Lv.on mp hb
  replace mq := Lv.on mq hb
  replace mr := Lv.on mr hb
  replace ms := Lv.on ms hb
  replace T1 := Blk.on T1 hb
  replace T3 := Blk.on T3 hb
  replace T5 := Blk.on T5 hb
  replace T9 := Blk.on T9 hb
  replace hT := hT.onD hb
  replace hP := hP.on hb
  clear hb
  have T1_0 := Blk.cell T1 0 rfl
  have T1_1 := Blk.cell T1 1 rfl
  have T1_2 := Blk.cell T1 2 rfl
  have T1_f0 := Blk.free T1 0
  have T1_f1 := Blk.free T1 1
  have T1_f2 := Blk.free T1 2
  have T3_0 := Blk.cell T3 0 rfl
  have T3_1 := Blk.cell T3 1 rfl
  have T3_2 := Blk.cell T3 2 rfl
  have T3_f0 := Blk.free T3 0
  have T3_f1 := Blk.free T3 1
  have T3_f2 := Blk.free T3 2
  have T5_0 := Blk.cell T5 0 rfl
  have T5_1 := Blk.cell T5 1 rfl
  have T5_2 := Blk.cell T5 2 rfl
  have T5_f0 := Blk.free T5 0
  have T5_f1 := Blk.free T5 1
  have T5_f2 := Blk.free T5 2
  have T9_0 := Blk.cell T9 0 rfl
  have T9_1 := Blk.cell T9 1 rfl
  have T9_2 := Blk.cell T9 2 rfl
  have T9_f0 := Blk.free T9 0
  have T9_f1 := Blk.free T9 1
  have T9_f2 := Blk.free T9 2
  replace mn := Lv.alloc mn (.cells #[.bool bt, .slice At lt.length ct, .int .i64 xt] 24)
  replace ma := Lv.alloc ma (.cells #[.bool bt, .slice At lt.length ct, .int .i64 xt] 24)
  replace me := Lv.alloc me (.cells #[.bool bt, .slice At lt.length ct, .int .i64 xt] 24)
  replace mf := Lv.alloc mf (.cells #[.bool bt, .slice At lt.length ct, .int .i64 xt] 24)
  replace mg := Lv.alloc mg (.cells #[.bool bt, .slice At lt.length ct, .int .i64 xt] 24)
  replace mh := Lv.alloc mh (.cells #[.bool bt, .slice At lt.length ct, .int .i64 xt] 24)
  replace mi := Lv.alloc mi (.cells #[.bool bt, .slice At lt.length ct, .int .i64 xt] 24)
  replace mj := Lv.alloc mj (.cells #[.bool bt, .slice At lt.length ct, .int .i64 xt] 24)
  replace mk := Lv.alloc mk (.cells #[.bool bt, .slice At lt.length ct, .int .i64 xt] 24)
  replace moo := Lv.alloc moo (.cells #[.bool bt, .slice At lt.length ct, .int .i64 xt] 24)
  replace mp := Lv.alloc mp (.cells #[.bool bt, .slice At lt.length ct, .int .i64 xt] 24)
  replace mq := Lv.alloc mq (.cells #[.bool bt, .slice At lt.length ct, .int .i64 xt] 24)
  replace mr := Lv.alloc mr (.cells #[.bool bt, .slice At lt.length ct, .int .i64 xt] 24)
  replace ms := Lv.alloc ms (.cells #[.bool bt, .slice At lt.length ct, .int .i64 xt] 24)
  replace mt := Lv.alloc mt (.cells #[.bool bt, .slice At lt.length ct, .int .i64 xt] 24)
  replace T1 := Blk.alloc T1 (.cells #[.bool bt, .slice At lt.length ct, .int .i64 xt] 24)
  replace T3 := Blk.alloc T3 (.cells #[.bool bt, .slice At lt.length ct, .int .i64 xt] 24)
  replace T5 := Blk.alloc T5 (.cells #[.bool bt, .slice At lt.length ct, .int .i64 xt] 24)
  replace T9 := Blk.alloc T9 (.cells #[.bool bt, .slice At lt.length ct, .int .i64 xt] 24)
  have T11 := Blk.new w16 [.bool bt, .slice At lt.length ct, .int .i64 xt] 24
  have T1_v6_0 := Blk.cell T1 0 rfl
  have T1_v6_1 := Blk.cell T1 1 rfl
  have T1_v6_2 := Blk.cell T1 2 rfl
  have T1_v6_f0 := Blk.free T1 0
  have T1_v6_f1 := Blk.free T1 1
  have T1_v6_f2 := Blk.free T1 2
  have T3_v7_0 := Blk.cell T3 0 rfl
  have T3_v7_1 := Blk.cell T3 1 rfl
  have T3_v7_2 := Blk.cell T3 2 rfl
  have T3_v7_f0 := Blk.free T3 0
  have T3_v7_f1 := Blk.free T3 1
  have T3_v7_f2 := Blk.free T3 2
  have T5_v8_0 := Blk.cell T5 0 rfl
  have T5_v8_1 := Blk.cell T5 1 rfl
  have T5_v8_2 := Blk.cell T5 2 rfl
  have T5_v8_f0 := Blk.free T5 0
  have T5_v8_f1 := Blk.free T5 1
  have T5_v8_f2 := Blk.free T5 2
  have T9_v9_0 := Blk.cell T9 0 rfl
  have T9_v9_1 := Blk.cell T9 1 rfl
  have T9_v9_2 := Blk.cell T9 2 rfl
  have T9_v9_f0 := Blk.free T9 0
  have T9_v9_f1 := Blk.free T9 1
  have T9_v9_f2 := Blk.free T9 2
  have T11_0 := Blk.cell T11 0 rfl
  have T11_1 := Blk.cell T11 1 rfl
  have T11_2 := Blk.cell T11 2 rfl
  have T11_f0 := Blk.free T11 0
  have T11_f1 := Blk.free T11 1
  have T11_f2 := Blk.free T11 2
  replace hT := hT.alD (.cells #[.bool bt, .slice At lt.length ct, .int .i64 xt] 24)
  replace hP := hP.on ((Below.refl _ _).alloc (Nat.le_refl _) (.cells #[.bool bt, .slice At lt.length ct, .int .i64 xt] 24))
  replace bw : Below w.heap.size w (w16.alloc (.cells #[.bool bt, .slice At lt.length ct, .int .i64 xt] 24)) := by go_grown
  go_wp2_with fail
  have p17 := lhalf_any (-1075) (w16.alloc (.cells #[.bool bt, .slice At lt.length ct, .int .i64 xt] 24))
  rw [half_kH1075] at p17
  with_reducible refine p17.mono ?_
  rintro e w17 ⟨bu, lu, Au, cu, xu, rfl, du, mu, hb⟩
  clear p17
  clear T1_0 T1_1 T1_2 T1_f0 T1_f1 T1_f2 T1_v6_0 T1_v6_1 T1_v6_2 T1_v6_f0 T1_v6_f1 T1_v6_f2
  clear T3_0 T3_1 T3_2 T3_f0 T3_f1 T3_f2 T3_v7_0 T3_v7_1 T3_v7_2 T3_v7_f0 T3_v7_f1 T3_v7_f2
  clear T5_0 T5_1 T5_2 T5_f0 T5_f1 T5_f2 T5_v8_0 T5_v8_1 T5_v8_2 T5_v8_f0 T5_v8_f1 T5_v8_f2
  clear T9_0 T9_1 T9_2 T9_f0 T9_f1 T9_f2 T9_v9_0 T9_v9_1 T9_v9_2 T9_v9_f0 T9_v9_f1 T9_v9_f2
  clear T11_0 T11_1 T11_2 T11_f0 T11_f1 T11_f2
  have hs17 := hb.size
  try simp only [World.size_alloc] at hs17
  replace bw : Below w.heap.size w w17 := dy_end (by go_grown) hb
  replace mn := Lv.on mn hb
  replace ma := Lv.on ma hb
  replace me := Lv.on me hb
  replace mf := Lv.on mf hb
  replace mg := Lv.on mg hb
  replace mh := Lv.on mh hb
  replace mi := Lv.on mi hb
  replace mj := Lv.on mj hb
  replace mk := Lv.on mk hb
  replace moo := Lv.on moo hb
  replace mp := Lv.on mp hb
  replace mq := Lv.on mq hb
  replace mr := Lv.on mr hb
  replace ms := Lv.on ms hb
  replace mt := Lv.on mt hb
  replace T1 := Blk.on T1 hb
  replace T3 := Blk.on T3 hb
  replace T5 := Blk.on T5 hb
  replace T9 := Blk.on T9 hb
  replace T11 := Blk.on T11 hb
  replace hT := hT.onD hb
  replace hP := hP.on hb
  clear hb
  have T1_0 := Blk.cell T1 0 rfl
  have T1_1 := Blk.cell T1 1 rfl
  have T1_2 := Blk.cell T1 2 rfl
  have T1_f0 := Blk.free T1 0
  have T1_f1 := Blk.free T1 1
  have T1_f2 := Blk.free T1 2
  have T3_0 := Blk.cell T3 0 rfl
  have T3_1 := Blk.cell T3 1 rfl
  have T3_2 := Blk.cell T3 2 rfl
  have T3_f0 := Blk.free T3 0
  have T3_f1 := Blk.free T3 1
  have T3_f2 := Blk.free T3 2
  have T5_0 := Blk.cell T5 0 rfl
  have T5_1 := Blk.cell T5 1 rfl
  have T5_2 := Blk.cell T5 2 rfl
  have T5_f0 := Blk.free T5 0
  have T5_f1 := Blk.free T5 1
  have T5_f2 := Blk.free T5 2
  have T9_0 := Blk.cell T9 0 rfl
  have T9_1 := Blk.cell T9 1 rfl
  have T9_2 := Blk.cell T9 2 rfl
  have T9_f0 := Blk.free T9 0
  have T9_f1 := Blk.free T9 1
  have T9_f2 := Blk.free T9 2
  have T11_0 := Blk.cell T11 0 rfl
  have T11_1 := Blk.cell T11 1 rfl
  have T11_2 := Blk.cell T11 2 rfl
  have T11_f0 := Blk.free T11 0
  have T11_f1 := Blk.free T11 1
  have T11_f2 := Blk.free T11 2
  go_wp2_with fail
  have p18 := dNeg_dn du mu hT (okE_dn du (by decide))
  rw [neg_1075] at p18
  with_reducible refine p18.mono ?_
  rintro e w18 ⟨bv, lv, Av, cv, xv, rfl, dv, mv, hb⟩
  clear p18
  clear T1_0 T1_1 T1_2 T1_f0 T1_f1 T1_f2
  clear T3_0 T3_1 T3_2 T3_f0 T3_f1 T3_f2
  clear T5_0 T5_1 T5_2 T5_f0 T5_f1 T5_f2
  clear T9_0 T9_1 T9_2 T9_f0 T9_f1 T9_f2
  clear T11_0 T11_1 T11_2 T11_f0 T11_f1 T11_f2
  have hs18 := hb.size
  try simp only [World.size_alloc] at hs18
  replace bw : Below w.heap.size w w18 := dy_end (by go_grown) hb
  replace mn := Lv.on mn hb
  replace ma := Lv.on ma hb
  replace me := Lv.on me hb
  replace mf := Lv.on mf hb
  replace mg := Lv.on mg hb
  replace mh := Lv.on mh hb
  replace mi := Lv.on mi hb
  replace mj := Lv.on mj hb
  replace mk := Lv.on mk hb
  replace moo := Lv.on moo hb
  replace mp := Lv.on mp hb
  replace mq := Lv.on mq hb
  replace mr := Lv.on mr hb
  replace ms := Lv.on ms hb
  replace mt := Lv.on mt hb
  replace mu := Lv.on mu hb
  replace T1 := Blk.on T1 hb
  replace T3 := Blk.on T3 hb
  replace T5 := Blk.on T5 hb
  replace T9 := Blk.on T9 hb
  replace T11 := Blk.on T11 hb
  replace hT := hT.onD hb
  replace hP := hP.on hb
  clear hb
  have T1_0 := Blk.cell T1 0 rfl
  have T1_1 := Blk.cell T1 1 rfl
  have T1_2 := Blk.cell T1 2 rfl
  have T1_f0 := Blk.free T1 0
  have T1_f1 := Blk.free T1 1
  have T1_f2 := Blk.free T1 2
  have T3_0 := Blk.cell T3 0 rfl
  have T3_1 := Blk.cell T3 1 rfl
  have T3_2 := Blk.cell T3 2 rfl
  have T3_f0 := Blk.free T3 0
  have T3_f1 := Blk.free T3 1
  have T3_f2 := Blk.free T3 2
  have T5_0 := Blk.cell T5 0 rfl
  have T5_1 := Blk.cell T5 1 rfl
  have T5_2 := Blk.cell T5 2 rfl
  have T5_f0 := Blk.free T5 0
  have T5_f1 := Blk.free T5 1
  have T5_f2 := Blk.free T5 2
  have T9_0 := Blk.cell T9 0 rfl
  have T9_1 := Blk.cell T9 1 rfl
  have T9_2 := Blk.cell T9 2 rfl
  have T9_f0 := Blk.free T9 0
  have T9_f1 := Blk.free T9 1
  have T9_f2 := Blk.free T9 2
  have T11_0 := Blk.cell T11 0 rfl
  have T11_1 := Blk.cell T11 1 rfl
  have T11_2 := Blk.cell T11 2 rfl
  have T11_f0 := Blk.free T11 0
  have T11_f1 := Blk.free T11 1
  have T11_f2 := Blk.free T11 2
  replace mn := Lv.alloc mn (.cells #[.bool bv, .slice Av lv.length cv, .int .i64 xv] 24)
  replace ma := Lv.alloc ma (.cells #[.bool bv, .slice Av lv.length cv, .int .i64 xv] 24)
  replace me := Lv.alloc me (.cells #[.bool bv, .slice Av lv.length cv, .int .i64 xv] 24)
  replace mf := Lv.alloc mf (.cells #[.bool bv, .slice Av lv.length cv, .int .i64 xv] 24)
  replace mg := Lv.alloc mg (.cells #[.bool bv, .slice Av lv.length cv, .int .i64 xv] 24)
  replace mh := Lv.alloc mh (.cells #[.bool bv, .slice Av lv.length cv, .int .i64 xv] 24)
  replace mi := Lv.alloc mi (.cells #[.bool bv, .slice Av lv.length cv, .int .i64 xv] 24)
  replace mj := Lv.alloc mj (.cells #[.bool bv, .slice Av lv.length cv, .int .i64 xv] 24)
  replace mk := Lv.alloc mk (.cells #[.bool bv, .slice Av lv.length cv, .int .i64 xv] 24)
  replace moo := Lv.alloc moo (.cells #[.bool bv, .slice Av lv.length cv, .int .i64 xv] 24)
  replace mp := Lv.alloc mp (.cells #[.bool bv, .slice Av lv.length cv, .int .i64 xv] 24)
  replace mq := Lv.alloc mq (.cells #[.bool bv, .slice Av lv.length cv, .int .i64 xv] 24)
  replace mr := Lv.alloc mr (.cells #[.bool bv, .slice Av lv.length cv, .int .i64 xv] 24)
  replace ms := Lv.alloc ms (.cells #[.bool bv, .slice Av lv.length cv, .int .i64 xv] 24)
  replace mt := Lv.alloc mt (.cells #[.bool bv, .slice Av lv.length cv, .int .i64 xv] 24)
  replace mu := Lv.alloc mu (.cells #[.bool bv, .slice Av lv.length cv, .int .i64 xv] 24)
  replace mv := Lv.alloc mv (.cells #[.bool bv, .slice Av lv.length cv, .int .i64 xv] 24)
  replace T1 := Blk.alloc T1 (.cells #[.bool bv, .slice Av lv.length cv, .int .i64 xv] 24)
  replace T3 := Blk.alloc T3 (.cells #[.bool bv, .slice Av lv.length cv, .int .i64 xv] 24)
  replace T5 := Blk.alloc T5 (.cells #[.bool bv, .slice Av lv.length cv, .int .i64 xv] 24)
  replace T9 := Blk.alloc T9 (.cells #[.bool bv, .slice Av lv.length cv, .int .i64 xv] 24)
  replace T11 := Blk.alloc T11 (.cells #[.bool bv, .slice Av lv.length cv, .int .i64 xv] 24)
  have T13 := Blk.new w18 [.bool bv, .slice Av lv.length cv, .int .i64 xv] 24
  have T1_v10_0 := Blk.cell T1 0 rfl
  have T1_v10_1 := Blk.cell T1 1 rfl
  have T1_v10_2 := Blk.cell T1 2 rfl
  have T1_v10_f0 := Blk.free T1 0
  have T1_v10_f1 := Blk.free T1 1
  have T1_v10_f2 := Blk.free T1 2
  have T3_v11_0 := Blk.cell T3 0 rfl
  have T3_v11_1 := Blk.cell T3 1 rfl
  have T3_v11_2 := Blk.cell T3 2 rfl
  have T3_v11_f0 := Blk.free T3 0
  have T3_v11_f1 := Blk.free T3 1
  have T3_v11_f2 := Blk.free T3 2
  have T5_v12_0 := Blk.cell T5 0 rfl
  have T5_v12_1 := Blk.cell T5 1 rfl
  have T5_v12_2 := Blk.cell T5 2 rfl
  have T5_v12_f0 := Blk.free T5 0
  have T5_v12_f1 := Blk.free T5 1
  have T5_v12_f2 := Blk.free T5 2
  have T9_v13_0 := Blk.cell T9 0 rfl
  have T9_v13_1 := Blk.cell T9 1 rfl
  have T9_v13_2 := Blk.cell T9 2 rfl
  have T9_v13_f0 := Blk.free T9 0
  have T9_v13_f1 := Blk.free T9 1
  have T9_v13_f2 := Blk.free T9 2
  have T11_v14_0 := Blk.cell T11 0 rfl
  have T11_v14_1 := Blk.cell T11 1 rfl
  have T11_v14_2 := Blk.cell T11 2 rfl
  have T11_v14_f0 := Blk.free T11 0
  have T11_v14_f1 := Blk.free T11 1
  have T11_v14_f2 := Blk.free T11 2
  have T13_0 := Blk.cell T13 0 rfl
  have T13_1 := Blk.cell T13 1 rfl
  have T13_2 := Blk.cell T13 2 rfl
  have T13_f0 := Blk.free T13 0
  have T13_f1 := Blk.free T13 1
  have T13_f2 := Blk.free T13 2
  replace hT := hT.alD (.cells #[.bool bv, .slice Av lv.length cv, .int .i64 xv] 24)
  replace hP := hP.on ((Below.refl _ _).alloc (Nat.le_refl _) (.cells #[.bool bv, .slice Av lv.length cv, .int .i64 xv] 24))
  replace bw : Below w.heap.size w (w18.alloc (.cells #[.bool bv, .slice Av lv.length cv, .int .i64 xv] 24)) := by go_grown
  go_wp2_with fail
  have p19 := lof_yes 4602678819172646912 (by decide) (by decide) hT
  rw [of_kH1] at p19
  with_reducible refine p19.mono ?_
  rintro e w19 ⟨bya, lya, Aya, cya, xya, rfl, dya, mya, hb⟩
  clear p19
  clear T1_0 T1_1 T1_2 T1_f0 T1_f1 T1_f2 T1_v10_0 T1_v10_1 T1_v10_2 T1_v10_f0 T1_v10_f1 T1_v10_f2
  clear T3_0 T3_1 T3_2 T3_f0 T3_f1 T3_f2 T3_v11_0 T3_v11_1 T3_v11_2 T3_v11_f0 T3_v11_f1 T3_v11_f2
  clear T5_0 T5_1 T5_2 T5_f0 T5_f1 T5_f2 T5_v12_0 T5_v12_1 T5_v12_2 T5_v12_f0 T5_v12_f1 T5_v12_f2
  clear T9_0 T9_1 T9_2 T9_f0 T9_f1 T9_f2 T9_v13_0 T9_v13_1 T9_v13_2 T9_v13_f0 T9_v13_f1 T9_v13_f2
  clear T11_0 T11_1 T11_2 T11_f0 T11_f1 T11_f2 T11_v14_0 T11_v14_1 T11_v14_2 T11_v14_f0 T11_v14_f1 T11_v14_f2
  clear T13_0 T13_1 T13_2 T13_f0 T13_f1 T13_f2
  have hs19 := hb.size
  try simp only [World.size_alloc] at hs19
  replace bw : Below w.heap.size w w19 := dy_end (by go_grown) hb
  replace mn := Lv.on mn hb
  replace ma := Lv.on ma hb
  replace me := Lv.on me hb
  replace mf := Lv.on mf hb
  replace mg := Lv.on mg hb
  replace mh := Lv.on mh hb
  replace mi := Lv.on mi hb
  replace mj := Lv.on mj hb
  replace mk := Lv.on mk hb
  replace moo := Lv.on moo hb
  replace mp := Lv.on mp hb
  replace mq := Lv.on mq hb
  replace mr := Lv.on mr hb
  replace ms := Lv.on ms hb
  replace mt := Lv.on mt hb
  replace mu := Lv.on mu hb
  replace mv := Lv.on mv hb
  replace T1 := Blk.on T1 hb
  replace T3 := Blk.on T3 hb
  replace T5 := Blk.on T5 hb
  replace T9 := Blk.on T9 hb
  replace T11 := Blk.on T11 hb
  replace T13 := Blk.on T13 hb
  replace hT := hT.onD hb
  replace hP := hP.on hb
  clear hb
  have T1_0 := Blk.cell T1 0 rfl
  have T1_1 := Blk.cell T1 1 rfl
  have T1_2 := Blk.cell T1 2 rfl
  have T1_f0 := Blk.free T1 0
  have T1_f1 := Blk.free T1 1
  have T1_f2 := Blk.free T1 2
  have T3_0 := Blk.cell T3 0 rfl
  have T3_1 := Blk.cell T3 1 rfl
  have T3_2 := Blk.cell T3 2 rfl
  have T3_f0 := Blk.free T3 0
  have T3_f1 := Blk.free T3 1
  have T3_f2 := Blk.free T3 2
  have T5_0 := Blk.cell T5 0 rfl
  have T5_1 := Blk.cell T5 1 rfl
  have T5_2 := Blk.cell T5 2 rfl
  have T5_f0 := Blk.free T5 0
  have T5_f1 := Blk.free T5 1
  have T5_f2 := Blk.free T5 2
  have T9_0 := Blk.cell T9 0 rfl
  have T9_1 := Blk.cell T9 1 rfl
  have T9_2 := Blk.cell T9 2 rfl
  have T9_f0 := Blk.free T9 0
  have T9_f1 := Blk.free T9 1
  have T9_f2 := Blk.free T9 2
  have T11_0 := Blk.cell T11 0 rfl
  have T11_1 := Blk.cell T11 1 rfl
  have T11_2 := Blk.cell T11 2 rfl
  have T11_f0 := Blk.free T11 0
  have T11_f1 := Blk.free T11 1
  have T11_f2 := Blk.free T11 2
  have T13_0 := Blk.cell T13 0 rfl
  have T13_1 := Blk.cell T13 1 rfl
  have T13_2 := Blk.cell T13 2 rfl
  have T13_f0 := Blk.free T13 0
  have T13_f1 := Blk.free T13 1
  have T13_f2 := Blk.free T13 2
  go_wp2_with fail
  have p20 := ltext_B dya mya hT hP (okE_dn dya (by decide)) (b_dn dya rfl) (x_dn dya (by decide)) st_kH1
  with_reducible refine p20.mono ?_
  rintro e w20 ⟨rfl, hb⟩
  clear p20
  clear T1_0 T1_1 T1_2 T1_f0 T1_f1 T1_f2
  clear T3_0 T3_1 T3_2 T3_f0 T3_f1 T3_f2
  clear T5_0 T5_1 T5_2 T5_f0 T5_f1 T5_f2
  clear T9_0 T9_1 T9_2 T9_f0 T9_f1 T9_f2
  clear T11_0 T11_1 T11_2 T11_f0 T11_f1 T11_f2
  clear T13_0 T13_1 T13_2 T13_f0 T13_f1 T13_f2
  have hs20 := hb.size
  try simp only [World.size_alloc] at hs20
  replace bw : Below w.heap.size w w20 := dy_end (by go_grown) hb
  replace mn := Lv.on mn hb
  replace ma := Lv.on ma hb
  replace me := Lv.on me hb
  replace mf := Lv.on mf hb
  replace mg := Lv.on mg hb
  replace mh := Lv.on mh hb
  replace mi := Lv.on mi hb
  replace mj := Lv.on mj hb
  replace mk := Lv.on mk hb
  replace moo := Lv.on moo hb
  replace mp := Lv.on mp hb
  replace mq := Lv.on mq hb
  replace mr := Lv.on mr hb
  replace ms := Lv.on ms hb
  replace mt := Lv.on mt hb
  replace mu := Lv.on mu hb
  replace mv := Lv.on mv hb
  replace mya := Lv.on mya hb
  replace T1 := Blk.on T1 hb
  replace T3 := Blk.on T3 hb
  replace T5 := Blk.on T5 hb
  replace T9 := Blk.on T9 hb
  replace T11 := Blk.on T11 hb
  replace T13 := Blk.on T13 hb
  replace hT := hT.onD hb
  replace hP := hP.on hb
  clear hb
  have T1_0 := Blk.cell T1 0 rfl
  have T1_1 := Blk.cell T1 1 rfl
  have T1_2 := Blk.cell T1 2 rfl
  have T1_f0 := Blk.free T1 0
  have T1_f1 := Blk.free T1 1
  have T1_f2 := Blk.free T1 2
  have T3_0 := Blk.cell T3 0 rfl
  have T3_1 := Blk.cell T3 1 rfl
  have T3_2 := Blk.cell T3 2 rfl
  have T3_f0 := Blk.free T3 0
  have T3_f1 := Blk.free T3 1
  have T3_f2 := Blk.free T3 2
  have T5_0 := Blk.cell T5 0 rfl
  have T5_1 := Blk.cell T5 1 rfl
  have T5_2 := Blk.cell T5 2 rfl
  have T5_f0 := Blk.free T5 0
  have T5_f1 := Blk.free T5 1
  have T5_f2 := Blk.free T5 2
  have T9_0 := Blk.cell T9 0 rfl
  have T9_1 := Blk.cell T9 1 rfl
  have T9_2 := Blk.cell T9 2 rfl
  have T9_f0 := Blk.free T9 0
  have T9_f1 := Blk.free T9 1
  have T9_f2 := Blk.free T9 2
  have T11_0 := Blk.cell T11 0 rfl
  have T11_1 := Blk.cell T11 1 rfl
  have T11_2 := Blk.cell T11 2 rfl
  have T11_f0 := Blk.free T11 0
  have T11_f1 := Blk.free T11 1
  have T11_f2 := Blk.free T11 2
  have T13_0 := Blk.cell T13 0 rfl
  have T13_1 := Blk.cell T13 1 rfl
  have T13_2 := Blk.cell T13 2 rfl
  have T13_f0 := Blk.free T13 0
  have T13_f1 := Blk.free T13 1
  have T13_f2 := Blk.free T13 2
  go_wp2_with fail
  have p21 := lof_yes 13841813454723219456 (by decide) (by decide) hT
  rw [of_kSix] at p21
  with_reducible refine p21.mono ?_
  rintro e w21 ⟨byb, lyb, Ayb, cyb, xyb, rfl, dyb, myb, hb⟩
  clear p21
  clear T1_0 T1_1 T1_2 T1_f0 T1_f1 T1_f2
  clear T3_0 T3_1 T3_2 T3_f0 T3_f1 T3_f2
  clear T5_0 T5_1 T5_2 T5_f0 T5_f1 T5_f2
  clear T9_0 T9_1 T9_2 T9_f0 T9_f1 T9_f2
  clear T11_0 T11_1 T11_2 T11_f0 T11_f1 T11_f2
  clear T13_0 T13_1 T13_2 T13_f0 T13_f1 T13_f2
  have hs21 := hb.size
  try simp only [World.size_alloc] at hs21
  replace bw : Below w.heap.size w w21 := dy_end (by go_grown) hb
  replace mn := Lv.on mn hb
  replace ma := Lv.on ma hb
  replace me := Lv.on me hb
  replace mf := Lv.on mf hb
  replace mg := Lv.on mg hb
  replace mh := Lv.on mh hb
  replace mi := Lv.on mi hb
  replace mj := Lv.on mj hb
  replace mk := Lv.on mk hb
  replace moo := Lv.on moo hb
  replace mp := Lv.on mp hb
  replace mq := Lv.on mq hb
  replace mr := Lv.on mr hb
  replace ms := Lv.on ms hb
  replace mt := Lv.on mt hb
  replace mu := Lv.on mu hb
  replace mv := Lv.on mv hb
  replace mya := Lv.on mya hb
  replace T1 := Blk.on T1 hb
  replace T3 := Blk.on T3 hb
  replace T5 := Blk.on T5 hb
  replace T9 := Blk.on T9 hb
  replace T11 := Blk.on T11 hb
  replace T13 := Blk.on T13 hb
  replace hT := hT.onD hb
  replace hP := hP.on hb
  clear hb
  have T1_0 := Blk.cell T1 0 rfl
  have T1_1 := Blk.cell T1 1 rfl
  have T1_2 := Blk.cell T1 2 rfl
  have T1_f0 := Blk.free T1 0
  have T1_f1 := Blk.free T1 1
  have T1_f2 := Blk.free T1 2
  have T3_0 := Blk.cell T3 0 rfl
  have T3_1 := Blk.cell T3 1 rfl
  have T3_2 := Blk.cell T3 2 rfl
  have T3_f0 := Blk.free T3 0
  have T3_f1 := Blk.free T3 1
  have T3_f2 := Blk.free T3 2
  have T5_0 := Blk.cell T5 0 rfl
  have T5_1 := Blk.cell T5 1 rfl
  have T5_2 := Blk.cell T5 2 rfl
  have T5_f0 := Blk.free T5 0
  have T5_f1 := Blk.free T5 1
  have T5_f2 := Blk.free T5 2
  have T9_0 := Blk.cell T9 0 rfl
  have T9_1 := Blk.cell T9 1 rfl
  have T9_2 := Blk.cell T9 2 rfl
  have T9_f0 := Blk.free T9 0
  have T9_f1 := Blk.free T9 1
  have T9_f2 := Blk.free T9 2
  have T11_0 := Blk.cell T11 0 rfl
  have T11_1 := Blk.cell T11 1 rfl
  have T11_2 := Blk.cell T11 2 rfl
  have T11_f0 := Blk.free T11 0
  have T11_f1 := Blk.free T11 1
  have T11_f2 := Blk.free T11 2
  have T13_0 := Blk.cell T13 0 rfl
  have T13_1 := Blk.cell T13 1 rfl
  have T13_2 := Blk.cell T13 2 rfl
  have T13_f0 := Blk.free T13 0
  have T13_f1 := Blk.free T13 1
  have T13_f2 := Blk.free T13 2
  go_wp2_with fail
  have p22 := ltext_C dyb myb hT hP (okE_dn dyb (by decide)) (b_dn dyb rfl) (x_dn dyb (by decide)) st_kSix
  with_reducible refine p22.mono ?_
  rintro e w22 ⟨rfl, hb⟩
  clear p22
  clear T1_0 T1_1 T1_2 T1_f0 T1_f1 T1_f2
  clear T3_0 T3_1 T3_2 T3_f0 T3_f1 T3_f2
  clear T5_0 T5_1 T5_2 T5_f0 T5_f1 T5_f2
  clear T9_0 T9_1 T9_2 T9_f0 T9_f1 T9_f2
  clear T11_0 T11_1 T11_2 T11_f0 T11_f1 T11_f2
  clear T13_0 T13_1 T13_2 T13_f0 T13_f1 T13_f2
  have hs22 := hb.size
  try simp only [World.size_alloc] at hs22
  replace bw : Below w.heap.size w w22 := dy_end (by go_grown) hb
  replace mn := Lv.on mn hb
  replace ma := Lv.on ma hb
  replace me := Lv.on me hb
  replace mf := Lv.on mf hb
  replace mg := Lv.on mg hb
  replace mh := Lv.on mh hb
  replace mi := Lv.on mi hb
  replace mj := Lv.on mj hb
  replace mk := Lv.on mk hb
  replace moo := Lv.on moo hb
  replace mp := Lv.on mp hb
  replace mq := Lv.on mq hb
  replace mr := Lv.on mr hb
  replace ms := Lv.on ms hb
  replace mt := Lv.on mt hb
  replace mu := Lv.on mu hb
  replace mv := Lv.on mv hb
  replace mya := Lv.on mya hb
  replace myb := Lv.on myb hb
  replace T1 := Blk.on T1 hb
  replace T3 := Blk.on T3 hb
  replace T5 := Blk.on T5 hb
  replace T9 := Blk.on T9 hb
  replace T11 := Blk.on T11 hb
  replace T13 := Blk.on T13 hb
  replace hT := hT.onD hb
  replace hP := hP.on hb
  clear hb
  have T1_0 := Blk.cell T1 0 rfl
  have T1_1 := Blk.cell T1 1 rfl
  have T1_2 := Blk.cell T1 2 rfl
  have T1_f0 := Blk.free T1 0
  have T1_f1 := Blk.free T1 1
  have T1_f2 := Blk.free T1 2
  have T3_0 := Blk.cell T3 0 rfl
  have T3_1 := Blk.cell T3 1 rfl
  have T3_2 := Blk.cell T3 2 rfl
  have T3_f0 := Blk.free T3 0
  have T3_f1 := Blk.free T3 1
  have T3_f2 := Blk.free T3 2
  have T5_0 := Blk.cell T5 0 rfl
  have T5_1 := Blk.cell T5 1 rfl
  have T5_2 := Blk.cell T5 2 rfl
  have T5_f0 := Blk.free T5 0
  have T5_f1 := Blk.free T5 1
  have T5_f2 := Blk.free T5 2
  have T9_0 := Blk.cell T9 0 rfl
  have T9_1 := Blk.cell T9 1 rfl
  have T9_2 := Blk.cell T9 2 rfl
  have T9_f0 := Blk.free T9 0
  have T9_f1 := Blk.free T9 1
  have T9_f2 := Blk.free T9 2
  have T11_0 := Blk.cell T11 0 rfl
  have T11_1 := Blk.cell T11 1 rfl
  have T11_2 := Blk.cell T11 2 rfl
  have T11_f0 := Blk.free T11 0
  have T11_f1 := Blk.free T11 1
  have T11_f2 := Blk.free T11 2
  have T13_0 := Blk.cell T13 0 rfl
  have T13_1 := Blk.cell T13 1 rfl
  have T13_2 := Blk.cell T13 2 rfl
  have T13_f0 := Blk.free T13 0
  have T13_f1 := Blk.free T13 1
  have T13_f2 := Blk.free T13 2
  go_wp2_with fail
  with_reducible refine (k_Copysign _).mono ?_
  rintro e v1 ⟨rfl, rfl⟩
  go_wp2_with fail
  have p23 := lof_yes 9223372036854775808 (by decide) (by decide) hT
  rw [of_zero] at p23
  with_reducible refine p23.mono ?_
  rintro e w23 ⟨byc, lyc, Ayc, cyc, xyc, rfl, dyc, myc, hb⟩
  clear p23
  clear T1_0 T1_1 T1_2 T1_f0 T1_f1 T1_f2
  clear T3_0 T3_1 T3_2 T3_f0 T3_f1 T3_f2
  clear T5_0 T5_1 T5_2 T5_f0 T5_f1 T5_f2
  clear T9_0 T9_1 T9_2 T9_f0 T9_f1 T9_f2
  clear T11_0 T11_1 T11_2 T11_f0 T11_f1 T11_f2
  clear T13_0 T13_1 T13_2 T13_f0 T13_f1 T13_f2
  have hs23 := hb.size
  try simp only [World.size_alloc] at hs23
  replace bw : Below w.heap.size w w23 := dy_end (by go_grown) hb
  replace mn := Lv.on mn hb
  replace ma := Lv.on ma hb
  replace me := Lv.on me hb
  replace mf := Lv.on mf hb
  replace mg := Lv.on mg hb
  replace mh := Lv.on mh hb
  replace mi := Lv.on mi hb
  replace mj := Lv.on mj hb
  replace mk := Lv.on mk hb
  replace moo := Lv.on moo hb
  replace mp := Lv.on mp hb
  replace mq := Lv.on mq hb
  replace mr := Lv.on mr hb
  replace ms := Lv.on ms hb
  replace mt := Lv.on mt hb
  replace mu := Lv.on mu hb
  replace mv := Lv.on mv hb
  replace mya := Lv.on mya hb
  replace myb := Lv.on myb hb
  replace T1 := Blk.on T1 hb
  replace T3 := Blk.on T3 hb
  replace T5 := Blk.on T5 hb
  replace T9 := Blk.on T9 hb
  replace T11 := Blk.on T11 hb
  replace T13 := Blk.on T13 hb
  replace hT := hT.onD hb
  replace hP := hP.on hb
  clear hb
  have T1_0 := Blk.cell T1 0 rfl
  have T1_1 := Blk.cell T1 1 rfl
  have T1_2 := Blk.cell T1 2 rfl
  have T1_f0 := Blk.free T1 0
  have T1_f1 := Blk.free T1 1
  have T1_f2 := Blk.free T1 2
  have T3_0 := Blk.cell T3 0 rfl
  have T3_1 := Blk.cell T3 1 rfl
  have T3_2 := Blk.cell T3 2 rfl
  have T3_f0 := Blk.free T3 0
  have T3_f1 := Blk.free T3 1
  have T3_f2 := Blk.free T3 2
  have T5_0 := Blk.cell T5 0 rfl
  have T5_1 := Blk.cell T5 1 rfl
  have T5_2 := Blk.cell T5 2 rfl
  have T5_f0 := Blk.free T5 0
  have T5_f1 := Blk.free T5 1
  have T5_f2 := Blk.free T5 2
  have T9_0 := Blk.cell T9 0 rfl
  have T9_1 := Blk.cell T9 1 rfl
  have T9_2 := Blk.cell T9 2 rfl
  have T9_f0 := Blk.free T9 0
  have T9_f1 := Blk.free T9 1
  have T9_f2 := Blk.free T9 2
  have T11_0 := Blk.cell T11 0 rfl
  have T11_1 := Blk.cell T11 1 rfl
  have T11_2 := Blk.cell T11 2 rfl
  have T11_f0 := Blk.free T11 0
  have T11_f1 := Blk.free T11 1
  have T11_f2 := Blk.free T11 2
  have T13_0 := Blk.cell T13 0 rfl
  have T13_1 := Blk.cell T13 1 rfl
  have T13_2 := Blk.cell T13 2 rfl
  have T13_f0 := Blk.free T13 0
  have T13_f1 := Blk.free T13 1
  have T13_f2 := Blk.free T13 2
  go_wp2_with fail
  have p24 := ltext_A dyc myc hT (okE_dn dyc (by decide)) (b_dn dyc rfl) (x0_dn dyc rfl) st_zero
  with_reducible refine p24.mono ?_
  rintro e w24 ⟨rfl, hb⟩
  clear p24
  clear T1_0 T1_1 T1_2 T1_f0 T1_f1 T1_f2
  clear T3_0 T3_1 T3_2 T3_f0 T3_f1 T3_f2
  clear T5_0 T5_1 T5_2 T5_f0 T5_f1 T5_f2
  clear T9_0 T9_1 T9_2 T9_f0 T9_f1 T9_f2
  clear T11_0 T11_1 T11_2 T11_f0 T11_f1 T11_f2
  clear T13_0 T13_1 T13_2 T13_f0 T13_f1 T13_f2
  have hs24 := hb.size
  try simp only [World.size_alloc] at hs24
  replace bw : Below w.heap.size w w24 := dy_end (by go_grown) hb
  replace mn := Lv.on mn hb
  replace ma := Lv.on ma hb
  replace me := Lv.on me hb
  replace mf := Lv.on mf hb
  replace mg := Lv.on mg hb
  replace mh := Lv.on mh hb
  replace mi := Lv.on mi hb
  replace mj := Lv.on mj hb
  replace mk := Lv.on mk hb
  replace moo := Lv.on moo hb
  replace mp := Lv.on mp hb
  replace mq := Lv.on mq hb
  replace mr := Lv.on mr hb
  replace ms := Lv.on ms hb
  replace mt := Lv.on mt hb
  replace mu := Lv.on mu hb
  replace mv := Lv.on mv hb
  replace mya := Lv.on mya hb
  replace myb := Lv.on myb hb
  replace myc := Lv.on myc hb
  replace T1 := Blk.on T1 hb
  replace T3 := Blk.on T3 hb
  replace T5 := Blk.on T5 hb
  replace T9 := Blk.on T9 hb
  replace T11 := Blk.on T11 hb
  replace T13 := Blk.on T13 hb
  replace hT := hT.onD hb
  replace hP := hP.on hb
  clear hb
  have T1_0 := Blk.cell T1 0 rfl
  have T1_1 := Blk.cell T1 1 rfl
  have T1_2 := Blk.cell T1 2 rfl
  have T1_f0 := Blk.free T1 0
  have T1_f1 := Blk.free T1 1
  have T1_f2 := Blk.free T1 2
  have T3_0 := Blk.cell T3 0 rfl
  have T3_1 := Blk.cell T3 1 rfl
  have T3_2 := Blk.cell T3 2 rfl
  have T3_f0 := Blk.free T3 0
  have T3_f1 := Blk.free T3 1
  have T3_f2 := Blk.free T3 2
  have T5_0 := Blk.cell T5 0 rfl
  have T5_1 := Blk.cell T5 1 rfl
  have T5_2 := Blk.cell T5 2 rfl
  have T5_f0 := Blk.free T5 0
  have T5_f1 := Blk.free T5 1
  have T5_f2 := Blk.free T5 2
  have T9_0 := Blk.cell T9 0 rfl
  have T9_1 := Blk.cell T9 1 rfl
  have T9_2 := Blk.cell T9 2 rfl
  have T9_f0 := Blk.free T9 0
  have T9_f1 := Blk.free T9 1
  have T9_f2 := Blk.free T9 2
  have T11_0 := Blk.cell T11 0 rfl
  have T11_1 := Blk.cell T11 1 rfl
  have T11_2 := Blk.cell T11 2 rfl
  have T11_f0 := Blk.free T11 0
  have T11_f1 := Blk.free T11 1
  have T11_f2 := Blk.free T11 2
  have T13_0 := Blk.cell T13 0 rfl
  have T13_1 := Blk.cell T13 1 rfl
  have T13_2 := Blk.cell T13 2 rfl
  have T13_f0 := Blk.free T13 0
  have T13_f1 := Blk.free T13 1
  have T13_f2 := Blk.free T13 2
  go_wp2_with fail
  with_reducible refine (lnum_any 2 _).mono ?_
  rintro e v2 ⟨rfl, rfl⟩
  go_wp2_with fail
  refine wp_region_held_drew (S := fun w9 : World => Below w24.heap.size w24 w9) (by kernel_rfl) ((Below.refl _ _).drew) (fun hHeld => ?_)
  refine wpAnyH_take (i := 0) (v := ?v0) rfl (by kernel_rfl) (by kernel_rfl) (by kernel_rfl) (fun _ _ _ h => h) (Or.inl ⟨by rfl, ?hy0⟩) (by assumption) ?rest0
  case hy0 => (intro w hSw; clear hSw; go_simp; try with_reducible rfl)
  simp only [Act.put, List.setIfInBounds_toArray, List.set_cons_zero, List.set_cons_succ, List.getElem_toArray, List.getElem_cons_zero, List.getElem_cons_succ]
  refine wpAnyH_take (i := 1) (v := ?v1) rfl (by kernel_rfl) (by kernel_rfl) (by kernel_rfl) (fun _ _ _ h => h) (Or.inl ⟨by rfl, ?hy1⟩) (by assumption) ?rest1
  case hy1 => (intro w hSw; clear hSw; go_simp; try with_reducible rfl)
  simp only [Act.put, List.setIfInBounds_toArray, List.set_cons_zero, List.set_cons_succ, List.getElem_toArray, List.getElem_cons_zero, List.getElem_cons_succ]
  refine wpAnyH_take (i := 2) (v := ?v2) rfl (by kernel_rfl) (by kernel_rfl) (by kernel_rfl) (fun _ _ _ h => h) (Or.inl ⟨by rfl, ?hy2⟩) (by assumption) ?rest2
  case hy2 => (intro w hSw; have c0 := below_cell T3_0 hSw; have c1 := below_cell T3_1 hSw; have c2 := below_cell T3_2 hSw; clear hSw; go_simp; try with_reducible rfl)
  simp only [Act.put, List.setIfInBounds_toArray, List.set_cons_zero, List.set_cons_succ, List.getElem_toArray, List.getElem_cons_zero, List.getElem_cons_succ]
  refine wpAnyH_take (i := 3) (v := ?v3) rfl (by kernel_rfl) (by kernel_rfl) (by kernel_rfl) (fun _ _ _ h => h) (Or.inl ⟨by rfl, ?hy3⟩) (by assumption) ?rest3
  case hy3 => (intro w hSw; clear hSw; go_simp; try with_reducible rfl)
  simp only [Act.put, List.setIfInBounds_toArray, List.set_cons_zero, List.set_cons_succ, List.getElem_toArray, List.getElem_cons_zero, List.getElem_cons_succ]
  refine wpAnyH_ready (rs := [4]) (by kernel_rfl) (by simp) ?_
  refine AllReadyH.cons rfl (fun K hK => ?_) AllReadyH.nil
  go_simp
  with_reducible refine (ltext_B df (mf.on hHeld) (hT.onD hHeld) (hP.on hHeld) (okE_dn df (by decide)) (b_dn df rfl) (x_dn df (by decide)) st_kS60).mono ?_
  rintro e u4 ⟨rfl, hb⟩
  refine hK.out _ _ (dy_end hHeld hb) (fun hH => ?_)
  clear hK K hHeld hb
  have hHeld := hH
  clear hH
  try simp only [Act.put, List.setIfInBounds_toArray, List.set_cons_zero, List.set_cons_succ, List.getElem_toArray, List.getElem_cons_zero, List.getElem_cons_succ]
  refine wpAnyH_take (i := 5) (v := ?v5) rfl (by kernel_rfl) (by kernel_rfl) (by kernel_rfl) (fun _ _ _ h => h) (Or.inl ⟨by rfl, ?hy5⟩) (by assumption) ?rest5
  case hy5 => (intro w hSw; clear hSw; go_simp; try with_reducible rfl)
  simp only [Act.put, List.setIfInBounds_toArray, List.set_cons_zero, List.set_cons_succ, List.getElem_toArray, List.getElem_cons_zero, List.getElem_cons_succ]
  refine wpAnyH_take (i := 6) (v := ?v6) rfl (by kernel_rfl) (by kernel_rfl) (by kernel_rfl) (fun _ _ _ h => h) (Or.inl ⟨by rfl, ?hy6⟩) (by assumption) ?rest6
  case hy6 => (intro w hSw; clear hSw; go_simp; try with_reducible rfl)
  simp only [Act.put, List.setIfInBounds_toArray, List.set_cons_zero, List.set_cons_succ, List.getElem_toArray, List.getElem_cons_zero, List.getElem_cons_succ]
  refine wpAnyH_take (i := 7) (v := ?v7) rfl (by kernel_rfl) (by kernel_rfl) (by kernel_rfl) (fun _ _ _ h => h) (Or.inl ⟨by rfl, ?hy7⟩) (by assumption) ?rest7
  case hy7 => (intro w hSw; have c0 := below_cell T3_0 hSw; have c1 := below_cell T3_1 hSw; have c2 := below_cell T3_2 hSw; clear hSw; go_simp; try with_reducible rfl)
  simp only [Act.put, List.setIfInBounds_toArray, List.set_cons_zero, List.set_cons_succ, List.getElem_toArray, List.getElem_cons_zero, List.getElem_cons_succ]
  refine wpAnyH_take (i := 8) (v := ?v8) rfl (by kernel_rfl) (by kernel_rfl) (by kernel_rfl) (fun _ _ _ h => h) (Or.inl ⟨by rfl, ?hy8⟩) (by assumption) ?rest8
  case hy8 => (intro w hSw; clear hSw; go_simp; try with_reducible rfl)
  simp only [Act.put, List.setIfInBounds_toArray, List.set_cons_zero, List.set_cons_succ, List.getElem_toArray, List.getElem_cons_zero, List.getElem_cons_succ]
  refine wpAnyH_ready (rs := [9]) (by kernel_rfl) (by simp) ?_
  refine AllReadyH.cons rfl (fun K hK => ?_) AllReadyH.nil
  go_simp
  with_reducible refine (lfloat_true df (mf.on hHeld) (hT.onD hHeld) (okE_dn df (by decide)) fw_kS60).mono ?_
  rintro e u9 ⟨rfl, hb⟩
  refine hK.out _ _ (dy_end hHeld hb) (fun hH => ?_)
  clear hK K hHeld hb
  have hHeld := hH
  clear hH
  try simp only [Act.put, List.setIfInBounds_toArray, List.set_cons_zero, List.set_cons_succ, List.getElem_toArray, List.getElem_cons_zero, List.getElem_cons_succ]
  refine wpAnyH_take (i := 10) (v := ?v10) rfl (by kernel_rfl) (by kernel_rfl) (by kernel_rfl) (fun _ _ _ h => h) (Or.inl ⟨by rfl, ?hy10⟩) (by assumption) ?rest10
  case hy10 => (intro w hSw; clear hSw; go_simp; try with_reducible rfl)
  simp only [Act.put, List.setIfInBounds_toArray, List.set_cons_zero, List.set_cons_succ, List.getElem_toArray, List.getElem_cons_zero, List.getElem_cons_succ]
  refine wpAnyH_take (i := 11) (v := ?v11) rfl (by kernel_rfl) (by kernel_rfl) (by kernel_rfl) (fun _ _ _ h => h) (Or.inl ⟨by rfl, ?hy11⟩) (by assumption) ?rest11
  case hy11 => (intro w hSw; clear hSw; go_simp; try with_reducible rfl)
  simp only [Act.put, List.setIfInBounds_toArray, List.set_cons_zero, List.set_cons_succ, List.getElem_toArray, List.getElem_cons_zero, List.getElem_cons_succ]
  refine wpAnyH_take (i := 12) (v := ?v12) rfl (by kernel_rfl) (by kernel_rfl) (by kernel_rfl) (fun _ _ _ h => h) (Or.inl ⟨by rfl, ?hy12⟩) (by assumption) ?rest12
  case hy12 => (intro w hSw; have c0 := below_cell T5_0 hSw; have c1 := below_cell T5_1 hSw; have c2 := below_cell T5_2 hSw; clear hSw; go_simp; try with_reducible rfl)
  simp only [Act.put, List.setIfInBounds_toArray, List.set_cons_zero, List.set_cons_succ, List.getElem_toArray, List.getElem_cons_zero, List.getElem_cons_succ]
  refine wpAnyH_take (i := 13) (v := ?v13) rfl (by kernel_rfl) (by kernel_rfl) (by kernel_rfl) (fun _ _ _ h => h) (Or.inl ⟨by rfl, ?hy13⟩) (by assumption) ?rest13
  case hy13 => (intro w hSw; clear hSw; go_simp; try with_reducible rfl)
  simp only [Act.put, List.setIfInBounds_toArray, List.set_cons_zero, List.set_cons_succ, List.getElem_toArray, List.getElem_cons_zero, List.getElem_cons_succ]
  refine wpAnyH_ready (rs := [14]) (by kernel_rfl) (by simp) ?_
  refine AllReadyH.cons rfl (fun K hK => ?_) AllReadyH.nil
  go_simp
  with_reducible refine (lfloat_true di (mi.on hHeld) (hT.onD hHeld) (okE_dn di (by decide)) fw_kS53).mono ?_
  rintro e u14 ⟨rfl, hb⟩
  refine hK.out _ _ (dy_end hHeld hb) (fun hH => ?_)
  clear hK K hHeld hb
  have hHeld := hH
  clear hH
  try simp only [Act.put, List.setIfInBounds_toArray, List.set_cons_zero, List.set_cons_succ, List.getElem_toArray, List.getElem_cons_zero, List.getElem_cons_succ]
  refine wpAnyH_take (i := 15) (v := ?v15) rfl (by kernel_rfl) (by kernel_rfl) (by kernel_rfl) (fun _ _ _ h => h) (Or.inl ⟨by rfl, ?hy15⟩) (by assumption) ?rest15
  case hy15 => (intro w hSw; clear hSw; go_simp; try with_reducible rfl)
  simp only [Act.put, List.setIfInBounds_toArray, List.set_cons_zero, List.set_cons_succ, List.getElem_toArray, List.getElem_cons_zero, List.getElem_cons_succ]
  refine wpAnyH_take (i := 16) (v := ?v16) rfl (by kernel_rfl) (by kernel_rfl) (by kernel_rfl) (fun _ _ _ h => h) (Or.inl ⟨by rfl, ?hy16⟩) (by assumption) ?rest16
  case hy16 => (intro w hSw; clear hSw; go_simp; try with_reducible rfl)
  simp only [Act.put, List.setIfInBounds_toArray, List.set_cons_zero, List.set_cons_succ, List.getElem_toArray, List.getElem_cons_zero, List.getElem_cons_succ]
  refine wpAnyH_take (i := 17) (v := ?v17) rfl (by kernel_rfl) (by kernel_rfl) (by kernel_rfl) (fun _ _ _ h => h) (Or.inl ⟨by rfl, ?hy17⟩) (by assumption) ?rest17
  case hy17 => (intro w hSw; clear hSw; go_simp; try with_reducible rfl)
  simp only [Act.put, List.setIfInBounds_toArray, List.set_cons_zero, List.set_cons_succ, List.getElem_toArray, List.getElem_cons_zero, List.getElem_cons_succ]
  refine wpAnyH_take (i := 18) (v := ?v18) rfl (by kernel_rfl) (by kernel_rfl) (by kernel_rfl) (fun _ _ _ h => h) (Or.inl ⟨by rfl, ?hy18⟩) (by assumption) ?rest18
  case hy18 => (intro w hSw; clear hSw; go_simp; try with_reducible rfl)
  simp only [Act.put, List.setIfInBounds_toArray, List.set_cons_zero, List.set_cons_succ, List.getElem_toArray, List.getElem_cons_zero, List.getElem_cons_succ]
  refine wpAnyH_take (i := 19) (v := ?v19) rfl (by kernel_rfl) (by kernel_rfl) (by kernel_rfl) (fun _ _ _ h => h) (Or.inl ⟨by rfl, ?hy19⟩) (by assumption) ?rest19
  case hy19 => (intro w hSw; clear hSw; go_simp; try with_reducible rfl)
  simp only [Act.put, List.setIfInBounds_toArray, List.set_cons_zero, List.set_cons_succ, List.getElem_toArray, List.getElem_cons_zero, List.getElem_cons_succ]
  refine wpAnyH_take (i := 20) (v := ?v20) rfl (by kernel_rfl) (by kernel_rfl) (by kernel_rfl) (fun _ _ _ h => h) (Or.inl ⟨by rfl, ?hy20⟩) (by assumption) ?rest20
  case hy20 => (intro w hSw; clear hSw; go_simp; try with_reducible rfl)
  simp only [Act.put, List.setIfInBounds_toArray, List.set_cons_zero, List.set_cons_succ, List.getElem_toArray, List.getElem_cons_zero, List.getElem_cons_succ]
  refine wpAnyH_take (i := 21) (v := ?v21) rfl (by kernel_rfl) (by kernel_rfl) (by kernel_rfl) (fun _ _ _ h => h) (Or.inl ⟨by rfl, ?hy21⟩) (by assumption) ?rest21
  case hy21 => (intro w hSw; clear hSw; go_simp; try with_reducible rfl)
  simp only [Act.put, List.setIfInBounds_toArray, List.set_cons_zero, List.set_cons_succ, List.getElem_toArray, List.getElem_cons_zero, List.getElem_cons_succ]
  refine wpAnyH_ready (rs := [22]) (by kernel_rfl) (by simp) ?_
  refine AllReadyH.cons rfl (fun K hK => ?_) AllReadyH.nil
  go_simp
  with_reducible refine (lnum_any 0 _).mono ?_
  rintro e u22 ⟨rfl, rfl⟩
  refine hK.out _ _ (hHeld) (fun hH => ?_)
  clear hK K hHeld
  have hHeld := hH
  clear hH
  try simp only [Act.put, List.setIfInBounds_toArray, List.set_cons_zero, List.set_cons_succ, List.getElem_toArray, List.getElem_cons_zero, List.getElem_cons_succ]
  refine wpAnyH_take (i := 23) (v := ?v23) rfl (by kernel_rfl) (by kernel_rfl) (by kernel_rfl) (fun _ _ _ h => h) (Or.inl ⟨by rfl, ?hy23⟩) (by assumption) ?rest23
  case hy23 => (intro w hSw; clear hSw; go_simp; try with_reducible rfl)
  simp only [Act.put, List.setIfInBounds_toArray, List.set_cons_zero, List.set_cons_succ, List.getElem_toArray, List.getElem_cons_zero, List.getElem_cons_succ]
  refine wpAnyH_take (i := 24) (v := ?v24) rfl (by kernel_rfl) (by kernel_rfl) (by kernel_rfl) (fun _ _ _ h => h) (Or.inl ⟨by rfl, ?hy24⟩) (by assumption) ?rest24
  case hy24 => (intro w hSw; clear hSw; go_simp; try with_reducible rfl)
  simp only [Act.put, List.setIfInBounds_toArray, List.set_cons_zero, List.set_cons_succ, List.getElem_toArray, List.getElem_cons_zero, List.getElem_cons_succ]
  refine wpAnyH_take (i := 25) (v := ?v25) rfl (by kernel_rfl) (by kernel_rfl) (by kernel_rfl) (fun _ _ _ h => h) (Or.inl ⟨by rfl, ?hy25⟩) (by assumption) ?rest25
  case hy25 => (intro w hSw; clear hSw; go_simp; try with_reducible rfl)
  simp only [Act.put, List.setIfInBounds_toArray, List.set_cons_zero, List.set_cons_succ, List.getElem_toArray, List.getElem_cons_zero, List.getElem_cons_succ]
  refine wpAnyH_take (i := 26) (v := ?v26) rfl (by kernel_rfl) (by kernel_rfl) (by kernel_rfl) (fun _ _ _ h => h) (Or.inl ⟨by rfl, ?hy26⟩) (by assumption) ?rest26
  case hy26 => (intro w hSw; have c0 := below_cell T9_0 hSw; have c1 := below_cell T9_1 hSw; have c2 := below_cell T9_2 hSw; clear hSw; go_simp; try with_reducible rfl)
  simp only [Act.put, List.setIfInBounds_toArray, List.set_cons_zero, List.set_cons_succ, List.getElem_toArray, List.getElem_cons_zero, List.getElem_cons_succ]
  refine wpAnyH_take (i := 27) (v := ?v27) rfl (by kernel_rfl) (by kernel_rfl) (by kernel_rfl) (fun _ _ _ h => h) (Or.inl ⟨by rfl, ?hy27⟩) (by assumption) ?rest27
  case hy27 => (intro w hSw; clear hSw; go_simp; try with_reducible rfl)
  simp only [Act.put, List.setIfInBounds_toArray, List.set_cons_zero, List.set_cons_succ, List.getElem_toArray, List.getElem_cons_zero, List.getElem_cons_succ]
  refine wpAnyH_ready (rs := [28]) (by kernel_rfl) (by simp) ?_
  refine AllReadyH.cons rfl (fun K hK => ?_) AllReadyH.nil
  go_simp
  with_reducible refine (ltext_A dq (mq.on hHeld) (hT.onD hHeld) (okE_dn dq (by decide)) (b_dn dq rfl) (x0_dn dq rfl) st_zero).mono ?_
  rintro e u28 ⟨rfl, hb⟩
  refine hK.out _ _ (dy_end hHeld hb) (fun hH => ?_)
  clear hK K hHeld hb
  have hHeld := hH
  clear hH
  try simp only [Act.put, List.setIfInBounds_toArray, List.set_cons_zero, List.set_cons_succ, List.getElem_toArray, List.getElem_cons_zero, List.getElem_cons_succ]
  refine wpAnyH_take (i := 29) (v := ?v29) rfl (by kernel_rfl) (by kernel_rfl) (by kernel_rfl) (fun _ _ _ h => h) (Or.inl ⟨by rfl, ?hy29⟩) (by assumption) ?rest29
  case hy29 => (intro w hSw; clear hSw; go_simp; try with_reducible rfl)
  simp only [Act.put, List.setIfInBounds_toArray, List.set_cons_zero, List.set_cons_succ, List.getElem_toArray, List.getElem_cons_zero, List.getElem_cons_succ]
  refine wpAnyH_take (i := 30) (v := ?v30) rfl (by kernel_rfl) (by kernel_rfl) (by kernel_rfl) (fun _ _ _ h => h) (Or.inl ⟨by rfl, ?hy30⟩) (by assumption) ?rest30
  case hy30 => (intro w hSw; clear hSw; go_simp; try with_reducible rfl)
  simp only [Act.put, List.setIfInBounds_toArray, List.set_cons_zero, List.set_cons_succ, List.getElem_toArray, List.getElem_cons_zero, List.getElem_cons_succ]
  refine wpAnyH_take (i := 31) (v := ?v31) rfl (by kernel_rfl) (by kernel_rfl) (by kernel_rfl) (fun _ _ _ h => h) (Or.inl ⟨by rfl, ?hy31⟩) (by assumption) ?rest31
  case hy31 => (intro w hSw; have c0 := below_cell T11_0 hSw; have c1 := below_cell T11_1 hSw; have c2 := below_cell T11_2 hSw; clear hSw; go_simp; try with_reducible rfl)
  simp only [Act.put, List.setIfInBounds_toArray, List.set_cons_zero, List.set_cons_succ, List.getElem_toArray, List.getElem_cons_zero, List.getElem_cons_succ]
  refine wpAnyH_take (i := 32) (v := ?v32) rfl (by kernel_rfl) (by kernel_rfl) (by kernel_rfl) (fun _ _ _ h => h) (Or.inl ⟨by rfl, ?hy32⟩) (by assumption) ?rest32
  case hy32 => (intro w hSw; clear hSw; go_simp; try with_reducible rfl)
  simp only [Act.put, List.setIfInBounds_toArray, List.set_cons_zero, List.set_cons_succ, List.getElem_toArray, List.getElem_cons_zero, List.getElem_cons_succ]
  refine wpAnyH_ready (rs := [33]) (by kernel_rfl) (by simp) ?_
  refine AllReadyH.cons rfl (fun K hK => ?_) AllReadyH.nil
  go_simp
  with_reducible refine (ltext_B dt (mt.on hHeld) (hT.onD hHeld) (hP.on hHeld) (okE_dn dt (by decide)) (b_dn dt rfl) (x_dn dt (by decide)) st_kProd).mono ?_
  rintro e u33 ⟨rfl, hb⟩
  refine hK.out _ _ (dy_end hHeld hb) (fun hH => ?_)
  clear hK K hHeld hb
  have hHeld := hH
  clear hH
  try simp only [Act.put, List.setIfInBounds_toArray, List.set_cons_zero, List.set_cons_succ, List.getElem_toArray, List.getElem_cons_zero, List.getElem_cons_succ]
  refine wpAnyH_take (i := 34) (v := ?v34) rfl (by kernel_rfl) (by kernel_rfl) (by kernel_rfl) (fun _ _ _ h => h) (Or.inl ⟨by rfl, ?hy34⟩) (by assumption) ?rest34
  case hy34 => (intro w hSw; clear hSw; go_simp; try with_reducible rfl)
  simp only [Act.put, List.setIfInBounds_toArray, List.set_cons_zero, List.set_cons_succ, List.getElem_toArray, List.getElem_cons_zero, List.getElem_cons_succ]
  refine wpAnyH_take (i := 35) (v := ?v35) rfl (by kernel_rfl) (by kernel_rfl) (by kernel_rfl) (fun _ _ _ h => h) (Or.inl ⟨by rfl, ?hy35⟩) (by assumption) ?rest35
  case hy35 => (intro w hSw; clear hSw; go_simp; try with_reducible rfl)
  simp only [Act.put, List.setIfInBounds_toArray, List.set_cons_zero, List.set_cons_succ, List.getElem_toArray, List.getElem_cons_zero, List.getElem_cons_succ]
  refine wpAnyH_ready (rs := [36]) (by kernel_rfl) (by simp) ?_
  refine AllReadyH.cons rfl (fun K hK => ?_) AllReadyH.nil
  go_simp
  with_reducible refine ((half_kH1024 ▸ lhalf_any 1024 _ : Calls Tryz.prog 53 #[.int .i64 1024] _ (DyP kH1024 _))).mono ?_
  rintro e u36 ⟨bz, lz, Az, cz, xz, rfl, dz, mz, hb⟩
  refine hK.out _ _ (dy_end hHeld hb) (fun hH => ?_)
  clear hK K hHeld hb
  have hHeld := hH
  clear hH
  try simp only [Act.put, List.setIfInBounds_toArray, List.set_cons_zero, List.set_cons_succ, List.getElem_toArray, List.getElem_cons_zero, List.getElem_cons_succ]
  refine wpAnyH_ready (rs := [37]) (by kernel_rfl) (by simp) ?_
  refine AllReadyH.cons rfl (fun K hK => ?_) AllReadyH.nil
  go_simp
  with_reducible refine (k_Inf _).mono ?_
  rintro e u37 ⟨rfl, rfl⟩
  refine hK.out _ _ (hHeld) (fun hH => ?_)
  clear hK K hHeld
  have hHeld := hH
  clear hH
  try simp only [Act.put, List.setIfInBounds_toArray, List.set_cons_zero, List.set_cons_succ, List.getElem_toArray, List.getElem_cons_zero, List.getElem_cons_succ]
  refine wpAnyH_ready (rs := [38]) (by kernel_rfl) (by simp) ?_
  refine AllReadyH.cons rfl (fun K hK => ?_) AllReadyH.nil
  go_simp
  with_reducible refine (lfloat_true dz mz (hT.onD hHeld) (okE_dn dz (by decide)) fw_kH1024).mono ?_
  rintro e u38 ⟨rfl, hb⟩
  refine hK.out _ _ (dy_end hHeld hb) (fun hH => ?_)
  clear hK K hHeld hb
  have hHeld := hH
  clear hH
  try simp only [Act.put, List.setIfInBounds_toArray, List.set_cons_zero, List.set_cons_succ, List.getElem_toArray, List.getElem_cons_zero, List.getElem_cons_succ]
  refine wpAnyH_take (i := 39) (v := ?v39) rfl (by kernel_rfl) (by kernel_rfl) (by kernel_rfl) (fun _ _ _ h => h) (Or.inl ⟨by rfl, ?hy39⟩) (by assumption) ?rest39
  case hy39 => (intro w hSw; clear hSw; go_simp; try with_reducible rfl)
  simp only [Act.put, List.setIfInBounds_toArray, List.set_cons_zero, List.set_cons_succ, List.getElem_toArray, List.getElem_cons_zero, List.getElem_cons_succ]
  refine wpAnyH_take (i := 40) (v := ?v40) rfl (by kernel_rfl) (by kernel_rfl) (by kernel_rfl) (fun _ _ _ h => h) (Or.inl ⟨by rfl, ?hy40⟩) (by assumption) ?rest40
  case hy40 => (intro w hSw; clear hSw; go_simp; try with_reducible rfl)
  simp only [Act.put, List.setIfInBounds_toArray, List.set_cons_zero, List.set_cons_succ, List.getElem_toArray, List.getElem_cons_zero, List.getElem_cons_succ]
  refine wpAnyH_ready (rs := [41]) (by kernel_rfl) (by simp) ?_
  refine AllReadyH.cons rfl (fun K hK => ?_) AllReadyH.nil
  go_simp
  with_reducible refine ((half_kH1075 ▸ lhalf_any (-1075) _ : Calls Tryz.prog 53 #[.int .i64 (-1075)] _ (DyP kH1075 _))).mono ?_
  rintro e u41 ⟨bzz, lzz, Azz, czz, xzz, rfl, dzz, mzz, hb⟩
  refine hK.out _ _ (dy_end hHeld hb) (fun hH => ?_)
  clear hK K hHeld hb
  have hHeld := hH
  clear hH
  try simp only [Act.put, List.setIfInBounds_toArray, List.set_cons_zero, List.set_cons_succ, List.getElem_toArray, List.getElem_cons_zero, List.getElem_cons_succ]
  refine wpAnyH_ready (rs := [42]) (by kernel_rfl) (by simp) ?_
  refine AllReadyH.cons rfl (fun K hK => ?_) AllReadyH.nil
  go_simp
  with_reducible refine (lfloat_true dzz mzz (hT.onD hHeld) (okE_dn dzz (by decide)) fw_kH1075).mono ?_
  rintro e u42 ⟨rfl, hb⟩
  refine hK.out _ _ (dy_end hHeld hb) (fun hH => ?_)
  clear hK K hHeld hb
  have hHeld := hH
  clear hH
  try simp only [Act.put, List.setIfInBounds_toArray, List.set_cons_zero, List.set_cons_succ, List.getElem_toArray, List.getElem_cons_zero, List.getElem_cons_succ]
  refine wpAnyH_take (i := 43) (v := ?v43) rfl (by kernel_rfl) (by kernel_rfl) (by kernel_rfl) (fun _ _ _ h => h) (Or.inl ⟨by rfl, ?hy43⟩) (by assumption) ?rest43
  case hy43 => (intro w hSw; clear hSw; go_simp; try with_reducible rfl)
  simp only [Act.put, List.setIfInBounds_toArray, List.set_cons_zero, List.set_cons_succ, List.getElem_toArray, List.getElem_cons_zero, List.getElem_cons_succ]
  refine wpAnyH_take (i := 44) (v := ?v44) rfl (by kernel_rfl) (by kernel_rfl) (by kernel_rfl) (fun _ _ _ h => h) (Or.inl ⟨by rfl, ?hy44⟩) (by assumption) ?rest44
  case hy44 => (intro w hSw; clear hSw; go_simp; try with_reducible rfl)
  simp only [Act.put, List.setIfInBounds_toArray, List.set_cons_zero, List.set_cons_succ, List.getElem_toArray, List.getElem_cons_zero, List.getElem_cons_succ]
  refine wpAnyH_take (i := 45) (v := ?v45) rfl (by kernel_rfl) (by kernel_rfl) (by kernel_rfl) (fun _ _ _ h => h) (Or.inl ⟨by rfl, ?hy45⟩) (by assumption) ?rest45
  case hy45 => (intro w hSw; have c0 := below_cell T13_0 hSw; have c1 := below_cell T13_1 hSw; have c2 := below_cell T13_2 hSw; clear hSw; go_simp; try with_reducible rfl)
  simp only [Act.put, List.setIfInBounds_toArray, List.set_cons_zero, List.set_cons_succ, List.getElem_toArray, List.getElem_cons_zero, List.getElem_cons_succ]
  refine wpAnyH_take (i := 46) (v := ?v46) rfl (by kernel_rfl) (by kernel_rfl) (by kernel_rfl) (fun _ _ _ h => h) (Or.inl ⟨by rfl, ?hy46⟩) (by assumption) ?rest46
  case hy46 => (intro w hSw; clear hSw; go_simp; try with_reducible rfl)
  simp only [Act.put, List.setIfInBounds_toArray, List.set_cons_zero, List.set_cons_succ, List.getElem_toArray, List.getElem_cons_zero, List.getElem_cons_succ]
  refine wpAnyH_ready (rs := [47]) (by kernel_rfl) (by simp) ?_
  refine AllReadyH.cons rfl (fun K hK => ?_) AllReadyH.nil
  go_simp
  with_reducible refine (k_Copysign _).mono ?_
  rintro e u47 ⟨rfl, rfl⟩
  refine hK.out _ _ (hHeld) (fun hH => ?_)
  clear hK K hHeld
  have hHeld := hH
  clear hH
  try simp only [Act.put, List.setIfInBounds_toArray, List.set_cons_zero, List.set_cons_succ, List.getElem_toArray, List.getElem_cons_zero, List.getElem_cons_succ]
  refine wpAnyH_ready (rs := [48]) (by kernel_rfl) (by simp) ?_
  refine AllReadyH.cons rfl (fun K hK => ?_) AllReadyH.nil
  go_simp
  with_reducible refine (lfloat_true dv (mv.on hHeld) (hT.onD hHeld) (okE_dn dv (by decide)) fw_kN1075).mono ?_
  rintro e u48 ⟨rfl, hb⟩
  refine hK.out _ _ (dy_end hHeld hb) (fun hH => ?_)
  clear hK K hHeld hb
  have hHeld := hH
  clear hH
  try simp only [Act.put, List.setIfInBounds_toArray, List.set_cons_zero, List.set_cons_succ, List.getElem_toArray, List.getElem_cons_zero, List.getElem_cons_succ]
  refine wpAnyH_take (i := 49) (v := ?v49) rfl (by kernel_rfl) (by kernel_rfl) (by kernel_rfl) (fun _ _ _ h => h) (Or.inl ⟨by rfl, ?hy49⟩) (by assumption) ?rest49
  case hy49 => (intro w hSw; clear hSw; go_simp; try with_reducible rfl)
  simp only [Act.put, List.setIfInBounds_toArray, List.set_cons_zero, List.set_cons_succ, List.getElem_toArray, List.getElem_cons_zero, List.getElem_cons_succ]
  refine wpAnyH_take (i := 50) (v := ?v50) rfl (by kernel_rfl) (by kernel_rfl) (by kernel_rfl) (fun _ _ _ h => h) (Or.inl ⟨by rfl, ?hy50⟩) (by assumption) ?rest50
  case hy50 => (intro w hSw; clear hSw; go_simp; try with_reducible rfl)
  simp only [Act.put, List.setIfInBounds_toArray, List.set_cons_zero, List.set_cons_succ, List.getElem_toArray, List.getElem_cons_zero, List.getElem_cons_succ]
  refine wpAnyH_done (by kernel_rfl) ?_ _
  go_wp2_with fail
  go_ret
  exact ⟨rfl, dy_end bw hHeld⟩

end Go.Proofs.YtknomchkfamajaaGreatDoor
