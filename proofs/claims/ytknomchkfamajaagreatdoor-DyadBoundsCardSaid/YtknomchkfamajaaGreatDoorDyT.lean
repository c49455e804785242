/-
  Layer 3, walks, part fifteen: texts; a comparison by signs. (Written by wip/tools/gen_dyt.py.)
-/
import Derived.Test.YtknomchkfamajaaGreatDoorDyR
import Derived.Test.YtknomchkfamajaaGreatDoorDNG6
import Derived.Lib.AppendIntMem
import Derived.Lib.ItoaLen
namespace Go.Proofs.YtknomchkfamajaaGreatDoor
open Go.RowKit Go.Sort
set_option linter.unusedVariables false
set_option linter.unusedSimpArgs false

/-- the library's table of powers of ten -/
def PowT (w : World) : Prop := Lib.TabIs Tryz.prog w "internal/strconv.uint64pow10" .u64 Lib.pow10Tab
theorem PowT.on {w w' : World} (h : PowT w) (hb : Below w.heap.size w w') : PowT w' := Lib.tabBelow_of_tabIs h w' hb
theorem below_grown (w : World) (k : Nat) (os : Array Obj) : Below w.heap.size w (grow (w.drewN k) os) :=
  ⟨rfl, rfl, rfl, by simp [grow, World.drewN], fun j hj => by simp [grow, World.drewN, Array.getElem?_append, hj]⟩
section
variable {b : Bool} {A : Option Addr} {n c : Nat} {x : Int} {l : List Int} {w : World}
theorem itoa_any (x : Int) (x0 : -1048576 ≤ x) (x1 : x ≤ 1048576) (hP : PowT w) : Calls Tryz.prog 144 #[.int .i64 x] w fun e w' => e = .returned (.string ⟨(Lib.itoa x).toArray⟩) ∧ Below w.heap.size w w' := by
  refine (Tryz.strconv_Itoa x (by omega) (by omega) w hP).mono ?_
  rintro e w' ⟨rfl, k, os, rfl⟩
  exact ⟨rfl, below_grown w k os⟩
theorem txt_size (h : Lv w A n c l) (hn : n ≤ 4096) : (⟨(txt (val 18446744073709551616 l).toNat).toArray⟩ : ByteArray).size ≤ 100000 := by
  have h1 := digs_len78 h.2.2 (by rw [h.1]; exact hn)
  show (txt (val 18446744073709551616 l).toNat).toArray.size ≤ 100000
  rw [List.size_toArray]
  unfold txt
  split
  · simp
  · rw [List.length_reverse, List.length_map]
    omega
theorem ntext_lv (h : Lv w A n c l) (hn : n ≤ 4096) : Calls Tryz.prog 143 #[.slice A n c] w fun e w' => e = .returned (.tuple #[.string ⟨(txt (val 18446744073709551616 l).toNat).toArray⟩, .int .i64 0]) ∧ Below w.heap.size w w' := by
  have := Text_any A c l w h.2.1 h.2.2 (norm_le h.1 hn)
  rw [h.1] at this
  exact this
set_option maxRecDepth 100000 in
set_option maxHeartbeats 4000000 in
theorem written_A (h : Lv w A n c l) (hn : n ≤ 4096) :
    Calls Tryz.prog 126 #[.bool false, .slice A n c, .int .i64 0] w fun e w' => e = .returned (.tuple #[.string (⟨(txt (val 18446744073709551616 l).toNat).toArray⟩ : ByteArray), .int .i64 0]) ∧ Below w.heap.size w w' := by
  have bw : Below w.heap.size w w := Below.refl _ _
  have p1 := fun W (mm : Lv W A n c l) => ntext_lv mm hn
  have hS : (⟨(txt (val 18446744073709551616 l).toNat).toArray⟩ : ByteArray).size ≤ 100000 := txt_size h hn
  generalize (⟨(txt (val 18446744073709551616 l).toNat).toArray⟩ : ByteArray) = tS at p1 hS ⊢
  go_enter Tryz.func126, Tryz.ntmps126
  go_wp2_with fail
  with_reducible refine (p1 _ (h.on (by go_grown))).mono ?_
  rintro e w1 ⟨rfl, hb⟩
  have hs1 := hb.size
  try simp only [World.size_alloc, World.size_setCell] at hs1
  replace bw : Below w.heap.size w w1 := dy_end (by go_grown) hb
  clear hb
  go_wp2_with fail
  go_ret2
  exact ⟨rfl, by go_grown⟩

set_option maxRecDepth 100000 in
set_option maxHeartbeats 4000000 in
theorem written_B (h : Lv w A n c l) (hn : n ≤ 4096) (hP : PowT w) (x0 : -1048576 ≤ x) (x1 : x ≤ 1048576) (hx0 : x ≠ 0) :
    Calls Tryz.prog 126 #[.bool false, .slice A n c, .int .i64 x] w fun e w' => e = .returned (.tuple #[.string ((⟨(txt (val 18446744073709551616 l).toNat).toArray⟩ : ByteArray) ++ ((⟨#[112]⟩ ++ ⟨(Lib.itoa x).toArray⟩) : ByteArray)), .int .i64 0]) ∧ Below w.heap.size w w' := by
  have bw : Below w.heap.size w w := Below.refl _ _
  have hx : (x == 0) = false := beq_eq_false_iff_ne.2 hx0
  have p1 := fun W (mm : Lv W A n c l) => ntext_lv mm hn
  have hS : (⟨(txt (val 18446744073709551616 l).toNat).toArray⟩ : ByteArray).size ≤ 100000 := txt_size h hn
  generalize (⟨(txt (val 18446744073709551616 l).toNat).toArray⟩ : ByteArray) = tS at p1 hS ⊢
  have p2 := fun W (pp : PowT W) => itoa_any x x0 x1 pp
  have hI : (⟨(Lib.itoa x).toArray⟩ : ByteArray).size ≤ 21 := Lib.itoa_length_le x (by omega) (by omega)
  generalize (⟨(Lib.itoa x).toArray⟩ : ByteArray) = iS at p2 hI ⊢
  have z1 : ((⟨#[112]⟩ : ByteArray) ++ iS).size = 1 + iS.size := by rw [ByteArray.size_append]; rfl
  have z2 : ((⟨#[45]⟩ : ByteArray) ++ tS).size = 1 + tS.size := by rw [ByteArray.size_append]; rfl
  have z3 : (⟨#[112]⟩ : ByteArray).size = 1 := rfl
  have z4 : (⟨#[45]⟩ : ByteArray).size = 1 := rfl
  go_enter Tryz.func126, Tryz.ntmps126
  go_wp2_with fail
  with_reducible refine (p1 _ (h.on (by go_grown))).mono ?_
  rintro e w1 ⟨rfl, hb⟩
  have hs1 := hb.size
  try simp only [World.size_alloc, World.size_setCell] at hs1
  replace bw : Below w.heap.size w w1 := dy_end (by go_grown) hb
  clear hb
  go_wp2_with fail
  with_reducible refine (p2 _ (hP.on (by go_grown))).mono ?_
  rintro e w2 ⟨rfl, hb⟩
  have hs2 := hb.size
  try simp only [World.size_alloc, World.size_setCell] at hs2
  replace bw : Below w.heap.size w w2 := dy_end (by go_grown) hb
  clear hb
  go_wp2_with fail
  go_ret2
  exact ⟨rfl, by go_grown⟩

set_option maxRecDepth 100000 in
set_option maxHeartbeats 4000000 in
theorem written_C (h : Lv w A n c l) (hn : n ≤ 4096) (hP : PowT w) (x0 : -1048576 ≤ x) (x1 : x ≤ 1048576) (hx0 : x ≠ 0) :
    Calls Tryz.prog 126 #[.bool true, .slice A n c, .int .i64 x] w fun e w' => e = .returned (.tuple #[.string (((⟨#[45]⟩ : ByteArray) ++ (⟨(txt (val 18446744073709551616 l).toNat).toArray⟩ : ByteArray)) ++ ((⟨#[112]⟩ ++ ⟨(Lib.itoa x).toArray⟩) : ByteArray)), .int .i64 0]) ∧ Below w.heap.size w w' := by
  have bw : Below w.heap.size w w := Below.refl _ _
  have hx : (x == 0) = false := beq_eq_false_iff_ne.2 hx0
  have p1 := fun W (mm : Lv W A n c l) => ntext_lv mm hn
  have hS : (⟨(txt (val 18446744073709551616 l).toNat).toArray⟩ : ByteArray).size ≤ 100000 := txt_size h hn
  generalize (⟨(txt (val 18446744073709551616 l).toNat).toArray⟩ : ByteArray) = tS at p1 hS ⊢
  have p2 := fun W (pp : PowT W) => itoa_any x x0 x1 pp
  have hI : (⟨(Lib.itoa x).toArray⟩ : ByteArray).size ≤ 21 := Lib.itoa_length_le x (by omega) (by omega)
  generalize (⟨(Lib.itoa x).toArray⟩ : ByteArray) = iS at p2 hI ⊢
  have z1 : ((⟨#[112]⟩ : ByteArray) ++ iS).size = 1 + iS.size := by rw [ByteArray.size_append]; rfl
  have z2 : ((⟨#[45]⟩ : ByteArray) ++ tS).size = 1 + tS.size := by rw [ByteArray.size_append]; rfl
  have z3 : (⟨#[112]⟩ : ByteArray).size = 1 := rfl
  have z4 : (⟨#[45]⟩ : ByteArray).size = 1 := rfl
  go_enter Tryz.func126, Tryz.ntmps126
  go_wp2_with fail
  with_reducible refine (p1 _ (h.on (by go_grown))).mono ?_
  rintro e w1 ⟨rfl, hb⟩
  have hs1 := hb.size
  try simp only [World.size_alloc, World.size_setCell] at hs1
  replace bw : Below w.heap.size w w1 := dy_end (by go_grown) hb
  clear hb
  go_wp2_with fail
  with_reducible refine (p2 _ (hP.on (by go_grown))).mono ?_
  rintro e w2 ⟨rfl, hb⟩
  have hs2 := hb.size
  try simp only [World.size_alloc, World.size_setCell] at hs2
  replace bw : Below w.heap.size w w2 := dy_end (by go_grown) hb
  clear hb
  go_wp2_with fail
  go_ret2
  exact ⟨rfl, by go_grown⟩

set_option maxRecDepth 100000 in
set_option maxHeartbeats 4000000 in
theorem handed_text_A (h : Lv w A n c l) (hn : n ≤ 4096) (hT : Tab w) (ho : okE x = true) (hb3 : (nfl b (val 18446744073709551616 l) x).neg = false) (he : (nfl b (val 18446744073709551616 l) x).exp = 0) :
    Calls Tryz.prog 125 #[dyV b A n c x, .func (.func 126) #[] #[]] w fun e w' => e = .returned (.tuple #[.string (⟨(txt ((nfl b (val 18446744073709551616 l) x).man)).toArray⟩ : ByteArray), .int .i64 0]) ∧ Below w.heap.size w w' := by
  have PB := Blk.new w [.bool b, .slice A n c, .int .i64 x] 24
  have bw : Below w.heap.size w (w.alloc (.cells #[.bool b, .slice A n c, .int .i64 x] 24)) := by go_grown
  have PB_0 := Blk.cell PB 0 rfl
  have PB_1 := Blk.cell PB 1 rfl
  have PB_2 := Blk.cell PB 2 rfl
  have PB_f0 := Blk.free PB 0
  have PB_f1 := Blk.free PB 1
  have PB_f2 := Blk.free PB 2
  have HB := Lib.hid hb3
  have HE := Lib.hid he
  clear hb3 he
  obtain ⟨DD, hDD⟩ : ∃ DD, nfl b (val 18446744073709551616 l) x = DD := ⟨_, rfl⟩
  have p0 := fun W (mm : Lv W A n c l) (tt : Tab W) => dyTaken_yes (b := b) (x := x) mm hn tt ho
  have XB := fun b1 q x1 (hd : Dn b1 q x1 (nfl b (val 18446744073709551616 l) x)) => exp_bd h hn ho hd
  rw [hDD] at p0 HB HE XB ⊢
  clear hDD
  go_enter Tryz.func125, Tryz.ntmps125
  go_wp2_with fail
  with_reducible refine (p0 _ (h.on (by go_grown)) (hT.onD (by go_grown))).mono ?_
  rintro e w1 ⟨b3, q3, A3, c3, x3, rfl, hd3, m3, hb⟩
  clear PB_0 PB_1 PB_2 PB_f0 PB_f1 PB_f2
  have hs1 := hb.size
  try simp only [World.size_alloc, World.size_setCell] at hs1
  replace bw : Below w.heap.size w w1 := dy_end (by go_grown) hb
  replace PB := Blk.on PB hb
  clear hb
  have PB_0 := Blk.cell PB 0 rfl
  have PB_1 := Blk.cell PB 1 rfl
  have PB_2 := Blk.cell PB 2 rfl
  have PB_f0 := Blk.free PB 0
  have PB_f1 := Blk.free PB 1
  have PB_f2 := Blk.free PB 2
  replace m3 := Lv.put m3 PB (b3) (A3) (q3.length) (c3) (x3)
  replace PB := Dbx.put PB (b3) (A3) (q3.length) (c3) (x3)
  have X3 := XB _ _ _ hd3
  have hb9 : b3 = false := by rw [← hd3.neg]; exact HB.out
  have hx9 : x3 = 0 := by rw [← hd3.exp]; exact HE.out
  have t9 : (val 18446744073709551616 q3).toNat = DD.man := by have := hd3.man m3.2.2; omega
  have e9 : x3 = DD.exp := hd3.exp.symm
  subst hb9
  subst hx9
  have X9 := Lib.hid (And.intro X3 trivial)
  have E9 := Lib.hid (And.intro t9 e9)
  clear X3  e9 t9
  have p5 := fun W (mm : Lv W A3 q3.length c3 q3) => written_A mm (Dn.len hd3)
  rw [E9.out.1] at p5
  go_wp2_with fail
  with_reducible refine (p5 _ m3).mono ?_
  rintro e w2 ⟨rfl, hb⟩
  clear PB_0 PB_1 PB_2 PB_f0 PB_f1 PB_f2
  have hs2 := hb.size
  try simp only [World.size_alloc, World.size_setCell] at hs2
  replace bw : Below w.heap.size w w2 := dy_end (by go_grown) hb
  replace m3 := Lv.on m3 hb
  replace PB := Blk.on PB hb
  clear hb
  have PB_0 := Blk.cell PB 0 rfl
  have PB_1 := Blk.cell PB 1 rfl
  have PB_2 := Blk.cell PB 2 rfl
  have PB_f0 := Blk.free PB 0
  have PB_f1 := Blk.free PB 1
  have PB_f2 := Blk.free PB 2
  go_wp2_with fail
  go_ret2
  exact ⟨rfl, by go_grown⟩

set_option maxRecDepth 100000 in
set_option maxHeartbeats 4000000 in
theorem dText_A (h : Lv w A n c l) (hn : n ≤ 4096) (hT : Tab w) (ho : okE x = true) (hb3 : (nfl b (val 18446744073709551616 l) x).neg = false) (he : (nfl b (val 18446744073709551616 l) x).exp = 0) :
    Calls Tryz.prog 100 #[dyV b A n c x] w fun e w' => e = .returned (.tuple #[.string (⟨(txt ((nfl b (val 18446744073709551616 l) x).man)).toArray⟩ : ByteArray), .int .i64 0]) ∧ Below w.heap.size w w' := by
  have PB := Blk.new w [.bool b, .slice A n c, .int .i64 x] 24
  have bw : Below w.heap.size w (w.alloc (.cells #[.bool b, .slice A n c, .int .i64 x] 24)) := by go_grown
  have PB_0 := Blk.cell PB 0 rfl
  have PB_1 := Blk.cell PB 1 rfl
  have PB_2 := Blk.cell PB 2 rfl
  have PB_f0 := Blk.free PB 0
  have PB_f1 := Blk.free PB 1
  have PB_f2 := Blk.free PB 2
  have p0 := fun W (mm : Lv W A n c l) (tt : Tab W) => handed_text_A (b := b) (x := x) mm hn tt ho hb3 he
  generalize nfl b (val 18446744073709551616 l) x = DD at p0 ⊢
  clear hb3 he
  go_enter Tryz.func100, Tryz.ntmps100
  go_wp2_with fail
  with_reducible refine (p0 _ (h.on (by go_grown)) (hT.onD (by go_grown))).mono ?_
  rintro e w1 ⟨rfl, hb⟩
  clear PB_0 PB_1 PB_2 PB_f0 PB_f1 PB_f2
  have hs1 := hb.size
  try simp only [World.size_alloc, World.size_setCell] at hs1
  replace bw : Below w.heap.size w w1 := dy_end (by go_grown) hb
  replace PB := Blk.on PB hb
  clear hb
  have PB_0 := Blk.cell PB 0 rfl
  have PB_1 := Blk.cell PB 1 rfl
  have PB_2 := Blk.cell PB 2 rfl
  have PB_f0 := Blk.free PB 0
  have PB_f1 := Blk.free PB 1
  have PB_f2 := Blk.free PB 2
  go_wp2_with fail
  go_ret2
  exact ⟨rfl, by go_grown⟩

set_option maxRecDepth 100000 in
set_option maxHeartbeats 4000000 in
theorem handed_text_B (h : Lv w A n c l) (hn : n ≤ 4096) (hT : Tab w) (hP : PowT w) (ho : okE x = true) (hb3 : (nfl b (val 18446744073709551616 l) x).neg = false) (he : (nfl b (val 18446744073709551616 l) x).exp ≠ 0) :
    Calls Tryz.prog 125 #[dyV b A n c x, .func (.func 126) #[] #[]] w fun e w' => e = .returned (.tuple #[.string ((⟨(txt ((nfl b (val 18446744073709551616 l) x).man)).toArray⟩ : ByteArray) ++ ((⟨#[112]⟩ ++ ⟨(Lib.itoa (nfl b (val 18446744073709551616 l) x).exp).toArray⟩) : ByteArray)), .int .i64 0]) ∧ Below w.heap.size w w' := by
  have PB := Blk.new w [.bool b, .slice A n c, .int .i64 x] 24
  have bw : Below w.heap.size w (w.alloc (.cells #[.bool b, .slice A n c, .int .i64 x] 24)) := by go_grown
  have PB_0 := Blk.cell PB 0 rfl
  have PB_1 := Blk.cell PB 1 rfl
  have PB_2 := Blk.cell PB 2 rfl
  have PB_f0 := Blk.free PB 0
  have PB_f1 := Blk.free PB 1
  have PB_f2 := Blk.free PB 2
  have HB := Lib.hid hb3
  have HE := Lib.hid he
  clear hb3 he
  obtain ⟨DD, hDD⟩ : ∃ DD, nfl b (val 18446744073709551616 l) x = DD := ⟨_, rfl⟩
  have p0 := fun W (mm : Lv W A n c l) (tt : Tab W) => dyTaken_yes (b := b) (x := x) mm hn tt ho
  have XB := fun b1 q x1 (hd : Dn b1 q x1 (nfl b (val 18446744073709551616 l) x)) => exp_bd h hn ho hd
  rw [hDD] at p0 HB HE XB ⊢
  clear hDD
  go_enter Tryz.func125, Tryz.ntmps125
  go_wp2_with fail
  with_reducible refine (p0 _ (h.on (by go_grown)) (hT.onD (by go_grown))).mono ?_
  rintro e w1 ⟨b3, q3, A3, c3, x3, rfl, hd3, m3, hb⟩
  clear PB_0 PB_1 PB_2 PB_f0 PB_f1 PB_f2
  have hs1 := hb.size
  try simp only [World.size_alloc, World.size_setCell] at hs1
  replace bw : Below w.heap.size w w1 := dy_end (by go_grown) hb
  replace PB := Blk.on PB hb
  clear hb
  have PB_0 := Blk.cell PB 0 rfl
  have PB_1 := Blk.cell PB 1 rfl
  have PB_2 := Blk.cell PB 2 rfl
  have PB_f0 := Blk.free PB 0
  have PB_f1 := Blk.free PB 1
  have PB_f2 := Blk.free PB 2
  replace m3 := Lv.put m3 PB (b3) (A3) (q3.length) (c3) (x3)
  replace PB := Dbx.put PB (b3) (A3) (q3.length) (c3) (x3)
  have X3 := XB _ _ _ hd3
  have hb9 : b3 = false := by rw [← hd3.neg]; exact HB.out
  have hx9 : x3 ≠ 0 := by rw [← hd3.exp]; exact HE.out
  have t9 : (val 18446744073709551616 q3).toNat = DD.man := by have := hd3.man m3.2.2; omega
  have e9 : x3 = DD.exp := hd3.exp.symm
  subst hb9
  have X9 := Lib.hid (And.intro X3 hx9)
  have E9 := Lib.hid (And.intro t9 e9)
  clear X3 hx9 e9 t9
  have p5 := fun W (mm : Lv W A3 q3.length c3 q3) (pp : PowT W) => written_B (x := x3) mm (Dn.len hd3) pp X9.out.1.1 X9.out.1.2 X9.out.2
  rw [E9.out.1] at p5
  go_wp2_with fail
  with_reducible refine (p5 _ m3 (hP.on (by go_grown))).mono ?_
  rintro e w2 ⟨rfl, hb⟩
  clear PB_0 PB_1 PB_2 PB_f0 PB_f1 PB_f2
  have hs2 := hb.size
  try simp only [World.size_alloc, World.size_setCell] at hs2
  replace bw : Below w.heap.size w w2 := dy_end (by go_grown) hb
  replace m3 := Lv.on m3 hb
  replace PB := Blk.on PB hb
  clear hb
  have PB_0 := Blk.cell PB 0 rfl
  have PB_1 := Blk.cell PB 1 rfl
  have PB_2 := Blk.cell PB 2 rfl
  have PB_f0 := Blk.free PB 0
  have PB_f1 := Blk.free PB 1
  have PB_f2 := Blk.free PB 2
  go_wp2_with fail
  go_ret2
  exact ⟨by rw [← E9.out.2]; rfl, by go_grown⟩

set_option maxRecDepth 100000 in
set_option maxHeartbeats 4000000 in
theorem dText_B (h : Lv w A n c l) (hn : n ≤ 4096) (hT : Tab w) (hP : PowT w) (ho : okE x = true) (hb3 : (nfl b (val 18446744073709551616 l) x).neg = false) (he : (nfl b (val 18446744073709551616 l) x).exp ≠ 0) :
    Calls Tryz.prog 100 #[dyV b A n c x] w fun e w' => e = .returned (.tuple #[.string ((⟨(txt ((nfl b (val 18446744073709551616 l) x).man)).toArray⟩ : ByteArray) ++ ((⟨#[112]⟩ ++ ⟨(Lib.itoa (nfl b (val 18446744073709551616 l) x).exp).toArray⟩) : ByteArray)), .int .i64 0]) ∧ Below w.heap.size w w' := by
  have PB := Blk.new w [.bool b, .slice A n c, .int .i64 x] 24
  have bw : Below w.heap.size w (w.alloc (.cells #[.bool b, .slice A n c, .int .i64 x] 24)) := by go_grown
  have PB_0 := Blk.cell PB 0 rfl
  have PB_1 := Blk.cell PB 1 rfl
  have PB_2 := Blk.cell PB 2 rfl
  have PB_f0 := Blk.free PB 0
  have PB_f1 := Blk.free PB 1
  have PB_f2 := Blk.free PB 2
  have p0 := fun W (mm : Lv W A n c l) (tt : Tab W) (pp : PowT W) => handed_text_B (b := b) (x := x) mm hn tt pp ho hb3 he
  generalize nfl b (val 18446744073709551616 l) x = DD at p0 ⊢
  clear hb3 he
  go_enter Tryz.func100, Tryz.ntmps100
  go_wp2_with fail
  with_reducible refine (p0 _ (h.on (by go_grown)) (hT.onD (by go_grown)) (hP.on (by go_grown))).mono ?_
  rintro e w1 ⟨rfl, hb⟩
  clear PB_0 PB_1 PB_2 PB_f0 PB_f1 PB_f2
  have hs1 := hb.size
  try simp only [World.size_alloc, World.size_setCell] at hs1
  replace bw : Below w.heap.size w w1 := dy_end (by go_grown) hb
  replace PB := Blk.on PB hb
  clear hb
  have PB_0 := Blk.cell PB 0 rfl
  have PB_1 := Blk.cell PB 1 rfl
  have PB_2 := Blk.cell PB 2 rfl
  have PB_f0 := Blk.free PB 0
  have PB_f1 := Blk.free PB 1
  have PB_f2 := Blk.free PB 2
  go_wp2_with fail
  go_ret2
  exact ⟨rfl, by go_grown⟩

set_option maxRecDepth 100000 in
set_option maxHeartbeats 4000000 in
theorem handed_text_C (h : Lv w A n c l) (hn : n ≤ 4096) (hT : Tab w) (hP : PowT w) (ho : okE x = true) (hb3 : (nfl b (val 18446744073709551616 l) x).neg = true) (he : (nfl b (val 18446744073709551616 l) x).exp ≠ 0) :
    Calls Tryz.prog 125 #[dyV b A n c x, .func (.func 126) #[] #[]] w fun e w' => e = .returned (.tuple #[.string (((⟨#[45]⟩ : ByteArray) ++ (⟨(txt ((nfl b (val 18446744073709551616 l) x).man)).toArray⟩ : ByteArray)) ++ ((⟨#[112]⟩ ++ ⟨(Lib.itoa (nfl b (val 18446744073709551616 l) x).exp).toArray⟩) : ByteArray)), .int .i64 0]) ∧ Below w.heap.size w w' := by
  have PB := Blk.new w [.bool b, .slice A n c, .int .i64 x] 24
  have bw : Below w.heap.size w (w.alloc (.cells #[.bool b, .slice A n c, .int .i64 x] 24)) := by go_grown
  have PB_0 := Blk.cell PB 0 rfl
  have PB_1 := Blk.cell PB 1 rfl
  have PB_2 := Blk.cell PB 2 rfl
  have PB_f0 := Blk.free PB 0
  have PB_f1 := Blk.free PB 1
  have PB_f2 := Blk.free PB 2
  have HB := Lib.hid hb3
  have HE := Lib.hid he
  clear hb3 he
  obtain ⟨DD, hDD⟩ : ∃ DD, nfl b (val 18446744073709551616 l) x = DD := ⟨_, rfl⟩
  have p0 := fun W (mm : Lv W A n c l) (tt : Tab W) => dyTaken_yes (b := b) (x := x) mm hn tt ho
  have XB := fun b1 q x1 (hd : Dn b1 q x1 (nfl b (val 18446744073709551616 l) x)) => exp_bd h hn ho hd
  rw [hDD] at p0 HB HE XB ⊢
  clear hDD
  go_enter Tryz.func125, Tryz.ntmps125
  go_wp2_with fail
  with_reducible refine (p0 _ (h.on (by go_grown)) (hT.onD (by go_grown))).mono ?_
  rintro e w1 ⟨b3, q3, A3, c3, x3, rfl, hd3, m3, hb⟩
  clear PB_0 PB_1 PB_2 PB_f0 PB_f1 PB_f2
  have hs1 := hb.size
  try simp only [World.size_alloc, World.size_setCell] at hs1
  replace bw : Below w.heap.size w w1 := dy_end (by go_grown) hb
  replace PB := Blk.on PB hb
  clear hb
  have PB_0 := Blk.cell PB 0 rfl
  have PB_1 := Blk.cell PB 1 rfl
  have PB_2 := Blk.cell PB 2 rfl
  have PB_f0 := Blk.free PB 0
  have PB_f1 := Blk.free PB 1
  have PB_f2 := Blk.free PB 2
  replace m3 := Lv.put m3 PB (b3) (A3) (q3.length) (c3) (x3)
  replace PB := Dbx.put PB (b3) (A3) (q3.length) (c3) (x3)
  have X3 := XB _ _ _ hd3
  have hb9 : b3 = true := by rw [← hd3.neg]; exact HB.out
  have hx9 : x3 ≠ 0 := by rw [← hd3.exp]; exact HE.out
  have t9 : (val 18446744073709551616 q3).toNat = DD.man := by have := hd3.man m3.2.2; omega
  have e9 : x3 = DD.exp := hd3.exp.symm
  subst hb9
  have X9 := Lib.hid (And.intro X3 hx9)
  have E9 := Lib.hid (And.intro t9 e9)
  clear X3 hx9 e9 t9
  have p5 := fun W (mm : Lv W A3 q3.length c3 q3) (pp : PowT W) => written_C (x := x3) mm (Dn.len hd3) pp X9.out.1.1 X9.out.1.2 X9.out.2
  rw [E9.out.1] at p5
  go_wp2_with fail
  with_reducible refine (p5 _ m3 (hP.on (by go_grown))).mono ?_
  rintro e w2 ⟨rfl, hb⟩
  clear PB_0 PB_1 PB_2 PB_f0 PB_f1 PB_f2
  have hs2 := hb.size
  try simp only [World.size_alloc, World.size_setCell] at hs2
  replace bw : Below w.heap.size w w2 := dy_end (by go_grown) hb
  replace m3 := Lv.on m3 hb
  replace PB := Blk.on PB hb
  clear hb
  have PB_0 := Blk.cell PB 0 rfl
  have PB_1 := Blk.cell PB 1 rfl
  have PB_2 := Blk.cell PB 2 rfl
  have PB_f0 := Blk.free PB 0
  have PB_f1 := Blk.free PB 1
  have PB_f2 := Blk.free PB 2
  go_wp2_with fail
  go_ret2
  exact ⟨by rw [← E9.out.2]; rfl, by go_grown⟩

set_option maxRecDepth 100000 in
set_option maxHeartbeats 4000000 in
theorem dText_C (h : Lv w A n c l) (hn : n ≤ 4096) (hT : Tab w) (hP : PowT w) (ho : okE x = true) (hb3 : (nfl b (val 18446744073709551616 l) x).neg = true) (he : (nfl b (val 18446744073709551616 l) x).exp ≠ 0) :
    Calls Tryz.prog 100 #[dyV b A n c x] w fun e w' => e = .returned (.tuple #[.string (((⟨#[45]⟩ : ByteArray) ++ (⟨(txt ((nfl b (val 18446744073709551616 l) x).man)).toArray⟩ : ByteArray)) ++ ((⟨#[112]⟩ ++ ⟨(Lib.itoa (nfl b (val 18446744073709551616 l) x).exp).toArray⟩) : ByteArray)), .int .i64 0]) ∧ Below w.heap.size w w' := by
  have PB := Blk.new w [.bool b, .slice A n c, .int .i64 x] 24
  have bw : Below w.heap.size w (w.alloc (.cells #[.bool b, .slice A n c, .int .i64 x] 24)) := by go_grown
  have PB_0 := Blk.cell PB 0 rfl
  have PB_1 := Blk.cell PB 1 rfl
  have PB_2 := Blk.cell PB 2 rfl
  have PB_f0 := Blk.free PB 0
  have PB_f1 := Blk.free PB 1
  have PB_f2 := Blk.free PB 2
  have p0 := fun W (mm : Lv W A n c l) (tt : Tab W) (pp : PowT W) => handed_text_C (b := b) (x := x) mm hn tt pp ho hb3 he
  generalize nfl b (val 18446744073709551616 l) x = DD at p0 ⊢
  clear hb3 he
  go_enter Tryz.func100, Tryz.ntmps100
  go_wp2_with fail
  with_reducible refine (p0 _ (h.on (by go_grown)) (hT.onD (by go_grown)) (hP.on (by go_grown))).mono ?_
  rintro e w1 ⟨rfl, hb⟩
  clear PB_0 PB_1 PB_2 PB_f0 PB_f1 PB_f2
  have hs1 := hb.size
  try simp only [World.size_alloc, World.size_setCell] at hs1
  replace bw : Below w.heap.size w w1 := dy_end (by go_grown) hb
  replace PB := Blk.on PB hb
  clear hb
  have PB_0 := Blk.cell PB 0 rfl
  have PB_1 := Blk.cell PB 1 rfl
  have PB_2 := Blk.cell PB 2 rfl
  have PB_f0 := Blk.free PB 0
  have PB_f1 := Blk.free PB 1
  have PB_f2 := Blk.free PB 2
  go_wp2_with fail
  go_ret2
  exact ⟨rfl, by go_grown⟩

end
end Go.Proofs.YtknomchkfamajaaGreatDoor
