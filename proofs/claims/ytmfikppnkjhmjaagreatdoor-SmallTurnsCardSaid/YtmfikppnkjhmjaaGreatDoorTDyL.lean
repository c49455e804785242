/-
  Layer 3, walks, part nine: two numbers together. (Written by wip/tools/gen_dyl.py.)
-/
import Derived.Test.YtmfikppnkjhmjaaGreatDoorTDyK
namespace Go.Proofs.YtmfikppnkjhmjaaGreatDoor
open Go.RowKit Go.Sort
set_option linter.unusedVariables false
set_option linter.unusedSimpArgs false

section
variable {b : Bool} {A : Option Addr} {n c : Nat} {x : Int} {l : List Int} {w : World}
variable {b2 : Bool} {A2 : Option Addr} {n2 c2 : Nat} {x2 : Int} {l2 : List Int}
theorem bring_any (h : Lv w A n c l) (hn : n ≤ 4096) (nl : Normal l) {p : Int} (hp : p ≤ x) (x0 : -1048576 ≤ p) (x1 : x ≤ 1048576) (hv0 : val 18446744073709551616 l ≠ 0) (hv : val 18446744073709551616 l * 2 ^ (x - p).toNat < 2 ^ 262144) :
    Calls Tryz.prog 81 #[plV p, dyV b A n c x] w (StepV (val 18446744073709551616 l * 2 ^ (x - p).toNat) w) := by
  by_cases e : p = x
  · subst e
    have := bring_eq (b := b) (x := p) h hn nl
    rw [Int.sub_self, Int.toNat_zero, Int.pow_zero, Int.mul_one]
    exact this
  · exact bring_gt h hn (by omega) x0 x1 hv0 hv
theorem num_dn {b : Bool} {l : List Int} {x : Int} {d : Nf} (hd : Dn b l x d) (hl : Lim 18446744073709551616 l) : d.num = if b then -(val 18446744073709551616 l) else val 18446744073709551616 l := by
  unfold Nf.num
  rw [hd.neg, hd.man hl]
section
variable {d d2 : Nf} {p : Int} (hd : Dn b l x d) (hd2 : Dn b2 l2 x2 d2) (hl : Lim 18446744073709551616 l) (hl2 : Lim 18446744073709551616 l2) (hp : p ≤ x) (hp2 : p ≤ x2)
include hd hd2 hl hl2 hp hp2
theorem total_same (hb : b = b2) : nfl b (val 18446744073709551616 l * 2 ^ (x - p).toNat + val 18446744073709551616 l2 * 2 ^ (x2 - p).toNat) p = sumN d d2 := by
  have h := sumN_of (s := d.num) (e := x) (t := d2.num) (f := x2) hp hp2
  have e1 := nf_self hd.2.2.2
  have e2 := nf_self hd2.2.2.2
  rw [hd.exp] at e1
  rw [hd2.exp] at e2
  rw [e1, e2] at h
  rw [← h, num_dn hd hl, num_dn hd2 hl2]
  subst hb
  unfold nfl
  congr 1
  cases b <;> simp <;> grind
theorem total_diff (hb : b ≠ b2) : nfl b (val 18446744073709551616 l * 2 ^ (x - p).toNat - val 18446744073709551616 l2 * 2 ^ (x2 - p).toNat) p = sumN d d2 ∧ nfl b2 (val 18446744073709551616 l2 * 2 ^ (x2 - p).toNat - val 18446744073709551616 l * 2 ^ (x - p).toNat) p = sumN d d2 := by
  have h := sumN_of (s := d.num) (e := x) (t := d2.num) (f := x2) hp hp2
  have e1 := nf_self hd.2.2.2
  have e2 := nf_self hd2.2.2.2
  rw [hd.exp] at e1
  rw [hd2.exp] at e2
  rw [e1, e2] at h
  rw [← h, num_dn hd hl, num_dn hd2 hl2]
  unfold nfl
  cases b <;> cases b2 <;> simp at hb ⊢ <;> (constructor <;> congr 1 <;> grind)
end
set_option maxRecDepth 100000 in
set_option maxHeartbeats 4000000 in
theorem total_s (h : Lv w A n c l) (hn : n ≤ 4096) (nl : Normal l) (h2 : Lv w A2 n2 c2 l2) (hn2 : n2 ≤ 4096) (nl2 : Normal l2) (hT : Tab w) {d : Nf} {p : Int} (hp : p ≤ x) (hp2 : p ≤ x2) (x0 : -1048576 ≤ p) (x1 : x ≤ 1048576) (y1 : x2 ≤ 1048576) (hb : b = b2) (HV : Hid (val 18446744073709551616 l ≠ 0 ∧ val 18446744073709551616 l * 2 ^ (x - p).toNat < 2 ^ 262144 ∧ val 18446744073709551616 l2 ≠ 0 ∧ val 18446744073709551616 l2 * 2 ^ (x2 - p).toNat < 2 ^ 262144 ∧ val 18446744073709551616 l * 2 ^ (x - p).toNat + val 18446744073709551616 l2 * 2 ^ (x2 - p).toNat < 18446744073709551616 ^ 4096)) (HT2 : Hid (nfl b (val 18446744073709551616 l * 2 ^ (x - p).toNat + val 18446744073709551616 l2 * 2 ^ (x2 - p).toNat) p = d)) :
    Calls Tryz.prog 65 #[(.agg #[.int .i64 p, .bool b, .slice A n c, .int .i64 x, .bool b2, .slice A2 n2 c2, .int .i64 x2])] w (DyK d 0 w) := by
  have PB := Blk.new w [.int .i64 p, .bool b, .slice A n c, .int .i64 x, .bool b2, .slice A2 n2 c2, .int .i64 x2] 82
  have DB := Blk.new (w.alloc (.cells #[.int .i64 p, .bool b, .slice A n c, .int .i64 x, .bool b2, .slice A2 n2 c2, .int .i64 x2] 82)) [.bool false, .slice none 0 0, .int .i64 0] 31
  simp only [World.size_alloc] at DB
  replace PB := Blk.alloc PB (.cells #[.bool false, .slice none 0 0, .int .i64 0] 31)
  have bw : Below w.heap.size w ((w.alloc (.cells #[.int .i64 p, .bool b, .slice A n c, .int .i64 x, .bool b2, .slice A2 n2 c2, .int .i64 x2] 82)).alloc (.cells #[.bool false, .slice none 0 0, .int .i64 0] 31)) := by go_grown
  have PB_0 := Blk.cell PB 0 rfl
  have PB_1 := Blk.cell PB 1 rfl
  have PB_2 := Blk.cell PB 2 rfl
  have PB_3 := Blk.cell PB 3 rfl
  have PB_4 := Blk.cell PB 4 rfl
  have PB_5 := Blk.cell PB 5 rfl
  have PB_6 := Blk.cell PB 6 rfl
  have PB_f0 := Blk.free PB 0
  have PB_f1 := Blk.free PB 1
  have PB_f2 := Blk.free PB 2
  have PB_f3 := Blk.free PB 3
  have PB_f4 := Blk.free PB 4
  have PB_f5 := Blk.free PB 5
  have PB_f6 := Blk.free PB 6
  have DB_0 := Blk.cell DB 0 rfl
  have DB_1 := Blk.cell DB 1 rfl
  have DB_2 := Blk.cell DB 2 rfl
  have DB_f0 := Blk.free DB 0
  have DB_f1 := Blk.free DB 1
  have DB_f2 := Blk.free DB 2
  subst hb
  go_enter Tryz.func65, Tryz.ntmps65
  go_wp2_with fail
  with_reducible refine (bring_any (b := b) (x := x) (h.on (by go_grown)) hn nl hp x0 x1 HV.out.1 HV.out.2.1).mono ?_
  rintro e w1 ⟨s1, S1, t1, rfl, ns1, vs1, ks1, ms1, hb⟩
  clear PB_0 PB_1 PB_2 PB_3 PB_4 PB_5 PB_6 PB_f0 PB_f1 PB_f2 PB_f3 PB_f4 PB_f5 PB_f6
  clear DB_0 DB_1 DB_2 DB_f0 DB_f1 DB_f2
  have hs1 := hb.size
  try simp only [World.size_alloc, World.size_setCell] at hs1
  replace bw : Below w.heap.size w w1 := dy_end (by go_grown) hb
  replace PB := Blk.on PB hb
  replace DB := Blk.on DB hb
  clear hb
  have PB_0 := Blk.cell PB 0 rfl
  have PB_1 := Blk.cell PB 1 rfl
  have PB_2 := Blk.cell PB 2 rfl
  have PB_3 := Blk.cell PB 3 rfl
  have PB_4 := Blk.cell PB 4 rfl
  have PB_5 := Blk.cell PB 5 rfl
  have PB_6 := Blk.cell PB 6 rfl
  have PB_f0 := Blk.free PB 0
  have PB_f1 := Blk.free PB 1
  have PB_f2 := Blk.free PB 2
  have PB_f3 := Blk.free PB 3
  have PB_f4 := Blk.free PB 4
  have PB_f5 := Blk.free PB 5
  have PB_f6 := Blk.free PB 6
  have DB_0 := Blk.cell DB 0 rfl
  have DB_1 := Blk.cell DB 1 rfl
  have DB_2 := Blk.cell DB 2 rfl
  have DB_f0 := Blk.free DB 0
  have DB_f1 := Blk.free DB 1
  have DB_f2 := Blk.free DB 2
  replace ms1 := Lv.alloc ms1 (.cells #[.slice S1 s1.length t1, .bool false] 100)
  replace PB := Blk.alloc PB (.cells #[.slice S1 s1.length t1, .bool false] 100)
  replace DB := Blk.alloc DB (.cells #[.slice S1 s1.length t1, .bool false] 100)
  have AB := Blk.new w1 [.slice S1 s1.length t1, .bool false] 100
  have PB_v0_0 := Blk.cell PB 0 rfl
  have PB_v0_1 := Blk.cell PB 1 rfl
  have PB_v0_2 := Blk.cell PB 2 rfl
  have PB_v0_3 := Blk.cell PB 3 rfl
  have PB_v0_4 := Blk.cell PB 4 rfl
  have PB_v0_5 := Blk.cell PB 5 rfl
  have PB_v0_6 := Blk.cell PB 6 rfl
  have PB_v0_f0 := Blk.free PB 0
  have PB_v0_f1 := Blk.free PB 1
  have PB_v0_f2 := Blk.free PB 2
  have PB_v0_f3 := Blk.free PB 3
  have PB_v0_f4 := Blk.free PB 4
  have PB_v0_f5 := Blk.free PB 5
  have PB_v0_f6 := Blk.free PB 6
  have DB_v1_0 := Blk.cell DB 0 rfl
  have DB_v1_1 := Blk.cell DB 1 rfl
  have DB_v1_2 := Blk.cell DB 2 rfl
  have DB_v1_f0 := Blk.free DB 0
  have DB_v1_f1 := Blk.free DB 1
  have DB_v1_f2 := Blk.free DB 2
  have AB_0 := Blk.cell AB 0 rfl
  have AB_1 := Blk.cell AB 1 rfl
  have AB_f0 := Blk.free AB 0
  have AB_f1 := Blk.free AB 1
  go_wp2_with fail
  with_reducible refine (bring_any (b := b) (x := x2) (h2.on (by go_grown)) hn2 nl2 hp2 x0 y1 HV.out.2.2.1 HV.out.2.2.2.1).mono ?_
  rintro e w2 ⟨s2, S2, t2, rfl, ns2, vs2, ks2, ms2, hb⟩
  clear PB_0 PB_1 PB_2 PB_3 PB_4 PB_5 PB_6 PB_f0 PB_f1 PB_f2 PB_f3 PB_f4 PB_f5 PB_f6 PB_v0_0 PB_v0_1 PB_v0_2 PB_v0_3 PB_v0_4 PB_v0_5 PB_v0_6 PB_v0_f0 PB_v0_f1 PB_v0_f2 PB_v0_f3 PB_v0_f4 PB_v0_f5 PB_v0_f6
  clear DB_0 DB_1 DB_2 DB_f0 DB_f1 DB_f2 DB_v1_0 DB_v1_1 DB_v1_2 DB_v1_f0 DB_v1_f1 DB_v1_f2
  clear AB_0 AB_1 AB_f0 AB_f1
  have hs2 := hb.size
  try simp only [World.size_alloc, World.size_setCell] at hs2
  replace bw : Below w.heap.size w w2 := dy_end (by go_grown) hb
  replace ms1 := Lv.on ms1 hb
  replace PB := Blk.on PB hb
  replace DB := Blk.on DB hb
  replace AB := Blk.on AB hb
  clear hb
  have PB_0 := Blk.cell PB 0 rfl
  have PB_1 := Blk.cell PB 1 rfl
  have PB_2 := Blk.cell PB 2 rfl
  have PB_3 := Blk.cell PB 3 rfl
  have PB_4 := Blk.cell PB 4 rfl
  have PB_5 := Blk.cell PB 5 rfl
  have PB_6 := Blk.cell PB 6 rfl
  have PB_f0 := Blk.free PB 0
  have PB_f1 := Blk.free PB 1
  have PB_f2 := Blk.free PB 2
  have PB_f3 := Blk.free PB 3
  have PB_f4 := Blk.free PB 4
  have PB_f5 := Blk.free PB 5
  have PB_f6 := Blk.free PB 6
  have DB_0 := Blk.cell DB 0 rfl
  have DB_1 := Blk.cell DB 1 rfl
  have DB_2 := Blk.cell DB 2 rfl
  have DB_f0 := Blk.free DB 0
  have DB_f1 := Blk.free DB 1
  have DB_f2 := Blk.free DB 2
  have AB_0 := Blk.cell AB 0 rfl
  have AB_1 := Blk.cell AB 1 rfl
  have AB_f0 := Blk.free AB 0
  have AB_f1 := Blk.free AB 1
  replace ms1 := Lv.alloc ms1 (.cells #[.slice S2 s2.length t2, .bool false] 100)
  replace ms2 := Lv.alloc ms2 (.cells #[.slice S2 s2.length t2, .bool false] 100)
  replace PB := Blk.alloc PB (.cells #[.slice S2 s2.length t2, .bool false] 100)
  replace DB := Blk.alloc DB (.cells #[.slice S2 s2.length t2, .bool false] 100)
  replace AB := Blk.alloc AB (.cells #[.slice S2 s2.length t2, .bool false] 100)
  have BB := Blk.new w2 [.slice S2 s2.length t2, .bool false] 100
  have PB_v2_0 := Blk.cell PB 0 rfl
  have PB_v2_1 := Blk.cell PB 1 rfl
  have PB_v2_2 := Blk.cell PB 2 rfl
  have PB_v2_3 := Blk.cell PB 3 rfl
  have PB_v2_4 := Blk.cell PB 4 rfl
  have PB_v2_5 := Blk.cell PB 5 rfl
  have PB_v2_6 := Blk.cell PB 6 rfl
  have PB_v2_f0 := Blk.free PB 0
  have PB_v2_f1 := Blk.free PB 1
  have PB_v2_f2 := Blk.free PB 2
  have PB_v2_f3 := Blk.free PB 3
  have PB_v2_f4 := Blk.free PB 4
  have PB_v2_f5 := Blk.free PB 5
  have PB_v2_f6 := Blk.free PB 6
  have DB_v3_0 := Blk.cell DB 0 rfl
  have DB_v3_1 := Blk.cell DB 1 rfl
  have DB_v3_2 := Blk.cell DB 2 rfl
  have DB_v3_f0 := Blk.free DB 0
  have DB_v3_f1 := Blk.free DB 1
  have DB_v3_f2 := Blk.free DB 2
  have AB_v4_0 := Blk.cell AB 0 rfl
  have AB_v4_1 := Blk.cell AB 1 rfl
  have AB_v4_f0 := Blk.free AB 0
  have AB_v4_f1 := Blk.free AB 1
  have BB_0 := Blk.cell BB 0 rfl
  have BB_1 := Blk.cell BB 1 rfl
  have BB_f0 := Blk.free BB 0
  have BB_f1 := Blk.free BB 1
  go_wp2_with fail
  with_reducible refine (and_any ms1 ks1 ms2 ks2 (by rw [vs1.out, vs2.out]; exact HV.out.2.2.2.2)).mono ?_
  rintro e w3 ⟨s3, S3, t3, rfl, ns3, vs3, ks3, ms3, hb⟩
  clear PB_0 PB_1 PB_2 PB_3 PB_4 PB_5 PB_6 PB_f0 PB_f1 PB_f2 PB_f3 PB_f4 PB_f5 PB_f6 PB_v2_0 PB_v2_1 PB_v2_2 PB_v2_3 PB_v2_4 PB_v2_5 PB_v2_6 PB_v2_f0 PB_v2_f1 PB_v2_f2 PB_v2_f3 PB_v2_f4 PB_v2_f5 PB_v2_f6
  clear DB_0 DB_1 DB_2 DB_f0 DB_f1 DB_f2 DB_v3_0 DB_v3_1 DB_v3_2 DB_v3_f0 DB_v3_f1 DB_v3_f2
  clear AB_0 AB_1 AB_f0 AB_f1 AB_v4_0 AB_v4_1 AB_v4_f0 AB_v4_f1
  clear BB_0 BB_1 BB_f0 BB_f1
  have hs3 := hb.size
  try simp only [World.size_alloc, World.size_setCell] at hs3
  replace bw : Below w.heap.size w w3 := dy_end (by go_grown) hb
  replace ms1 := Lv.on ms1 hb
  replace ms2 := Lv.on ms2 hb
  replace PB := Blk.on PB hb
  replace DB := Blk.on DB hb
  replace AB := Blk.on AB hb
  replace BB := Blk.on BB hb
  clear hb
  have PB_0 := Blk.cell PB 0 rfl
  have PB_1 := Blk.cell PB 1 rfl
  have PB_2 := Blk.cell PB 2 rfl
  have PB_3 := Blk.cell PB 3 rfl
  have PB_4 := Blk.cell PB 4 rfl
  have PB_5 := Blk.cell PB 5 rfl
  have PB_6 := Blk.cell PB 6 rfl
  have PB_f0 := Blk.free PB 0
  have PB_f1 := Blk.free PB 1
  have PB_f2 := Blk.free PB 2
  have PB_f3 := Blk.free PB 3
  have PB_f4 := Blk.free PB 4
  have PB_f5 := Blk.free PB 5
  have PB_f6 := Blk.free PB 6
  have DB_0 := Blk.cell DB 0 rfl
  have DB_1 := Blk.cell DB 1 rfl
  have DB_2 := Blk.cell DB 2 rfl
  have DB_f0 := Blk.free DB 0
  have DB_f1 := Blk.free DB 1
  have DB_f2 := Blk.free DB 2
  have AB_0 := Blk.cell AB 0 rfl
  have AB_1 := Blk.cell AB 1 rfl
  have AB_f0 := Blk.free AB 0
  have AB_f1 := Blk.free AB 1
  have BB_0 := Blk.cell BB 0 rfl
  have BB_1 := Blk.cell BB 1 rfl
  have BB_f0 := Blk.free BB 0
  have BB_f1 := Blk.free BB 1
  replace ms1 := Lv.alloc ms1 (.cells #[.slice S3 s3.length t3, .bool false] 100)
  replace ms2 := Lv.alloc ms2 (.cells #[.slice S3 s3.length t3, .bool false] 100)
  replace ms3 := Lv.alloc ms3 (.cells #[.slice S3 s3.length t3, .bool false] 100)
  replace PB := Blk.alloc PB (.cells #[.slice S3 s3.length t3, .bool false] 100)
  replace DB := Blk.alloc DB (.cells #[.slice S3 s3.length t3, .bool false] 100)
  replace AB := Blk.alloc AB (.cells #[.slice S3 s3.length t3, .bool false] 100)
  replace BB := Blk.alloc BB (.cells #[.slice S3 s3.length t3, .bool false] 100)
  have CB := Blk.new w3 [.slice S3 s3.length t3, .bool false] 100
  have PB_v5_0 := Blk.cell PB 0 rfl
  have PB_v5_1 := Blk.cell PB 1 rfl
  have PB_v5_2 := Blk.cell PB 2 rfl
  have PB_v5_3 := Blk.cell PB 3 rfl
  have PB_v5_4 := Blk.cell PB 4 rfl
  have PB_v5_5 := Blk.cell PB 5 rfl
  have PB_v5_6 := Blk.cell PB 6 rfl
  have PB_v5_f0 := Blk.free PB 0
  have PB_v5_f1 := Blk.free PB 1
  have PB_v5_f2 := Blk.free PB 2
  have PB_v5_f3 := Blk.free PB 3
  have PB_v5_f4 := Blk.free PB 4
  have PB_v5_f5 := Blk.free PB 5
  have PB_v5_f6 := Blk.free PB 6
  have DB_v6_0 := Blk.cell DB 0 rfl
  have DB_v6_1 := Blk.cell DB 1 rfl
  have DB_v6_2 := Blk.cell DB 2 rfl
  have DB_v6_f0 := Blk.free DB 0
  have DB_v6_f1 := Blk.free DB 1
  have DB_v6_f2 := Blk.free DB 2
  have AB_v7_0 := Blk.cell AB 0 rfl
  have AB_v7_1 := Blk.cell AB 1 rfl
  have AB_v7_f0 := Blk.free AB 0
  have AB_v7_f1 := Blk.free AB 1
  have BB_v8_0 := Blk.cell BB 0 rfl
  have BB_v8_1 := Blk.cell BB 1 rfl
  have BB_v8_f0 := Blk.free BB 0
  have BB_v8_f1 := Blk.free BB 1
  have CB_0 := Blk.cell CB 0 rfl
  have CB_1 := Blk.cell CB 1 rfl
  have CB_f0 := Blk.free CB 0
  have CB_f1 := Blk.free CB 1
  go_wp2_with fail
  with_reducible refine (number_any (b := b) (x := p) ms3 ks3 (hT.onD (by go_grown)) x0 (by omega)).mono ?_
  rintro e w4 ⟨b4, q4, A4, c4, x4, rfl, hd4, m4, hb⟩
  clear PB_0 PB_1 PB_2 PB_3 PB_4 PB_5 PB_6 PB_f0 PB_f1 PB_f2 PB_f3 PB_f4 PB_f5 PB_f6 PB_v5_0 PB_v5_1 PB_v5_2 PB_v5_3 PB_v5_4 PB_v5_5 PB_v5_6 PB_v5_f0 PB_v5_f1 PB_v5_f2 PB_v5_f3 PB_v5_f4 PB_v5_f5 PB_v5_f6
  clear DB_0 DB_1 DB_2 DB_f0 DB_f1 DB_f2 DB_v6_0 DB_v6_1 DB_v6_2 DB_v6_f0 DB_v6_f1 DB_v6_f2
  clear AB_0 AB_1 AB_f0 AB_f1 AB_v7_0 AB_v7_1 AB_v7_f0 AB_v7_f1
  clear BB_0 BB_1 BB_f0 BB_f1 BB_v8_0 BB_v8_1 BB_v8_f0 BB_v8_f1
  clear CB_0 CB_1 CB_f0 CB_f1
  have hs4 := hb.size
  try simp only [World.size_alloc, World.size_setCell] at hs4
  replace bw : Below w.heap.size w w4 := dy_end (by go_grown) hb
  replace ms1 := Lv.on ms1 hb
  replace ms2 := Lv.on ms2 hb
  replace ms3 := Lv.on ms3 hb
  replace PB := Blk.on PB hb
  replace DB := Blk.on DB hb
  replace AB := Blk.on AB hb
  replace BB := Blk.on BB hb
  replace CB := Blk.on CB hb
  clear hb
  have PB_0 := Blk.cell PB 0 rfl
  have PB_1 := Blk.cell PB 1 rfl
  have PB_2 := Blk.cell PB 2 rfl
  have PB_3 := Blk.cell PB 3 rfl
  have PB_4 := Blk.cell PB 4 rfl
  have PB_5 := Blk.cell PB 5 rfl
  have PB_6 := Blk.cell PB 6 rfl
  have PB_f0 := Blk.free PB 0
  have PB_f1 := Blk.free PB 1
  have PB_f2 := Blk.free PB 2
  have PB_f3 := Blk.free PB 3
  have PB_f4 := Blk.free PB 4
  have PB_f5 := Blk.free PB 5
  have PB_f6 := Blk.free PB 6
  have DB_0 := Blk.cell DB 0 rfl
  have DB_1 := Blk.cell DB 1 rfl
  have DB_2 := Blk.cell DB 2 rfl
  have DB_f0 := Blk.free DB 0
  have DB_f1 := Blk.free DB 1
  have DB_f2 := Blk.free DB 2
  have AB_0 := Blk.cell AB 0 rfl
  have AB_1 := Blk.cell AB 1 rfl
  have AB_f0 := Blk.free AB 0
  have AB_f1 := Blk.free AB 1
  have BB_0 := Blk.cell BB 0 rfl
  have BB_1 := Blk.cell BB 1 rfl
  have BB_f0 := Blk.free BB 0
  have BB_f1 := Blk.free BB 1
  have CB_0 := Blk.cell CB 0 rfl
  have CB_1 := Blk.cell CB 1 rfl
  have CB_f0 := Blk.free CB 0
  have CB_f1 := Blk.free CB 1
  rw [vs3.out, vs1.out, vs2.out, HT2.out] at hd4
  go_wp2_with fail
  refine bodyPost_ret (v := .tuple #[dyV b4 A4 q4.length c4 x4, .int .i64 0]) (by simp [results, Tryz.results65, go_sem, DB_0, DB_1, DB_2]) rfl ?_
  exact ⟨b4, q4, A4, c4, x4, rfl, hd4, m4.put DB _ _ _ _ _, by go_grown⟩

set_option maxRecDepth 100000 in
set_option maxHeartbeats 4000000 in
theorem total_ge (h : Lv w A n c l) (hn : n ≤ 4096) (nl : Normal l) (h2 : Lv w A2 n2 c2 l2) (hn2 : n2 ≤ 4096) (nl2 : Normal l2) (hT : Tab w) {d : Nf} {p : Int} (hp : p ≤ x) (hp2 : p ≤ x2) (x0 : -1048576 ≤ p) (x1 : x ≤ 1048576) (y1 : x2 ≤ 1048576) (hb : b ≠ b2) (HV : Hid (val 18446744073709551616 l ≠ 0 ∧ val 18446744073709551616 l * 2 ^ (x - p).toNat < 2 ^ 262144 ∧ val 18446744073709551616 l2 ≠ 0 ∧ val 18446744073709551616 l2 * 2 ^ (x2 - p).toNat < 2 ^ 262144 ∧ val 18446744073709551616 l2 * 2 ^ (x2 - p).toNat ≤ val 18446744073709551616 l * 2 ^ (x - p).toNat)) (HT2 : Hid (nfl b (val 18446744073709551616 l * 2 ^ (x - p).toNat - val 18446744073709551616 l2 * 2 ^ (x2 - p).toNat) p = d)) :
    Calls Tryz.prog 65 #[(.agg #[.int .i64 p, .bool b, .slice A n c, .int .i64 x, .bool b2, .slice A2 n2 c2, .int .i64 x2])] w (DyK d 0 w) := by
  have PB := Blk.new w [.int .i64 p, .bool b, .slice A n c, .int .i64 x, .bool b2, .slice A2 n2 c2, .int .i64 x2] 82
  have DB := Blk.new (w.alloc (.cells #[.int .i64 p, .bool b, .slice A n c, .int .i64 x, .bool b2, .slice A2 n2 c2, .int .i64 x2] 82)) [.bool false, .slice none 0 0, .int .i64 0] 31
  simp only [World.size_alloc] at DB
  replace PB := Blk.alloc PB (.cells #[.bool false, .slice none 0 0, .int .i64 0] 31)
  have bw : Below w.heap.size w ((w.alloc (.cells #[.int .i64 p, .bool b, .slice A n c, .int .i64 x, .bool b2, .slice A2 n2 c2, .int .i64 x2] 82)).alloc (.cells #[.bool false, .slice none 0 0, .int .i64 0] 31)) := by go_grown
  have PB_0 := Blk.cell PB 0 rfl
  have PB_1 := Blk.cell PB 1 rfl
  have PB_2 := Blk.cell PB 2 rfl
  have PB_3 := Blk.cell PB 3 rfl
  have PB_4 := Blk.cell PB 4 rfl
  have PB_5 := Blk.cell PB 5 rfl
  have PB_6 := Blk.cell PB 6 rfl
  have PB_f0 := Blk.free PB 0
  have PB_f1 := Blk.free PB 1
  have PB_f2 := Blk.free PB 2
  have PB_f3 := Blk.free PB 3
  have PB_f4 := Blk.free PB 4
  have PB_f5 := Blk.free PB 5
  have PB_f6 := Blk.free PB 6
  have DB_0 := Blk.cell DB 0 rfl
  have DB_1 := Blk.cell DB 1 rfl
  have DB_2 := Blk.cell DB 2 rfl
  have DB_f0 := Blk.free DB 0
  have DB_f1 := Blk.free DB 1
  have DB_f2 := Blk.free DB 2
  have hbb : (b == b2) = false := beq_eq_false_iff_ne.2 hb
  go_enter Tryz.func65, Tryz.ntmps65
  go_wp2_with fail
  with_reducible refine (bring_any (b := b) (x := x) (h.on (by go_grown)) hn nl hp x0 x1 HV.out.1 HV.out.2.1).mono ?_
  rintro e w1 ⟨s1, S1, t1, rfl, ns1, vs1, ks1, ms1, hb⟩
  clear PB_0 PB_1 PB_2 PB_3 PB_4 PB_5 PB_6 PB_f0 PB_f1 PB_f2 PB_f3 PB_f4 PB_f5 PB_f6
  clear DB_0 DB_1 DB_2 DB_f0 DB_f1 DB_f2
  have hs1 := hb.size
  try simp only [World.size_alloc, World.size_setCell] at hs1
  replace bw : Below w.heap.size w w1 := dy_end (by go_grown) hb
  replace PB := Blk.on PB hb
  replace DB := Blk.on DB hb
  clear hb
  have PB_0 := Blk.cell PB 0 rfl
  have PB_1 := Blk.cell PB 1 rfl
  have PB_2 := Blk.cell PB 2 rfl
  have PB_3 := Blk.cell PB 3 rfl
  have PB_4 := Blk.cell PB 4 rfl
  have PB_5 := Blk.cell PB 5 rfl
  have PB_6 := Blk.cell PB 6 rfl
  have PB_f0 := Blk.free PB 0
  have PB_f1 := Blk.free PB 1
  have PB_f2 := Blk.free PB 2
  have PB_f3 := Blk.free PB 3
  have PB_f4 := Blk.free PB 4
  have PB_f5 := Blk.free PB 5
  have PB_f6 := Blk.free PB 6
  have DB_0 := Blk.cell DB 0 rfl
  have DB_1 := Blk.cell DB 1 rfl
  have DB_2 := Blk.cell DB 2 rfl
  have DB_f0 := Blk.free DB 0
  have DB_f1 := Blk.free DB 1
  have DB_f2 := Blk.free DB 2
  replace ms1 := Lv.alloc ms1 (.cells #[.slice S1 s1.length t1, .bool false] 100)
  replace PB := Blk.alloc PB (.cells #[.slice S1 s1.length t1, .bool false] 100)
  replace DB := Blk.alloc DB (.cells #[.slice S1 s1.length t1, .bool false] 100)
  have AB := Blk.new w1 [.slice S1 s1.length t1, .bool false] 100
  have PB_v0_0 := Blk.cell PB 0 rfl
  have PB_v0_1 := Blk.cell PB 1 rfl
  have PB_v0_2 := Blk.cell PB 2 rfl
  have PB_v0_3 := Blk.cell PB 3 rfl
  have PB_v0_4 := Blk.cell PB 4 rfl
  have PB_v0_5 := Blk.cell PB 5 rfl
  have PB_v0_6 := Blk.cell PB 6 rfl
  have PB_v0_f0 := Blk.free PB 0
  have PB_v0_f1 := Blk.free PB 1
  have PB_v0_f2 := Blk.free PB 2
  have PB_v0_f3 := Blk.free PB 3
  have PB_v0_f4 := Blk.free PB 4
  have PB_v0_f5 := Blk.free PB 5
  have PB_v0_f6 := Blk.free PB 6
  have DB_v1_0 := Blk.cell DB 0 rfl
  have DB_v1_1 := Blk.cell DB 1 rfl
  have DB_v1_2 := Blk.cell DB 2 rfl
  have DB_v1_f0 := Blk.free DB 0
  have DB_v1_f1 := Blk.free DB 1
  have DB_v1_f2 := Blk.free DB 2
  have AB_0 := Blk.cell AB 0 rfl
  have AB_1 := Blk.cell AB 1 rfl
  have AB_f0 := Blk.free AB 0
  have AB_f1 := Blk.free AB 1
  go_wp2_with fail
  with_reducible refine (bring_any (b := b2) (x := x2) (h2.on (by go_grown)) hn2 nl2 hp2 x0 y1 HV.out.2.2.1 HV.out.2.2.2.1).mono ?_
  rintro e w2 ⟨s2, S2, t2, rfl, ns2, vs2, ks2, ms2, hb⟩
  clear PB_0 PB_1 PB_2 PB_3 PB_4 PB_5 PB_6 PB_f0 PB_f1 PB_f2 PB_f3 PB_f4 PB_f5 PB_f6 PB_v0_0 PB_v0_1 PB_v0_2 PB_v0_3 PB_v0_4 PB_v0_5 PB_v0_6 PB_v0_f0 PB_v0_f1 PB_v0_f2 PB_v0_f3 PB_v0_f4 PB_v0_f5 PB_v0_f6
  clear DB_0 DB_1 DB_2 DB_f0 DB_f1 DB_f2 DB_v1_0 DB_v1_1 DB_v1_2 DB_v1_f0 DB_v1_f1 DB_v1_f2
  clear AB_0 AB_1 AB_f0 AB_f1
  have hs2 := hb.size
  try simp only [World.size_alloc, World.size_setCell] at hs2
  replace bw : Below w.heap.size w w2 := dy_end (by go_grown) hb
  replace ms1 := Lv.on ms1 hb
  replace PB := Blk.on PB hb
  replace DB := Blk.on DB hb
  replace AB := Blk.on AB hb
  clear hb
  have PB_0 := Blk.cell PB 0 rfl
  have PB_1 := Blk.cell PB 1 rfl
  have PB_2 := Blk.cell PB 2 rfl
  have PB_3 := Blk.cell PB 3 rfl
  have PB_4 := Blk.cell PB 4 rfl
  have PB_5 := Blk.cell PB 5 rfl
  have PB_6 := Blk.cell PB 6 rfl
  have PB_f0 := Blk.free PB 0
  have PB_f1 := Blk.free PB 1
  have PB_f2 := Blk.free PB 2
  have PB_f3 := Blk.free PB 3
  have PB_f4 := Blk.free PB 4
  have PB_f5 := Blk.free PB 5
  have PB_f6 := Blk.free PB 6
  have DB_0 := Blk.cell DB 0 rfl
  have DB_1 := Blk.cell DB 1 rfl
  have DB_2 := Blk.cell DB 2 rfl
  have DB_f0 := Blk.free DB 0
  have DB_f1 := Blk.free DB 1
  have DB_f2 := Blk.free DB 2
  have AB_0 := Blk.cell AB 0 rfl
  have AB_1 := Blk.cell AB 1 rfl
  have AB_f0 := Blk.free AB 0
  have AB_f1 := Blk.free AB 1
  replace ms1 := Lv.alloc ms1 (.cells #[.slice S2 s2.length t2, .bool false] 100)
  replace ms2 := Lv.alloc ms2 (.cells #[.slice S2 s2.length t2, .bool false] 100)
  replace PB := Blk.alloc PB (.cells #[.slice S2 s2.length t2, .bool false] 100)
  replace DB := Blk.alloc DB (.cells #[.slice S2 s2.length t2, .bool false] 100)
  replace AB := Blk.alloc AB (.cells #[.slice S2 s2.length t2, .bool false] 100)
  have BB := Blk.new w2 [.slice S2 s2.length t2, .bool false] 100
  have PB_v2_0 := Blk.cell PB 0 rfl
  have PB_v2_1 := Blk.cell PB 1 rfl
  have PB_v2_2 := Blk.cell PB 2 rfl
  have PB_v2_3 := Blk.cell PB 3 rfl
  have PB_v2_4 := Blk.cell PB 4 rfl
  have PB_v2_5 := Blk.cell PB 5 rfl
  have PB_v2_6 := Blk.cell PB 6 rfl
  have PB_v2_f0 := Blk.free PB 0
  have PB_v2_f1 := Blk.free PB 1
  have PB_v2_f2 := Blk.free PB 2
  have PB_v2_f3 := Blk.free PB 3
  have PB_v2_f4 := Blk.free PB 4
  have PB_v2_f5 := Blk.free PB 5
  have PB_v2_f6 := Blk.free PB 6
  have DB_v3_0 := Blk.cell DB 0 rfl
  have DB_v3_1 := Blk.cell DB 1 rfl
  have DB_v3_2 := Blk.cell DB 2 rfl
  have DB_v3_f0 := Blk.free DB 0
  have DB_v3_f1 := Blk.free DB 1
  have DB_v3_f2 := Blk.free DB 2
  have AB_v4_0 := Blk.cell AB 0 rfl
  have AB_v4_1 := Blk.cell AB 1 rfl
  have AB_v4_f0 := Blk.free AB 0
  have AB_v4_f1 := Blk.free AB 1
  have BB_0 := Blk.cell BB 0 rfl
  have BB_1 := Blk.cell BB 1 rfl
  have BB_f0 := Blk.free BB 0
  have BB_f1 := Blk.free BB 1
  go_wp2_with fail
  with_reducible refine (less_yes ms1 ks1 ms2 ks2 (by rw [vs1.out, vs2.out]; exact HV.out.2.2.2.2)).mono ?_
  rintro e w3 ⟨s3, S3, t3, rfl, ns3, vs3, ks3, ms3, hb⟩
  clear PB_0 PB_1 PB_2 PB_3 PB_4 PB_5 PB_6 PB_f0 PB_f1 PB_f2 PB_f3 PB_f4 PB_f5 PB_f6 PB_v2_0 PB_v2_1 PB_v2_2 PB_v2_3 PB_v2_4 PB_v2_5 PB_v2_6 PB_v2_f0 PB_v2_f1 PB_v2_f2 PB_v2_f3 PB_v2_f4 PB_v2_f5 PB_v2_f6
  clear DB_0 DB_1 DB_2 DB_f0 DB_f1 DB_f2 DB_v3_0 DB_v3_1 DB_v3_2 DB_v3_f0 DB_v3_f1 DB_v3_f2
  clear AB_0 AB_1 AB_f0 AB_f1 AB_v4_0 AB_v4_1 AB_v4_f0 AB_v4_f1
  clear BB_0 BB_1 BB_f0 BB_f1
  have hs3 := hb.size
  try simp only [World.size_alloc, World.size_setCell] at hs3
  replace bw : Below w.heap.size w w3 := dy_end (by go_grown) hb
  replace ms1 := Lv.on ms1 hb
  replace ms2 := Lv.on ms2 hb
  replace PB := Blk.on PB hb
  replace DB := Blk.on DB hb
  replace AB := Blk.on AB hb
  replace BB := Blk.on BB hb
  clear hb
  have PB_0 := Blk.cell PB 0 rfl
  have PB_1 := Blk.cell PB 1 rfl
  have PB_2 := Blk.cell PB 2 rfl
  have PB_3 := Blk.cell PB 3 rfl
  have PB_4 := Blk.cell PB 4 rfl
  have PB_5 := Blk.cell PB 5 rfl
  have PB_6 := Blk.cell PB 6 rfl
  have PB_f0 := Blk.free PB 0
  have PB_f1 := Blk.free PB 1
  have PB_f2 := Blk.free PB 2
  have PB_f3 := Blk.free PB 3
  have PB_f4 := Blk.free PB 4
  have PB_f5 := Blk.free PB 5
  have PB_f6 := Blk.free PB 6
  have DB_0 := Blk.cell DB 0 rfl
  have DB_1 := Blk.cell DB 1 rfl
  have DB_2 := Blk.cell DB 2 rfl
  have DB_f0 := Blk.free DB 0
  have DB_f1 := Blk.free DB 1
  have DB_f2 := Blk.free DB 2
  have AB_0 := Blk.cell AB 0 rfl
  have AB_1 := Blk.cell AB 1 rfl
  have AB_f0 := Blk.free AB 0
  have AB_f1 := Blk.free AB 1
  have BB_0 := Blk.cell BB 0 rfl
  have BB_1 := Blk.cell BB 1 rfl
  have BB_f0 := Blk.free BB 0
  have BB_f1 := Blk.free BB 1
  replace ms1 := Lv.alloc ms1 (.cells #[.slice S3 s3.length t3, .bool false] 100)
  replace ms2 := Lv.alloc ms2 (.cells #[.slice S3 s3.length t3, .bool false] 100)
  replace ms3 := Lv.alloc ms3 (.cells #[.slice S3 s3.length t3, .bool false] 100)
  replace PB := Blk.alloc PB (.cells #[.slice S3 s3.length t3, .bool false] 100)
  replace DB := Blk.alloc DB (.cells #[.slice S3 s3.length t3, .bool false] 100)
  replace AB := Blk.alloc AB (.cells #[.slice S3 s3.length t3, .bool false] 100)
  replace BB := Blk.alloc BB (.cells #[.slice S3 s3.length t3, .bool false] 100)
  have CB := Blk.new w3 [.slice S3 s3.length t3, .bool false] 100
  have PB_v5_0 := Blk.cell PB 0 rfl
  have PB_v5_1 := Blk.cell PB 1 rfl
  have PB_v5_2 := Blk.cell PB 2 rfl
  have PB_v5_3 := Blk.cell PB 3 rfl
  have PB_v5_4 := Blk.cell PB 4 rfl
  have PB_v5_5 := Blk.cell PB 5 rfl
  have PB_v5_6 := Blk.cell PB 6 rfl
  have PB_v5_f0 := Blk.free PB 0
  have PB_v5_f1 := Blk.free PB 1
  have PB_v5_f2 := Blk.free PB 2
  have PB_v5_f3 := Blk.free PB 3
  have PB_v5_f4 := Blk.free PB 4
  have PB_v5_f5 := Blk.free PB 5
  have PB_v5_f6 := Blk.free PB 6
  have DB_v6_0 := Blk.cell DB 0 rfl
  have DB_v6_1 := Blk.cell DB 1 rfl
  have DB_v6_2 := Blk.cell DB 2 rfl
  have DB_v6_f0 := Blk.free DB 0
  have DB_v6_f1 := Blk.free DB 1
  have DB_v6_f2 := Blk.free DB 2
  have AB_v7_0 := Blk.cell AB 0 rfl
  have AB_v7_1 := Blk.cell AB 1 rfl
  have AB_v7_f0 := Blk.free AB 0
  have AB_v7_f1 := Blk.free AB 1
  have BB_v8_0 := Blk.cell BB 0 rfl
  have BB_v8_1 := Blk.cell BB 1 rfl
  have BB_v8_f0 := Blk.free BB 0
  have BB_v8_f1 := Blk.free BB 1
  have CB_0 := Blk.cell CB 0 rfl
  have CB_1 := Blk.cell CB 1 rfl
  have CB_f0 := Blk.free CB 0
  have CB_f1 := Blk.free CB 1
  go_wp2_with fail
  with_reducible refine (number_any (b := b) (x := p) ms3 ks3 (hT.onD (by go_grown)) x0 (by omega)).mono ?_
  rintro e w4 ⟨b4, q4, A4, c4, x4, rfl, hd4, m4, hb⟩
  clear PB_0 PB_1 PB_2 PB_3 PB_4 PB_5 PB_6 PB_f0 PB_f1 PB_f2 PB_f3 PB_f4 PB_f5 PB_f6 PB_v5_0 PB_v5_1 PB_v5_2 PB_v5_3 PB_v5_4 PB_v5_5 PB_v5_6 PB_v5_f0 PB_v5_f1 PB_v5_f2 PB_v5_f3 PB_v5_f4 PB_v5_f5 PB_v5_f6
  clear DB_0 DB_1 DB_2 DB_f0 DB_f1 DB_f2 DB_v6_0 DB_v6_1 DB_v6_2 DB_v6_f0 DB_v6_f1 DB_v6_f2
  clear AB_0 AB_1 AB_f0 AB_f1 AB_v7_0 AB_v7_1 AB_v7_f0 AB_v7_f1
  clear BB_0 BB_1 BB_f0 BB_f1 BB_v8_0 BB_v8_1 BB_v8_f0 BB_v8_f1
  clear CB_0 CB_1 CB_f0 CB_f1
  have hs4 := hb.size
  try simp only [World.size_alloc, World.size_setCell] at hs4
  replace bw : Below w.heap.size w w4 := dy_end (by go_grown) hb
  replace ms1 := Lv.on ms1 hb
  replace ms2 := Lv.on ms2 hb
  replace ms3 := Lv.on ms3 hb
  replace PB := Blk.on PB hb
  replace DB := Blk.on DB hb
  replace AB := Blk.on AB hb
  replace BB := Blk.on BB hb
  replace CB := Blk.on CB hb
  clear hb
  have PB_0 := Blk.cell PB 0 rfl
  have PB_1 := Blk.cell PB 1 rfl
  have PB_2 := Blk.cell PB 2 rfl
  have PB_3 := Blk.cell PB 3 rfl
  have PB_4 := Blk.cell PB 4 rfl
  have PB_5 := Blk.cell PB 5 rfl
  have PB_6 := Blk.cell PB 6 rfl
  have PB_f0 := Blk.free PB 0
  have PB_f1 := Blk.free PB 1
  have PB_f2 := Blk.free PB 2
  have PB_f3 := Blk.free PB 3
  have PB_f4 := Blk.free PB 4
  have PB_f5 := Blk.free PB 5
  have PB_f6 := Blk.free PB 6
  have DB_0 := Blk.cell DB 0 rfl
  have DB_1 := Blk.cell DB 1 rfl
  have DB_2 := Blk.cell DB 2 rfl
  have DB_f0 := Blk.free DB 0
  have DB_f1 := Blk.free DB 1
  have DB_f2 := Blk.free DB 2
  have AB_0 := Blk.cell AB 0 rfl
  have AB_1 := Blk.cell AB 1 rfl
  have AB_f0 := Blk.free AB 0
  have AB_f1 := Blk.free AB 1
  have BB_0 := Blk.cell BB 0 rfl
  have BB_1 := Blk.cell BB 1 rfl
  have BB_f0 := Blk.free BB 0
  have BB_f1 := Blk.free BB 1
  have CB_0 := Blk.cell CB 0 rfl
  have CB_1 := Blk.cell CB 1 rfl
  have CB_f0 := Blk.free CB 0
  have CB_f1 := Blk.free CB 1
  rw [vs3.out, vs1.out, vs2.out, HT2.out] at hd4
  go_wp2_with fail
  refine bodyPost_ret (v := .tuple #[dyV b4 A4 q4.length c4 x4, .int .i64 0]) (by simp [results, Tryz.results65, go_sem, DB_0, DB_1, DB_2]) rfl ?_
  exact ⟨b4, q4, A4, c4, x4, rfl, hd4, m4.put DB _ _ _ _ _, by go_grown⟩

set_option maxRecDepth 100000 in
set_option maxHeartbeats 4000000 in
theorem total_lt (h : Lv w A n c l) (hn : n ≤ 4096) (nl : Normal l) (h2 : Lv w A2 n2 c2 l2) (hn2 : n2 ≤ 4096) (nl2 : Normal l2) (hT : Tab w) {d : Nf} {p : Int} (hp : p ≤ x) (hp2 : p ≤ x2) (x0 : -1048576 ≤ p) (x1 : x ≤ 1048576) (y1 : x2 ≤ 1048576) (hb : b ≠ b2) (HV : Hid (val 18446744073709551616 l ≠ 0 ∧ val 18446744073709551616 l * 2 ^ (x - p).toNat < 2 ^ 262144 ∧ val 18446744073709551616 l2 ≠ 0 ∧ val 18446744073709551616 l2 * 2 ^ (x2 - p).toNat < 2 ^ 262144 ∧ val 18446744073709551616 l * 2 ^ (x - p).toNat < val 18446744073709551616 l2 * 2 ^ (x2 - p).toNat)) (HT2 : Hid (nfl b2 (val 18446744073709551616 l2 * 2 ^ (x2 - p).toNat - val 18446744073709551616 l * 2 ^ (x - p).toNat) p = d)) :
    Calls Tryz.prog 65 #[(.agg #[.int .i64 p, .bool b, .slice A n c, .int .i64 x, .bool b2, .slice A2 n2 c2, .int .i64 x2])] w (DyK d 0 w) := by
  have PB := Blk.new w [.int .i64 p, .bool b, .slice A n c, .int .i64 x, .bool b2, .slice A2 n2 c2, .int .i64 x2] 82
  have DB := Blk.new (w.alloc (.cells #[.int .i64 p, .bool b, .slice A n c, .int .i64 x, .bool b2, .slice A2 n2 c2, .int .i64 x2] 82)) [.bool false, .slice none 0 0, .int .i64 0] 31
  simp only [World.size_alloc] at DB
  replace PB := Blk.alloc PB (.cells #[.bool false, .slice none 0 0, .int .i64 0] 31)
  have bw : Below w.heap.size w ((w.alloc (.cells #[.int .i64 p, .bool b, .slice A n c, .int .i64 x, .bool b2, .slice A2 n2 c2, .int .i64 x2] 82)).alloc (.cells #[.bool false, .slice none 0 0, .int .i64 0] 31)) := by go_grown
  have PB_0 := Blk.cell PB 0 rfl
  have PB_1 := Blk.cell PB 1 rfl
  have PB_2 := Blk.cell PB 2 rfl
  have PB_3 := Blk.cell PB 3 rfl
  have PB_4 := Blk.cell PB 4 rfl
  have PB_5 := Blk.cell PB 5 rfl
  have PB_6 := Blk.cell PB 6 rfl
  have PB_f0 := Blk.free PB 0
  have PB_f1 := Blk.free PB 1
  have PB_f2 := Blk.free PB 2
  have PB_f3 := Blk.free PB 3
  have PB_f4 := Blk.free PB 4
  have PB_f5 := Blk.free PB 5
  have PB_f6 := Blk.free PB 6
  have DB_0 := Blk.cell DB 0 rfl
  have DB_1 := Blk.cell DB 1 rfl
  have DB_2 := Blk.cell DB 2 rfl
  have DB_f0 := Blk.free DB 0
  have DB_f1 := Blk.free DB 1
  have DB_f2 := Blk.free DB 2
  have hbb : (b == b2) = false := beq_eq_false_iff_ne.2 hb
  go_enter Tryz.func65, Tryz.ntmps65
  go_wp2_with fail
  with_reducible refine (bring_any (b := b) (x := x) (h.on (by go_grown)) hn nl hp x0 x1 HV.out.1 HV.out.2.1).mono ?_
  rintro e w1 ⟨s1, S1, t1, rfl, ns1, vs1, ks1, ms1, hb⟩
  clear PB_0 PB_1 PB_2 PB_3 PB_4 PB_5 PB_6 PB_f0 PB_f1 PB_f2 PB_f3 PB_f4 PB_f5 PB_f6
  clear DB_0 DB_1 DB_2 DB_f0 DB_f1 DB_f2
  have hs1 := hb.size
  try simp only [World.size_alloc, World.size_setCell] at hs1
  replace bw : Below w.heap.size w w1 := dy_end (by go_grown) hb
  replace PB := Blk.on PB hb
  replace DB := Blk.on DB hb
  clear hb
  have PB_0 := Blk.cell PB 0 rfl
  have PB_1 := Blk.cell PB 1 rfl
  have PB_2 := Blk.cell PB 2 rfl
  have PB_3 := Blk.cell PB 3 rfl
  have PB_4 := Blk.cell PB 4 rfl
  have PB_5 := Blk.cell PB 5 rfl
  have PB_6 := Blk.cell PB 6 rfl
  have PB_f0 := Blk.free PB 0
  have PB_f1 := Blk.free PB 1
  have PB_f2 := Blk.free PB 2
  have PB_f3 := Blk.free PB 3
  have PB_f4 := Blk.free PB 4
  have PB_f5 := Blk.free PB 5
  have PB_f6 := Blk.free PB 6
  have DB_0 := Blk.cell DB 0 rfl
  have DB_1 := Blk.cell DB 1 rfl
  have DB_2 := Blk.cell DB 2 rfl
  have DB_f0 := Blk.free DB 0
  have DB_f1 := Blk.free DB 1
  have DB_f2 := Blk.free DB 2
  replace ms1 := Lv.alloc ms1 (.cells #[.slice S1 s1.length t1, .bool false] 100)
  replace PB := Blk.alloc PB (.cells #[.slice S1 s1.length t1, .bool false] 100)
  replace DB := Blk.alloc DB (.cells #[.slice S1 s1.length t1, .bool false] 100)
  have AB := Blk.new w1 [.slice S1 s1.length t1, .bool false] 100
  have PB_v0_0 := Blk.cell PB 0 rfl
  have PB_v0_1 := Blk.cell PB 1 rfl
  have PB_v0_2 := Blk.cell PB 2 rfl
  have PB_v0_3 := Blk.cell PB 3 rfl
  have PB_v0_4 := Blk.cell PB 4 rfl
  have PB_v0_5 := Blk.cell PB 5 rfl
  have PB_v0_6 := Blk.cell PB 6 rfl
  have PB_v0_f0 := Blk.free PB 0
  have PB_v0_f1 := Blk.free PB 1
  have PB_v0_f2 := Blk.free PB 2
  have PB_v0_f3 := Blk.free PB 3
  have PB_v0_f4 := Blk.free PB 4
  have PB_v0_f5 := Blk.free PB 5
  have PB_v0_f6 := Blk.free PB 6
  have DB_v1_0 := Blk.cell DB 0 rfl
  have DB_v1_1 := Blk.cell DB 1 rfl
  have DB_v1_2 := Blk.cell DB 2 rfl
  have DB_v1_f0 := Blk.free DB 0
  have DB_v1_f1 := Blk.free DB 1
  have DB_v1_f2 := Blk.free DB 2
  have AB_0 := Blk.cell AB 0 rfl
  have AB_1 := Blk.cell AB 1 rfl
  have AB_f0 := Blk.free AB 0
  have AB_f1 := Blk.free AB 1
  go_wp2_with fail
  with_reducible refine (bring_any (b := b2) (x := x2) (h2.on (by go_grown)) hn2 nl2 hp2 x0 y1 HV.out.2.2.1 HV.out.2.2.2.1).mono ?_
  rintro e w2 ⟨s2, S2, t2, rfl, ns2, vs2, ks2, ms2, hb⟩
  clear PB_0 PB_1 PB_2 PB_3 PB_4 PB_5 PB_6 PB_f0 PB_f1 PB_f2 PB_f3 PB_f4 PB_f5 PB_f6 PB_v0_0 PB_v0_1 PB_v0_2 PB_v0_3 PB_v0_4 PB_v0_5 PB_v0_6 PB_v0_f0 PB_v0_f1 PB_v0_f2 PB_v0_f3 PB_v0_f4 PB_v0_f5 PB_v0_f6
  clear DB_0 DB_1 DB_2 DB_f0 DB_f1 DB_f2 DB_v1_0 DB_v1_1 DB_v1_2 DB_v1_f0 DB_v1_f1 DB_v1_f2
  clear AB_0 AB_1 AB_f0 AB_f1
  have hs2 := hb.size
  try simp only [World.size_alloc, World.size_setCell] at hs2
  replace bw : Below w.heap.size w w2 := dy_end (by go_grown) hb
  replace ms1 := Lv.on ms1 hb
  replace PB := Blk.on PB hb
  replace DB := Blk.on DB hb
  replace AB := Blk.on AB hb
  clear hb
  have PB_0 := Blk.cell PB 0 rfl
  have PB_1 := Blk.cell PB 1 rfl
  have PB_2 := Blk.cell PB 2 rfl
  have PB_3 := Blk.cell PB 3 rfl
  have PB_4 := Blk.cell PB 4 rfl
  have PB_5 := Blk.cell PB 5 rfl
  have PB_6 := Blk.cell PB 6 rfl
  have PB_f0 := Blk.free PB 0
  have PB_f1 := Blk.free PB 1
  have PB_f2 := Blk.free PB 2
  have PB_f3 := Blk.free PB 3
  have PB_f4 := Blk.free PB 4
  have PB_f5 := Blk.free PB 5
  have PB_f6 := Blk.free PB 6
  have DB_0 := Blk.cell DB 0 rfl
  have DB_1 := Blk.cell DB 1 rfl
  have DB_2 := Blk.cell DB 2 rfl
  have DB_f0 := Blk.free DB 0
  have DB_f1 := Blk.free DB 1
  have DB_f2 := Blk.free DB 2
  have AB_0 := Blk.cell AB 0 rfl
  have AB_1 := Blk.cell AB 1 rfl
  have AB_f0 := Blk.free AB 0
  have AB_f1 := Blk.free AB 1
  replace ms1 := Lv.alloc ms1 (.cells #[.slice S2 s2.length t2, .bool false] 100)
  replace ms2 := Lv.alloc ms2 (.cells #[.slice S2 s2.length t2, .bool false] 100)
  replace PB := Blk.alloc PB (.cells #[.slice S2 s2.length t2, .bool false] 100)
  replace DB := Blk.alloc DB (.cells #[.slice S2 s2.length t2, .bool false] 100)
  replace AB := Blk.alloc AB (.cells #[.slice S2 s2.length t2, .bool false] 100)
  have BB := Blk.new w2 [.slice S2 s2.length t2, .bool false] 100
  have PB_v2_0 := Blk.cell PB 0 rfl
  have PB_v2_1 := Blk.cell PB 1 rfl
  have PB_v2_2 := Blk.cell PB 2 rfl
  have PB_v2_3 := Blk.cell PB 3 rfl
  have PB_v2_4 := Blk.cell PB 4 rfl
  have PB_v2_5 := Blk.cell PB 5 rfl
  have PB_v2_6 := Blk.cell PB 6 rfl
  have PB_v2_f0 := Blk.free PB 0
  have PB_v2_f1 := Blk.free PB 1
  have PB_v2_f2 := Blk.free PB 2
  have PB_v2_f3 := Blk.free PB 3
  have PB_v2_f4 := Blk.free PB 4
  have PB_v2_f5 := Blk.free PB 5
  have PB_v2_f6 := Blk.free PB 6
  have DB_v3_0 := Blk.cell DB 0 rfl
  have DB_v3_1 := Blk.cell DB 1 rfl
  have DB_v3_2 := Blk.cell DB 2 rfl
  have DB_v3_f0 := Blk.free DB 0
  have DB_v3_f1 := Blk.free DB 1
  have DB_v3_f2 := Blk.free DB 2
  have AB_v4_0 := Blk.cell AB 0 rfl
  have AB_v4_1 := Blk.cell AB 1 rfl
  have AB_v4_f0 := Blk.free AB 0
  have AB_v4_f1 := Blk.free AB 1
  have BB_0 := Blk.cell BB 0 rfl
  have BB_1 := Blk.cell BB 1 rfl
  have BB_f0 := Blk.free BB 0
  have BB_f1 := Blk.free BB 1
  go_wp2_with fail
  with_reducible refine (less_no ms1 ks1 ms2 ks2 (by rw [vs1.out, vs2.out]; exact HV.out.2.2.2.2)).mono ?_
  rintro e w3 ⟨rfl, hb⟩
  clear PB_0 PB_1 PB_2 PB_3 PB_4 PB_5 PB_6 PB_f0 PB_f1 PB_f2 PB_f3 PB_f4 PB_f5 PB_f6 PB_v2_0 PB_v2_1 PB_v2_2 PB_v2_3 PB_v2_4 PB_v2_5 PB_v2_6 PB_v2_f0 PB_v2_f1 PB_v2_f2 PB_v2_f3 PB_v2_f4 PB_v2_f5 PB_v2_f6
  clear DB_0 DB_1 DB_2 DB_f0 DB_f1 DB_f2 DB_v3_0 DB_v3_1 DB_v3_2 DB_v3_f0 DB_v3_f1 DB_v3_f2
  clear AB_0 AB_1 AB_f0 AB_f1 AB_v4_0 AB_v4_1 AB_v4_f0 AB_v4_f1
  clear BB_0 BB_1 BB_f0 BB_f1
  have hs3 := hb.size
  try simp only [World.size_alloc, World.size_setCell] at hs3
  replace bw : Below w.heap.size w w3 := dy_end (by go_grown) hb
  replace ms1 := Lv.on ms1 hb
  replace ms2 := Lv.on ms2 hb
  replace PB := Blk.on PB hb
  replace DB := Blk.on DB hb
  replace AB := Blk.on AB hb
  replace BB := Blk.on BB hb
  clear hb
  have PB_0 := Blk.cell PB 0 rfl
  have PB_1 := Blk.cell PB 1 rfl
  have PB_2 := Blk.cell PB 2 rfl
  have PB_3 := Blk.cell PB 3 rfl
  have PB_4 := Blk.cell PB 4 rfl
  have PB_5 := Blk.cell PB 5 rfl
  have PB_6 := Blk.cell PB 6 rfl
  have PB_f0 := Blk.free PB 0
  have PB_f1 := Blk.free PB 1
  have PB_f2 := Blk.free PB 2
  have PB_f3 := Blk.free PB 3
  have PB_f4 := Blk.free PB 4
  have PB_f5 := Blk.free PB 5
  have PB_f6 := Blk.free PB 6
  have DB_0 := Blk.cell DB 0 rfl
  have DB_1 := Blk.cell DB 1 rfl
  have DB_2 := Blk.cell DB 2 rfl
  have DB_f0 := Blk.free DB 0
  have DB_f1 := Blk.free DB 1
  have DB_f2 := Blk.free DB 2
  have AB_0 := Blk.cell AB 0 rfl
  have AB_1 := Blk.cell AB 1 rfl
  have AB_f0 := Blk.free AB 0
  have AB_f1 := Blk.free AB 1
  have BB_0 := Blk.cell BB 0 rfl
  have BB_1 := Blk.cell BB 1 rfl
  have BB_f0 := Blk.free BB 0
  have BB_f1 := Blk.free BB 1
  replace ms1 := Lv.alloc ms1 (.cells #[.slice none 0 0, .bool false] 100)
  replace ms2 := Lv.alloc ms2 (.cells #[.slice none 0 0, .bool false] 100)
  replace PB := Blk.alloc PB (.cells #[.slice none 0 0, .bool false] 100)
  replace DB := Blk.alloc DB (.cells #[.slice none 0 0, .bool false] 100)
  replace AB := Blk.alloc AB (.cells #[.slice none 0 0, .bool false] 100)
  replace BB := Blk.alloc BB (.cells #[.slice none 0 0, .bool false] 100)
  have EB := Blk.new w3 [.slice none 0 0, .bool false] 100
  have PB_v5_0 := Blk.cell PB 0 rfl
  have PB_v5_1 := Blk.cell PB 1 rfl
  have PB_v5_2 := Blk.cell PB 2 rfl
  have PB_v5_3 := Blk.cell PB 3 rfl
  have PB_v5_4 := Blk.cell PB 4 rfl
  have PB_v5_5 := Blk.cell PB 5 rfl
  have PB_v5_6 := Blk.cell PB 6 rfl
  have PB_v5_f0 := Blk.free PB 0
  have PB_v5_f1 := Blk.free PB 1
  have PB_v5_f2 := Blk.free PB 2
  have PB_v5_f3 := Blk.free PB 3
  have PB_v5_f4 := Blk.free PB 4
  have PB_v5_f5 := Blk.free PB 5
  have PB_v5_f6 := Blk.free PB 6
  have DB_v6_0 := Blk.cell DB 0 rfl
  have DB_v6_1 := Blk.cell DB 1 rfl
  have DB_v6_2 := Blk.cell DB 2 rfl
  have DB_v6_f0 := Blk.free DB 0
  have DB_v6_f1 := Blk.free DB 1
  have DB_v6_f2 := Blk.free DB 2
  have AB_v7_0 := Blk.cell AB 0 rfl
  have AB_v7_1 := Blk.cell AB 1 rfl
  have AB_v7_f0 := Blk.free AB 0
  have AB_v7_f1 := Blk.free AB 1
  have BB_v8_0 := Blk.cell BB 0 rfl
  have BB_v8_1 := Blk.cell BB 1 rfl
  have BB_v8_f0 := Blk.free BB 0
  have BB_v8_f1 := Blk.free BB 1
  have EB_0 := Blk.cell EB 0 rfl
  have EB_1 := Blk.cell EB 1 rfl
  have EB_f0 := Blk.free EB 0
  have EB_f1 := Blk.free EB 1
  go_wp2_with fail
  with_reducible refine (less_yes ms2 ks2 ms1 ks1 (by rw [vs1.out, vs2.out]; exact Int.le_of_lt HV.out.2.2.2.2)).mono ?_
  rintro e w4 ⟨s3, S3, t3, rfl, ns3, vs3, ks3, ms3, hb⟩
  clear PB_0 PB_1 PB_2 PB_3 PB_4 PB_5 PB_6 PB_f0 PB_f1 PB_f2 PB_f3 PB_f4 PB_f5 PB_f6 PB_v5_0 PB_v5_1 PB_v5_2 PB_v5_3 PB_v5_4 PB_v5_5 PB_v5_6 PB_v5_f0 PB_v5_f1 PB_v5_f2 PB_v5_f3 PB_v5_f4 PB_v5_f5 PB_v5_f6
  clear DB_0 DB_1 DB_2 DB_f0 DB_f1 DB_f2 DB_v6_0 DB_v6_1 DB_v6_2 DB_v6_f0 DB_v6_f1 DB_v6_f2
  clear AB_0 AB_1 AB_f0 AB_f1 AB_v7_0 AB_v7_1 AB_v7_f0 AB_v7_f1
  clear BB_0 BB_1 BB_f0 BB_f1 BB_v8_0 BB_v8_1 BB_v8_f0 BB_v8_f1
  clear EB_0 EB_1 EB_f0 EB_f1
  have hs4 := hb.size
  try simp only [World.size_alloc, World.size_setCell] at hs4
  replace bw : Below w.heap.size w w4 := dy_end (by go_grown) hb
  replace ms1 := Lv.on ms1 hb
  replace ms2 := Lv.on ms2 hb
  replace PB := Blk.on PB hb
  replace DB := Blk.on DB hb
  replace AB := Blk.on AB hb
  replace BB := Blk.on BB hb
  replace EB := Blk.on EB hb
  clear hb
  have PB_0 := Blk.cell PB 0 rfl
  have PB_1 := Blk.cell PB 1 rfl
  have PB_2 := Blk.cell PB 2 rfl
  have PB_3 := Blk.cell PB 3 rfl
  have PB_4 := Blk.cell PB 4 rfl
  have PB_5 := Blk.cell PB 5 rfl
  have PB_6 := Blk.cell PB 6 rfl
  have PB_f0 := Blk.free PB 0
  have PB_f1 := Blk.free PB 1
  have PB_f2 := Blk.free PB 2
  have PB_f3 := Blk.free PB 3
  have PB_f4 := Blk.free PB 4
  have PB_f5 := Blk.free PB 5
  have PB_f6 := Blk.free PB 6
  have DB_0 := Blk.cell DB 0 rfl
  have DB_1 := Blk.cell DB 1 rfl
  have DB_2 := Blk.cell DB 2 rfl
  have DB_f0 := Blk.free DB 0
  have DB_f1 := Blk.free DB 1
  have DB_f2 := Blk.free DB 2
  have AB_0 := Blk.cell AB 0 rfl
  have AB_1 := Blk.cell AB 1 rfl
  have AB_f0 := Blk.free AB 0
  have AB_f1 := Blk.free AB 1
  have BB_0 := Blk.cell BB 0 rfl
  have BB_1 := Blk.cell BB 1 rfl
  have BB_f0 := Blk.free BB 0
  have BB_f1 := Blk.free BB 1
  have EB_0 := Blk.cell EB 0 rfl
  have EB_1 := Blk.cell EB 1 rfl
  have EB_f0 := Blk.free EB 0
  have EB_f1 := Blk.free EB 1
  replace ms1 := Lv.alloc ms1 (.cells #[.slice S3 s3.length t3, .bool false] 100)
  replace ms2 := Lv.alloc ms2 (.cells #[.slice S3 s3.length t3, .bool false] 100)
  replace ms3 := Lv.alloc ms3 (.cells #[.slice S3 s3.length t3, .bool false] 100)
  replace PB := Blk.alloc PB (.cells #[.slice S3 s3.length t3, .bool false] 100)
  replace DB := Blk.alloc DB (.cells #[.slice S3 s3.length t3, .bool false] 100)
  replace AB := Blk.alloc AB (.cells #[.slice S3 s3.length t3, .bool false] 100)
  replace BB := Blk.alloc BB (.cells #[.slice S3 s3.length t3, .bool false] 100)
  replace EB := Blk.alloc EB (.cells #[.slice S3 s3.length t3, .bool false] 100)
  have CB := Blk.new w4 [.slice S3 s3.length t3, .bool false] 100
  have PB_v9_0 := Blk.cell PB 0 rfl
  have PB_v9_1 := Blk.cell PB 1 rfl
  have PB_v9_2 := Blk.cell PB 2 rfl
  have PB_v9_3 := Blk.cell PB 3 rfl
  have PB_v9_4 := Blk.cell PB 4 rfl
  have PB_v9_5 := Blk.cell PB 5 rfl
  have PB_v9_6 := Blk.cell PB 6 rfl
  have PB_v9_f0 := Blk.free PB 0
  have PB_v9_f1 := Blk.free PB 1
  have PB_v9_f2 := Blk.free PB 2
  have PB_v9_f3 := Blk.free PB 3
  have PB_v9_f4 := Blk.free PB 4
  have PB_v9_f5 := Blk.free PB 5
  have PB_v9_f6 := Blk.free PB 6
  have DB_v10_0 := Blk.cell DB 0 rfl
  have DB_v10_1 := Blk.cell DB 1 rfl
  have DB_v10_2 := Blk.cell DB 2 rfl
  have DB_v10_f0 := Blk.free DB 0
  have DB_v10_f1 := Blk.free DB 1
  have DB_v10_f2 := Blk.free DB 2
  have AB_v11_0 := Blk.cell AB 0 rfl
  have AB_v11_1 := Blk.cell AB 1 rfl
  have AB_v11_f0 := Blk.free AB 0
  have AB_v11_f1 := Blk.free AB 1
  have BB_v12_0 := Blk.cell BB 0 rfl
  have BB_v12_1 := Blk.cell BB 1 rfl
  have BB_v12_f0 := Blk.free BB 0
  have BB_v12_f1 := Blk.free BB 1
  have EB_v13_0 := Blk.cell EB 0 rfl
  have EB_v13_1 := Blk.cell EB 1 rfl
  have EB_v13_f0 := Blk.free EB 0
  have EB_v13_f1 := Blk.free EB 1
  have CB_0 := Blk.cell CB 0 rfl
  have CB_1 := Blk.cell CB 1 rfl
  have CB_f0 := Blk.free CB 0
  have CB_f1 := Blk.free CB 1
  go_wp2_with fail
  with_reducible refine (number_any (b := b2) (x := p) ms3 ks3 (hT.onD (by go_grown)) x0 (by omega)).mono ?_
  rintro e w5 ⟨b4, q4, A4, c4, x4, rfl, hd4, m4, hb⟩
  clear PB_0 PB_1 PB_2 PB_3 PB_4 PB_5 PB_6 PB_f0 PB_f1 PB_f2 PB_f3 PB_f4 PB_f5 PB_f6 PB_v9_0 PB_v9_1 PB_v9_2 PB_v9_3 PB_v9_4 PB_v9_5 PB_v9_6 PB_v9_f0 PB_v9_f1 PB_v9_f2 PB_v9_f3 PB_v9_f4 PB_v9_f5 PB_v9_f6
  clear DB_0 DB_1 DB_2 DB_f0 DB_f1 DB_f2 DB_v10_0 DB_v10_1 DB_v10_2 DB_v10_f0 DB_v10_f1 DB_v10_f2
  clear AB_0 AB_1 AB_f0 AB_f1 AB_v11_0 AB_v11_1 AB_v11_f0 AB_v11_f1
  clear BB_0 BB_1 BB_f0 BB_f1 BB_v12_0 BB_v12_1 BB_v12_f0 BB_v12_f1
  clear EB_0 EB_1 EB_f0 EB_f1 EB_v13_0 EB_v13_1 EB_v13_f0 EB_v13_f1
  clear CB_0 CB_1 CB_f0 CB_f1
  have hs5 := hb.size
  try simp only [World.size_alloc, World.size_setCell] at hs5
  replace bw : Below w.heap.size w w5 := dy_end (by go_grown) hb
  replace ms1 := Lv.on ms1 hb
  replace ms2 := Lv.on ms2 hb
  replace ms3 := Lv.on ms3 hb
  replace PB := Blk.on PB hb
  replace DB := Blk.on DB hb
  replace AB := Blk.on AB hb
  replace BB := Blk.on BB hb
  replace EB := Blk.on EB hb
  replace CB := Blk.on CB hb
  clear hb
  have PB_0 := Blk.cell PB 0 rfl
  have PB_1 := Blk.cell PB 1 rfl
  have PB_2 := Blk.cell PB 2 rfl
  have PB_3 := Blk.cell PB 3 rfl
  have PB_4 := Blk.cell PB 4 rfl
  have PB_5 := Blk.cell PB 5 rfl
  have PB_6 := Blk.cell PB 6 rfl
  have PB_f0 := Blk.free PB 0
  have PB_f1 := Blk.free PB 1
  have PB_f2 := Blk.free PB 2
  have PB_f3 := Blk.free PB 3
  have PB_f4 := Blk.free PB 4
  have PB_f5 := Blk.free PB 5
  have PB_f6 := Blk.free PB 6
  have DB_0 := Blk.cell DB 0 rfl
  have DB_1 := Blk.cell DB 1 rfl
  have DB_2 := Blk.cell DB 2 rfl
  have DB_f0 := Blk.free DB 0
  have DB_f1 := Blk.free DB 1
  have DB_f2 := Blk.free DB 2
  have AB_0 := Blk.cell AB 0 rfl
  have AB_1 := Blk.cell AB 1 rfl
  have AB_f0 := Blk.free AB 0
  have AB_f1 := Blk.free AB 1
  have BB_0 := Blk.cell BB 0 rfl
  have BB_1 := Blk.cell BB 1 rfl
  have BB_f0 := Blk.free BB 0
  have BB_f1 := Blk.free BB 1
  have EB_0 := Blk.cell EB 0 rfl
  have EB_1 := Blk.cell EB 1 rfl
  have EB_f0 := Blk.free EB 0
  have EB_f1 := Blk.free EB 1
  have CB_0 := Blk.cell CB 0 rfl
  have CB_1 := Blk.cell CB 1 rfl
  have CB_f0 := Blk.free CB 0
  have CB_f1 := Blk.free CB 1
  rw [vs3.out, vs1.out, vs2.out, HT2.out] at hd4
  go_wp2_with fail
  refine bodyPost_ret (v := .tuple #[dyV b4 A4 q4.length c4 x4, .int .i64 0]) (by simp [results, Tryz.results65, go_sem, DB_0, DB_1, DB_2]) rfl ?_
  exact ⟨b4, q4, A4, c4, x4, rfl, hd4, m4.put DB _ _ _ _ _, by go_grown⟩

end
end Go.Proofs.YtmfikppnkjhmjaaGreatDoor
