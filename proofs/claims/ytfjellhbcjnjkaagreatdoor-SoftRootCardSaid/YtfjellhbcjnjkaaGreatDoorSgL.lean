/-
  Layer 4, walks, part eleven: the operations of floats.
-/
import Derived.Test.YtfjellhbcjnjkaaGreatDoorSgH
import Derived.Test.YtfjellhbcjnjkaaGreatDoorSgI
namespace Go.Proofs.YtfjellhbcjnjkaaGreatDoor
open Go.RowKit Go.Sort Go.Bw
set_option linter.unusedVariables false
set_option linter.unusedSimpArgs false

/-- a number of a class that is met, within bounds -/
structure Gd (n : Nu) (P Q : Int) : Prop where
  cc : n.c = 1 ∨ n.c = 3 ∨ n.c = 4 ∨ n.c = 5
  ok : n.d.Ok
  inn : n.d.In P Q
theorem Gd.rng {n : Nu} {P Q : Int} (h : Gd n P Q) : rng n.c := by
  have := h.cc
  exact ⟨by omega, by omega⟩
theorem Gd.okE {n : Nu} {P Q : Int} (h : Gd n P Q) (hp : -262144 ≤ P) (hq : Q ≤ 262144) : okE n.d.exp = true := in_okE h.ok h.inn hp hq
theorem Gd.mono {n : Nu} {P Q P' Q' : Int} (h : Gd n P Q) (hp : P' ≤ P) (hq : Q ≤ Q') : Gd n P' Q' := ⟨h.cc, h.ok, h.inn.mono hp hq⟩
theorem gd_w (y : Nat) : Gd (nuW y) (-1074) 1024 := by
  have hb := cls_bd (y : Int)
  unfold nuW
  refine ⟨?_, ?_, ?_⟩
  · simp only; split <;> omega
  · simp only; split
    · exact wN_ok y
    · exact zeroN_ok
  · simp only; split
    · rename_i h; exact wN_in y h
    · exact zeroN_in _ _
theorem gd_n {d : Nf} {P Q : Int} (hd : d.Ok) (h : d.In P Q) : Gd (nuN d) P Q := by
  unfold nuN
  split
  · exact ⟨.inl rfl, zeroN_ok, zeroN_in _ _⟩
  · exact ⟨.inr (.inl rfl), hd, h⟩
theorem gd_c {f : Int → Int → Int} {r : Nf → Nf → Nu} {a b : Nu} {P Q : Int} (ha : Gd a P Q) (hb : Gd b P Q) (hr : f a.c b.c = 0 → Gd (r a.d b.d) P Q) (hf : 0 ≤ f a.c b.c ∧ f a.c b.c ≤ 7) : Gd (nuC f r a b) P Q := by
  have z : ∀ (k : Int) (s : Bool), k = 1 ∨ k = 3 ∨ k = 4 ∨ k = 5 → Gd ⟨k, s, zeroN⟩ P Q := fun k s h => ⟨h, zeroN_ok, zeroN_in _ _⟩
  unfold nuC
  split
  · exact z _ _ (by omega)
  · split
    · exact ha
    · split
      · exact hb
      · split
        · exact z _ _ (by omega)
        · split
          · exact z _ _ (by omega)
          · split
            · exact z _ _ (by omega)
            · exact hr (by omega)
theorem quotD_word (d e : Nf) : quotD d e ≤ 18446744073709551615 := by
  unfold quotD quotW ratio
  exact (near_word _ _ _).1
theorem rootD_word (d : Nf) : rootD d ≤ 18446744073709551615 := by
  unfold rootD rootW rootR
  exact (near_word _ _ _).1
theorem dn_bits {b : Bool} {l : List Int} {x : Int} {d : Nf} (hd : Dn b l x d) (hl : Lim 18446744073709551616 l) (hi : d.In (-1074) 1024) (h0 : d.man ≠ 0) :
    ∃ k : Nat, IsBits (val 18446744073709551616 l) k ∧ k ≤ 2098 ∧ l.length ≤ 33 ∧ 0 < val 18446744073709551616 l ∧ okE x = true := by
  have hm := hd.man hl
  have hv : 0 < val 18446744073709551616 l := by omega
  obtain ⟨k, hk⟩ := exists_bitsQ _ (Int.le_of_lt hv)
  have hlt := hi.lt (by omega)
  rw [hm] at hlt
  have hkk : k ≤ 2098 := by
    rcases Nat.eq_zero_or_pos k with g | g
    · omega
    · have h1 := Int.lt_of_le_of_lt (hk.2.2 g) hlt
      have := pow_lt_inv h1
      omega
  refine ⟨k, hk, hkk, ?_, hv, ?_⟩
  · refine length_le_of_lt (b := 18446744073709551616) (by omega) hl hd.1 ?_
    rw [pow64]
    exact Int.lt_of_lt_of_le hlt (pw_mono (by omega))
  · rw [← hd.exp]
    exact in_okE hd.2.2.2 hi (by omega) (by omega)
section
variable {b1 : Bool} {A1 : Option Addr} {c1 : Nat} {x1 : Int} {l1 : List Int} {w : World} {d1 : Nf}
variable {b2 : Bool} {A2 : Option Addr} {c2 : Nat} {x2 : Int} {l2 : List Int} {d2 : Nf}
variable {k1 k2 : Int} {s1 s2 : Bool}
theorem quot_dn (hd1 : Dn b1 l1 x1 d1) (h1 : Lv w A1 l1.length c1 l1) (hd2 : Dn b2 l2 x2 d2) (h2 : Lv w A2 l2.length c2 l2) (hT : Tab w) (i1 : d1.In (-1074) 1024) (i2 : d2.In (-1074) 1024) (n1 : d1.man ≠ 0) (n2 : d2.man ≠ 0) :
    Calls Tryz.prog 24 #[dyV b1 A1 l1.length c1 x1, dyV b2 A2 l2.length c2 x2] w fun e w' => e = .returned (.tuple #[.float .f64 (quotD d1 d2), .int .i64 0]) ∧ Below w.heap.size w w' := by
  obtain ⟨j1, B1, j1k, L1, v1, o1⟩ := dn_bits hd1 h1.2.2 i1 n1
  obtain ⟨j2, B2, j2k, L2, v2, o2⟩ := dn_bits hd2 h2.2.2 i2 n2
  have m1 := hd1.man h1.2.2
  have m2 := hd2.man h2.2.2
  have e : quotD d1 d2 = quotW (b1 != b2) (val 18446744073709551616 l1).toNat (val 18446744073709551616 l2).toNat (x1 - x2) := by
    unfold quotD
    rw [hd1.neg, hd2.neg, hd1.exp, hd2.exp, ← m1, ← m2, Int.toNat_natCast, Int.toNat_natCast]
  rw [e]
  cases hL : broL (val 18446744073709551616 l1) (j2 + 63 - j1)
  · exact quot_mf h1 (by omega) h2 (by omega) hT (by omega) o1 o2 v2 v1 (Lib.hid B1) (by omega) (Lib.hid B2) (by omega) hL
  · exact quot_mt h1 (by omega) h2 (by omega) hT (by omega) o1 o2 v2 v1 (Lib.hid B1) (by omega) (Lib.hid B2) (by omega) hL
theorem root_dn (hd1 : Dn false l1 x1 d1) (h1 : Lv w A1 l1.length c1 l1) (hT : Tab w) (i1 : d1.In (-1074) 1024) (n1 : d1.man ≠ 0) :
    Calls Tryz.prog 28 #[dyV false A1 l1.length c1 x1] w fun e w' => e = .returned (.tuple #[.float .f64 (rootD d1), .int .i64 0]) ∧ Below w.heap.size w w' := by
  obtain ⟨j1, B1, j1k, L1, v1, o1⟩ := dn_bits hd1 h1.2.2 i1 n1
  have m1 := hd1.man h1.2.2
  have e : rootD d1 = rootW (val 18446744073709551616 l1).toNat x1 := by
    unfold rootD
    rw [hd1.exp, ← m1, Int.toNat_natCast]
  rw [e]
  cases hL : broL (val 18446744073709551616 l1) (128 - j1 - (x1 - (128 - j1)) % 2)
  · exact root_mf h1 (by omega) hT (by omega) o1 v1 (Lib.hid B1) (by omega) hL
  · exact root_mt h1 (by omega) hT (by omega) o1 v1 (Lib.hid B1) (by omega) hL
set_option maxRecDepth 100000 in
set_option maxHeartbeats 4000000 in
theorem quoOne_any (hd1 : Dn b1 l1 x1 d1) (h1 : Lv w A1 l1.length c1 l1) (hd2 : Dn b2 l2 x2 d2) (h2 : Lv w A2 l2.length c2 l2) (hT : Tab w) (i1 : d1.In (-1074) 1024) (i2 : d2.In (-1074) 1024) (n1 : d1.man ≠ 0) (n2 : d2.man ≠ 0) :
    Calls Tryz.prog 80 #[dyV b1 A1 l1.length c1 x1, dyV b2 A2 l2.length c2 x2] w (NuP (nuW (quotD d1 d2)) w) := by
  have PB := Blk.new w [.bool b1, .slice A1 l1.length c1, .int .i64 x1] 35
  have QB := Blk.new (w.alloc (.cells #[.bool b1, .slice A1 l1.length c1, .int .i64 x1] 35)) [.bool b2, .slice A2 l2.length c2, .int .i64 x2] 35
  simp only [World.size_alloc] at QB
  replace PB := Blk.alloc PB (.cells #[.bool b2, .slice A2 l2.length c2, .int .i64 x2] 35)
  have RB := Blk.new ((w.alloc (.cells #[.bool b1, .slice A1 l1.length c1, .int .i64 x1] 35)).alloc (.cells #[.bool b2, .slice A2 l2.length c2, .int .i64 x2] 35)) [.int .i64 0, .bool false, .bool false, .slice none 0 0, .int .i64 0] 52
  simp only [World.size_alloc] at RB
  replace PB := Blk.alloc PB (.cells #[.int .i64 0, .bool false, .bool false, .slice none 0 0, .int .i64 0] 52)
  replace QB := Blk.alloc QB (.cells #[.int .i64 0, .bool false, .bool false, .slice none 0 0, .int .i64 0] 52)
  have bw : Below w.heap.size w (((w.alloc (.cells #[.bool b1, .slice A1 l1.length c1, .int .i64 x1] 35)).alloc (.cells #[.bool b2, .slice A2 l2.length c2, .int .i64 x2] 35)).alloc (.cells #[.int .i64 0, .bool false, .bool false, .slice none 0 0, .int .i64 0] 52)) := by go_grown
  have PB_0 := Blk.cell PB 0 rfl
  have PB_1 := Blk.cell PB 1 rfl
  have PB_2 := Blk.cell PB 2 rfl
  have PB_f0 := Blk.free PB 0
  have PB_f1 := Blk.free PB 1
  have PB_f2 := Blk.free PB 2
  have QB_0 := Blk.cell QB 0 rfl
  have QB_1 := Blk.cell QB 1 rfl
  have QB_2 := Blk.cell QB 2 rfl
  have QB_f0 := Blk.free QB 0
  have QB_f1 := Blk.free QB 1
  have QB_f2 := Blk.free QB 2
  have RB_0 := Blk.cell RB 0 rfl
  have RB_1 := Blk.cell RB 1 rfl
  have RB_2 := Blk.cell RB 2 rfl
  have RB_3 := Blk.cell RB 3 rfl
  have RB_4 := Blk.cell RB 4 rfl
  have RB_f0 := Blk.free RB 0
  have RB_f1 := Blk.free RB 1
  have RB_f2 := Blk.free RB 2
  have RB_f3 := Blk.free RB 3
  have RB_f4 := Blk.free RB 4
  replace h1 := h1.on bw
  replace h2 := h2.on bw
  have hw := quotD_word d1 d2
  have pq := fun W (m1 : Lv W A1 l1.length c1 l1) (m2 : Lv W A2 l2.length c2 l2) (tt : Tab W) => quot_dn hd1 m1 hd2 m2 tt i1 i2 n1 n2
  generalize quotD d1 d2 = z at *
  go_enter Tryz.func80, Tryz.ntmps80
  go_wp2_with fail
  with_reducible refine (pq _ h1 h2 (hT.onD (by go_grown))).mono ?_
  rintro e w1 ⟨rfl, hb⟩
  clear PB_0 PB_1 PB_2 PB_f0 PB_f1 PB_f2
  clear QB_0 QB_1 QB_2 QB_f0 QB_f1 QB_f2
  clear RB_0 RB_1 RB_2 RB_3 RB_4 RB_f0 RB_f1 RB_f2 RB_f3 RB_f4
  have hs1 := hb.size
  try simp only [World.size_alloc, World.size_setCell] at hs1
  replace bw : Below w.heap.size w w1 := dy_end (by go_grown) hb
  replace h1 := Lv.on h1 hb
  replace h2 := Lv.on h2 hb
  replace PB := Blk.on PB hb
  replace QB := Blk.on QB hb
  replace RB := Blk.on RB hb
  clear hb
  have PB_0 := Blk.cell PB 0 rfl
  have PB_1 := Blk.cell PB 1 rfl
  have PB_2 := Blk.cell PB 2 rfl
  have PB_f0 := Blk.free PB 0
  have PB_f1 := Blk.free PB 1
  have PB_f2 := Blk.free PB 2
  have QB_0 := Blk.cell QB 0 rfl
  have QB_1 := Blk.cell QB 1 rfl
  have QB_2 := Blk.cell QB 2 rfl
  have QB_f0 := Blk.free QB 0
  have QB_f1 := Blk.free QB 1
  have QB_f2 := Blk.free QB 2
  have RB_0 := Blk.cell RB 0 rfl
  have RB_1 := Blk.cell RB 1 rfl
  have RB_2 := Blk.cell RB 2 rfl
  have RB_3 := Blk.cell RB 3 rfl
  have RB_4 := Blk.cell RB 4 rfl
  have RB_f0 := Blk.free RB 0
  have RB_f1 := Blk.free RB 1
  have RB_f2 := Blk.free RB 2
  have RB_f3 := Blk.free RB 3
  have RB_f4 := Blk.free RB 4
  go_wp2_with fail
  with_reducible refine (nof_any z hw (hT.onD (by go_grown))).mono ?_
  rintro e w2 ⟨b4, l4, A4, c4, x4, rfl, hd4, m4, hb⟩
  clear PB_0 PB_1 PB_2 PB_f0 PB_f1 PB_f2
  clear QB_0 QB_1 QB_2 QB_f0 QB_f1 QB_f2
  clear RB_0 RB_1 RB_2 RB_3 RB_4 RB_f0 RB_f1 RB_f2 RB_f3 RB_f4
  have hs2 := hb.size
  try simp only [World.size_alloc, World.size_setCell] at hs2
  replace bw : Below w.heap.size w w2 := dy_end (by go_grown) hb
  replace h1 := Lv.on h1 hb
  replace h2 := Lv.on h2 hb
  replace PB := Blk.on PB hb
  replace QB := Blk.on QB hb
  replace RB := Blk.on RB hb
  clear hb
  have PB_0 := Blk.cell PB 0 rfl
  have PB_1 := Blk.cell PB 1 rfl
  have PB_2 := Blk.cell PB 2 rfl
  have PB_f0 := Blk.free PB 0
  have PB_f1 := Blk.free PB 1
  have PB_f2 := Blk.free PB 2
  have QB_0 := Blk.cell QB 0 rfl
  have QB_1 := Blk.cell QB 1 rfl
  have QB_2 := Blk.cell QB 2 rfl
  have QB_f0 := Blk.free QB 0
  have QB_f1 := Blk.free QB 1
  have QB_f2 := Blk.free QB 2
  have RB_0 := Blk.cell RB 0 rfl
  have RB_1 := Blk.cell RB 1 rfl
  have RB_2 := Blk.cell RB 2 rfl
  have RB_3 := Blk.cell RB 3 rfl
  have RB_4 := Blk.cell RB 4 rfl
  have RB_f0 := Blk.free RB 0
  have RB_f1 := Blk.free RB 1
  have RB_f2 := Blk.free RB 2
  have RB_f3 := Blk.free RB 3
  have RB_f4 := Blk.free RB 4
  go_wp2_with fail
  refine bodyPost_ret (v := nuV (nuW z).c (nuW z).neg b4 A4 l4.length c4 x4) (by simp [results, Tryz.results80, go_sem, PB_0, PB_1, PB_2, PB_f0, PB_f1, PB_f2, QB_0, QB_1, QB_2, QB_f0, QB_f1, QB_f2, RB_0, RB_1, RB_2, RB_3, RB_4, RB_f0, RB_f1, RB_f2, RB_f3, RB_f4]) rfl ?_
  exact ⟨b4, l4, A4, c4, x4, rfl, hd4, m4.put5 RB _ _ _ _ _ _ _, by go_grown⟩

set_option maxRecDepth 100000 in
set_option maxHeartbeats 4000000 in
theorem nquo_any (rx : rng k1) (ry : rng k2) (hd1 : Dn b1 l1 x1 d1) (h1 : Lv w A1 l1.length c1 l1) (hd2 : Dn b2 l2 x2 d2) (h2 : Lv w A2 l2.length c2 l2) (hT : Tab w) (i1 : d1.In (-1074) 1024) (i2 : d2.In (-1074) 1024) (n0 : quoT k1 k2 = 0 → d1.man ≠ 0 ∧ d2.man ≠ 0) :
    Calls Tryz.prog 43 #[nuV k1 s1 b1 A1 l1.length c1 x1, nuV k2 s2 b2 A2 l2.length c2 x2] w (NuP (nuQuo ⟨k1, s1, d1⟩ ⟨k2, s2, d2⟩) w) := by
  have PB := Blk.new w [.int .i64 (k1), .bool (s1), .bool b1, .slice A1 l1.length c1, .int .i64 x1] 52
  have QB := Blk.new (w.alloc (.cells #[.int .i64 (k1), .bool (s1), .bool b1, .slice A1 l1.length c1, .int .i64 x1] 52)) [.int .i64 (k2), .bool (s2), .bool b2, .slice A2 l2.length c2, .int .i64 x2] 52
  simp only [World.size_alloc] at QB
  replace PB := Blk.alloc PB (.cells #[.int .i64 (k2), .bool (s2), .bool b2, .slice A2 l2.length c2, .int .i64 x2] 52)
  have RB := Blk.new ((w.alloc (.cells #[.int .i64 (k1), .bool (s1), .bool b1, .slice A1 l1.length c1, .int .i64 x1] 52)).alloc (.cells #[.int .i64 (k2), .bool (s2), .bool b2, .slice A2 l2.length c2, .int .i64 x2] 52)) [.int .i64 0, .bool false, .bool false, .slice none 0 0, .int .i64 0] 52
  simp only [World.size_alloc] at RB
  replace PB := Blk.alloc PB (.cells #[.int .i64 0, .bool false, .bool false, .slice none 0 0, .int .i64 0] 52)
  replace QB := Blk.alloc QB (.cells #[.int .i64 0, .bool false, .bool false, .slice none 0 0, .int .i64 0] 52)
  have bw : Below w.heap.size w (((w.alloc (.cells #[.int .i64 (k1), .bool (s1), .bool b1, .slice A1 l1.length c1, .int .i64 x1] 52)).alloc (.cells #[.int .i64 (k2), .bool (s2), .bool b2, .slice A2 l2.length c2, .int .i64 x2] 52)).alloc (.cells #[.int .i64 0, .bool false, .bool false, .slice none 0 0, .int .i64 0] 52)) := by go_grown
  have PB_0 := Blk.cell PB 0 rfl
  have PB_1 := Blk.cell PB 1 rfl
  have PB_2 := Blk.cell PB 2 rfl
  have PB_3 := Blk.cell PB 3 rfl
  have PB_4 := Blk.cell PB 4 rfl
  have PB_f0 := Blk.free PB 0
  have PB_f1 := Blk.free PB 1
  have PB_f2 := Blk.free PB 2
  have PB_f3 := Blk.free PB 3
  have PB_f4 := Blk.free PB 4
  have QB_0 := Blk.cell QB 0 rfl
  have QB_1 := Blk.cell QB 1 rfl
  have QB_2 := Blk.cell QB 2 rfl
  have QB_3 := Blk.cell QB 3 rfl
  have QB_4 := Blk.cell QB 4 rfl
  have QB_f0 := Blk.free QB 0
  have QB_f1 := Blk.free QB 1
  have QB_f2 := Blk.free QB 2
  have QB_f3 := Blk.free QB 3
  have QB_f4 := Blk.free QB 4
  have RB_0 := Blk.cell RB 0 rfl
  have RB_1 := Blk.cell RB 1 rfl
  have RB_2 := Blk.cell RB 2 rfl
  have RB_3 := Blk.cell RB 3 rfl
  have RB_4 := Blk.cell RB 4 rfl
  have RB_f0 := Blk.free RB 0
  have RB_f1 := Blk.free RB 1
  have RB_f2 := Blk.free RB 2
  have RB_f3 := Blk.free RB 3
  have RB_f4 := Blk.free RB 4
  replace h1 := h1.on bw
  replace h2 := h2.on bw
  go_enter Tryz.func43, Tryz.ntmps43
  go_wp2_with fail
  have hb : Below (((w.alloc (.cells #[.int .i64 (k1), .bool (s1), .bool b1, .slice A1 l1.length c1, .int .i64 x1] 52)).alloc (.cells #[.int .i64 (k2), .bool (s2), .bool b2, .slice A2 l2.length c2, .int .i64 x2] 52)).alloc (.cells #[.int .i64 0, .bool false, .bool false, .slice none 0 0, .int .i64 0] 52)).heap.size (((w.alloc (.cells #[.int .i64 (k1), .bool (s1), .bool b1, .slice A1 l1.length c1, .int .i64 x1] 52)).alloc (.cells #[.int .i64 (k2), .bool (s2), .bool b2, .slice A2 l2.length c2, .int .i64 x2] 52)).alloc (.cells #[.int .i64 0, .bool false, .bool false, .slice none 0 0, .int .i64 0] 52)) (((w.alloc (.cells #[.int .i64 (k1), .bool (s1), .bool b1, .slice A1 l1.length c1, .int .i64 x1] 52)).alloc (.cells #[.int .i64 (k2), .bool (s2), .bool b2, .slice A2 l2.length c2, .int .i64 x2] 52)).alloc (.cells #[.int .i64 0, .bool false, .bool false, .slice none 0 0, .int .i64 0] 52)).drew := (Below.refl _ _).drew
  clear PB_0 PB_1 PB_2 PB_3 PB_4 PB_f0 PB_f1 PB_f2 PB_f3 PB_f4
  clear QB_0 QB_1 QB_2 QB_3 QB_4 QB_f0 QB_f1 QB_f2 QB_f3 QB_f4
  clear RB_0 RB_1 RB_2 RB_3 RB_4 RB_f0 RB_f1 RB_f2 RB_f3 RB_f4
  replace h1 := Lv.on h1 hb
  replace h2 := Lv.on h2 hb
  replace PB := Blk.on PB hb
  replace QB := Blk.on QB hb
  replace RB := Blk.on RB hb
  replace bw := dy_end bw hb
  clear hb
  have PB_0 := Blk.cell PB 0 rfl
  have PB_1 := Blk.cell PB 1 rfl
  have PB_2 := Blk.cell PB 2 rfl
  have PB_3 := Blk.cell PB 3 rfl
  have PB_4 := Blk.cell PB 4 rfl
  have PB_f0 := Blk.free PB 0
  have PB_f1 := Blk.free PB 1
  have PB_f2 := Blk.free PB 2
  have PB_f3 := Blk.free PB 3
  have PB_f4 := Blk.free PB 4
  have QB_0 := Blk.cell QB 0 rfl
  have QB_1 := Blk.cell QB 1 rfl
  have QB_2 := Blk.cell QB 2 rfl
  have QB_3 := Blk.cell QB 3 rfl
  have QB_4 := Blk.cell QB 4 rfl
  have QB_f0 := Blk.free QB 0
  have QB_f1 := Blk.free QB 1
  have QB_f2 := Blk.free QB 2
  have QB_f3 := Blk.free QB 3
  have QB_f4 := Blk.free QB 4
  have RB_0 := Blk.cell RB 0 rfl
  have RB_1 := Blk.cell RB 1 rfl
  have RB_2 := Blk.cell RB 2 rfl
  have RB_3 := Blk.cell RB 3 rfl
  have RB_4 := Blk.cell RB 4 rfl
  have RB_f0 := Blk.free RB 0
  have RB_f1 := Blk.free RB 1
  have RB_f2 := Blk.free RB 2
  have RB_f3 := Blk.free RB 3
  have RB_f4 := Blk.free RB 4
  refine wp_region_held_drew (S := fun _ => True) (by kernel_rfl) trivial (fun _ => ?_)
  refine wpAnyH_ready (rs := [0, 1, 2]) (by kernel_rfl) (by simp) ?_
  refine (AllReadyH.cons rfl (fun K hK => ?_) (AllReadyH.cons rfl (fun K hK => ?_) (AllReadyH.cons rfl (fun K hK => ?_) AllReadyH.nil)))
  · go_simp
    refine hK.out _ _ trivial (fun _ => ?_)
    clear hK K
    try simp only [Act.put, List.setIfInBounds_toArray, List.set_cons_zero, List.set_cons_succ, List.getElem_toArray, List.getElem_cons_zero, List.getElem_cons_succ]
    refine wpAnyH_ready (rs := [1, 2]) (by kernel_rfl) (by simp) ?_
    refine (AllReadyH.cons rfl (fun K hK => ?_) (AllReadyH.cons rfl (fun K hK => ?_) AllReadyH.nil))
    · go_simp
      refine hK.out _ _ trivial (fun _ => ?_)
      clear hK K
      try simp only [Act.put, List.setIfInBounds_toArray, List.set_cons_zero, List.set_cons_succ, List.getElem_toArray, List.getElem_cons_zero, List.getElem_cons_succ]
      refine wpAnyH_ready (rs := [2]) (by kernel_rfl) (by simp) ?_
      refine (AllReadyH.cons rfl (fun K hK => ?_) AllReadyH.nil)
      go_simp
      with_reducible refine (tab_quotients _).mono ?_
      rintro e w100 ⟨B, rfl, hM, hBB, hb⟩
      clear PB_0 PB_1 PB_2 PB_3 PB_4 PB_f0 PB_f1 PB_f2 PB_f3 PB_f4
      clear QB_0 QB_1 QB_2 QB_3 QB_4 QB_f0 QB_f1 QB_f2 QB_f3 QB_f4
      clear RB_0 RB_1 RB_2 RB_3 RB_4 RB_f0 RB_f1 RB_f2 RB_f3 RB_f4
      replace bw : Below w.heap.size w w100 := dy_end bw hb
      have hs100 := bw.size
      replace h1 := Lv.on h1 hb
      replace h2 := Lv.on h2 hb
      replace PB := Blk.on PB hb
      replace QB := Blk.on QB hb
      replace RB := Blk.on RB hb
      clear hb
      have PB_0 := Blk.cell PB 0 rfl
      have PB_1 := Blk.cell PB 1 rfl
      have PB_2 := Blk.cell PB 2 rfl
      have PB_3 := Blk.cell PB 3 rfl
      have PB_4 := Blk.cell PB 4 rfl
      have PB_f0 := Blk.free PB 0
      have PB_f1 := Blk.free PB 1
      have PB_f2 := Blk.free PB 2
      have PB_f3 := Blk.free PB 3
      have PB_f4 := Blk.free PB 4
      have QB_0 := Blk.cell QB 0 rfl
      have QB_1 := Blk.cell QB 1 rfl
      have QB_2 := Blk.cell QB 2 rfl
      have QB_3 := Blk.cell QB 3 rfl
      have QB_4 := Blk.cell QB 4 rfl
      have QB_f0 := Blk.free QB 0
      have QB_f1 := Blk.free QB 1
      have QB_f2 := Blk.free QB 2
      have QB_f3 := Blk.free QB 3
      have QB_f4 := Blk.free QB 4
      have RB_0 := Blk.cell RB 0 rfl
      have RB_1 := Blk.cell RB 1 rfl
      have RB_2 := Blk.cell RB 2 rfl
      have RB_3 := Blk.cell RB 3 rfl
      have RB_4 := Blk.cell RB 4 rfl
      have RB_f0 := Blk.free RB 0
      have RB_f1 := Blk.free RB 1
      have RB_f2 := Blk.free RB 2
      have RB_f3 := Blk.free RB 3
      have RB_f4 := Blk.free RB 4
      refine hK.out _ _ trivial (fun _ => ?_)
      clear hK K
      try simp only [Act.put, List.setIfInBounds_toArray, List.set_cons_zero, List.set_cons_succ, List.getElem_toArray, List.getElem_cons_zero, List.getElem_cons_succ]
      refine wpAnyH_ready (rs := [3]) (by kernel_rfl) (by simp) ?_
      refine (AllReadyH.cons rfl (fun K hK => ?_) AllReadyH.nil)
      go_simp
      have HC := fun e0 : quoT k1 k2 = 0 => Lib.hid (fun W (hb : Below w100.heap.size w100 W) (m1 : Lv W A1 l1.length c1 l1) (m2 : Lv W A2 l2.length c2 l2) => quoOne_any hd1 m1 hd2 m2 (hT.onD (dy_end bw hb)) i1 i2 (n0 e0).1 (n0 e0).2)
      with_reducible refine (comb_any_q (r := fun d e => nuW (quotD d e)) hM (quoT_bd k1 k2) rx ry hd1 h1 hd2 h2 HC).mono ?_
      rintro e w200 ⟨b4, l4, A4, c4, x4, rfl, hd4, m4, hb⟩
      clear PB_0 PB_1 PB_2 PB_3 PB_4 PB_f0 PB_f1 PB_f2 PB_f3 PB_f4
      clear QB_0 QB_1 QB_2 QB_3 QB_4 QB_f0 QB_f1 QB_f2 QB_f3 QB_f4
      clear RB_0 RB_1 RB_2 RB_3 RB_4 RB_f0 RB_f1 RB_f2 RB_f3 RB_f4
      replace bw : Below w.heap.size w w200 := dy_end bw hb
      replace PB := Blk.on PB hb
      replace QB := Blk.on QB hb
      replace RB := Blk.on RB hb
      clear hb HC h1 h2
      have PB_0 := Blk.cell PB 0 rfl
      have PB_1 := Blk.cell PB 1 rfl
      have PB_2 := Blk.cell PB 2 rfl
      have PB_3 := Blk.cell PB 3 rfl
      have PB_4 := Blk.cell PB 4 rfl
      have PB_f0 := Blk.free PB 0
      have PB_f1 := Blk.free PB 1
      have PB_f2 := Blk.free PB 2
      have PB_f3 := Blk.free PB 3
      have PB_f4 := Blk.free PB 4
      have QB_0 := Blk.cell QB 0 rfl
      have QB_1 := Blk.cell QB 1 rfl
      have QB_2 := Blk.cell QB 2 rfl
      have QB_3 := Blk.cell QB 3 rfl
      have QB_4 := Blk.cell QB 4 rfl
      have QB_f0 := Blk.free QB 0
      have QB_f1 := Blk.free QB 1
      have QB_f2 := Blk.free QB 2
      have QB_f3 := Blk.free QB 3
      have QB_f4 := Blk.free QB 4
      have RB_0 := Blk.cell RB 0 rfl
      have RB_1 := Blk.cell RB 1 rfl
      have RB_2 := Blk.cell RB 2 rfl
      have RB_3 := Blk.cell RB 3 rfl
      have RB_4 := Blk.cell RB 4 rfl
      have RB_f0 := Blk.free RB 0
      have RB_f1 := Blk.free RB 1
      have RB_f2 := Blk.free RB 2
      have RB_f3 := Blk.free RB 3
      have RB_f4 := Blk.free RB 4
      refine hK.out _ _ trivial (fun _ => ?_)
      clear hK K
      try simp only [Act.put, List.setIfInBounds_toArray, List.set_cons_zero, List.set_cons_succ, List.getElem_toArray, List.getElem_cons_zero, List.getElem_cons_succ]
      refine wpAnyH_ready (rs := [4]) (by kernel_rfl) (by simp) ?_
      refine (AllReadyH.cons rfl (fun K hK => ?_) AllReadyH.nil)
      go_simp
      refine hK.out _ _ trivial (fun _ => ?_)
      clear hK K
      try simp only [Act.put, List.setIfInBounds_toArray, List.set_cons_zero, List.set_cons_succ, List.getElem_toArray, List.getElem_cons_zero, List.getElem_cons_succ]
      refine wpAnyH_done (by kernel_rfl) ?_ _
      go_wp2_with fail
      refine bodyPost_ret (v := nuV (nuC quoT (fun d e => nuW (quotD d e)) ⟨k1, s1, d1⟩ ⟨k2, s2, d2⟩).c (nuC quoT (fun d e => nuW (quotD d e)) ⟨k1, s1, d1⟩ ⟨k2, s2, d2⟩).neg b4 A4 l4.length c4 x4) (by simp [results, Tryz.results43, go_sem, PB_0, PB_1, PB_2, PB_3, PB_4, PB_f0, PB_f1, PB_f2, PB_f3, PB_f4, QB_0, QB_1, QB_2, QB_3, QB_4, QB_f0, QB_f1, QB_f2, QB_f3, QB_f4, RB_0, RB_1, RB_2, RB_3, RB_4, RB_f0, RB_f1, RB_f2, RB_f3, RB_f4]) rfl ?_
      exact ⟨b4, l4, A4, c4, x4, rfl, hd4, m4.put5 RB _ _ _ _ _ _ _, by go_grown⟩
    · go_simp
      with_reducible refine (tab_quotients _).mono ?_
      rintro e w300 ⟨B, rfl, hM, hBB, hb⟩
      clear PB_0 PB_1 PB_2 PB_3 PB_4 PB_f0 PB_f1 PB_f2 PB_f3 PB_f4
      clear QB_0 QB_1 QB_2 QB_3 QB_4 QB_f0 QB_f1 QB_f2 QB_f3 QB_f4
      clear RB_0 RB_1 RB_2 RB_3 RB_4 RB_f0 RB_f1 RB_f2 RB_f3 RB_f4
      replace bw : Below w.heap.size w w300 := dy_end bw hb
      have hs300 := bw.size
      replace h1 := Lv.on h1 hb
      replace h2 := Lv.on h2 hb
      replace PB := Blk.on PB hb
      replace QB := Blk.on QB hb
      replace RB := Blk.on RB hb
      clear hb
      have PB_0 := Blk.cell PB 0 rfl
      have PB_1 := Blk.cell PB 1 rfl
      have PB_2 := Blk.cell PB 2 rfl
      have PB_3 := Blk.cell PB 3 rfl
      have PB_4 := Blk.cell PB 4 rfl
      have PB_f0 := Blk.free PB 0
      have PB_f1 := Blk.free PB 1
      have PB_f2 := Blk.free PB 2
      have PB_f3 := Blk.free PB 3
      have PB_f4 := Blk.free PB 4
      have QB_0 := Blk.cell QB 0 rfl
      have QB_1 := Blk.cell QB 1 rfl
      have QB_2 := Blk.cell QB 2 rfl
      have QB_3 := Blk.cell QB 3 rfl
      have QB_4 := Blk.cell QB 4 rfl
      have QB_f0 := Blk.free QB 0
      have QB_f1 := Blk.free QB 1
      have QB_f2 := Blk.free QB 2
      have QB_f3 := Blk.free QB 3
      have QB_f4 := Blk.free QB 4
      have RB_0 := Blk.cell RB 0 rfl
      have RB_1 := Blk.cell RB 1 rfl
      have RB_2 := Blk.cell RB 2 rfl
      have RB_3 := Blk.cell RB 3 rfl
      have RB_4 := Blk.cell RB 4 rfl
      have RB_f0 := Blk.free RB 0
      have RB_f1 := Blk.free RB 1
      have RB_f2 := Blk.free RB 2
      have RB_f3 := Blk.free RB 3
      have RB_f4 := Blk.free RB 4
      refine hK.out _ _ trivial (fun _ => ?_)
      clear hK K
      try simp only [Act.put, List.setIfInBounds_toArray, List.set_cons_zero, List.set_cons_succ, List.getElem_toArray, List.getElem_cons_zero, List.getElem_cons_succ]
      refine wpAnyH_ready (rs := [1]) (by kernel_rfl) (by simp) ?_
      refine (AllReadyH.cons rfl (fun K hK => ?_) AllReadyH.nil)
      go_simp
      refine hK.out _ _ trivial (fun _ => ?_)
      clear hK K
      try simp only [Act.put, List.setIfInBounds_toArray, List.set_cons_zero, List.set_cons_succ, List.getElem_toArray, List.getElem_cons_zero, List.getElem_cons_succ]
      refine wpAnyH_ready (rs := [3]) (by kernel_rfl) (by simp) ?_
      refine (AllReadyH.cons rfl (fun K hK => ?_) AllReadyH.nil)
      go_simp
      have HC := fun e0 : quoT k1 k2 = 0 => Lib.hid (fun W (hb : Below w300.heap.size w300 W) (m1 : Lv W A1 l1.length c1 l1) (m2 : Lv W A2 l2.length c2 l2) => quoOne_any hd1 m1 hd2 m2 (hT.onD (dy_end bw hb)) i1 i2 (n0 e0).1 (n0 e0).2)
      with_reducible refine (comb_any_q (r := fun d e => nuW (quotD d e)) hM (quoT_bd k1 k2) rx ry hd1 h1 hd2 h2 HC).mono ?_
      rintro e w400 ⟨b4, l4, A4, c4, x4, rfl, hd4, m4, hb⟩
      clear PB_0 PB_1 PB_2 PB_3 PB_4 PB_f0 PB_f1 PB_f2 PB_f3 PB_f4
      clear QB_0 QB_1 QB_2 QB_3 QB_4 QB_f0 QB_f1 QB_f2 QB_f3 QB_f4
      clear RB_0 RB_1 RB_2 RB_3 RB_4 RB_f0 RB_f1 RB_f2 RB_f3 RB_f4
      replace bw : Below w.heap.size w w400 := dy_end bw hb
      replace PB := Blk.on PB hb
      replace QB := Blk.on QB hb
      replace RB := Blk.on RB hb
      clear hb HC h1 h2
      have PB_0 := Blk.cell PB 0 rfl
      have PB_1 := Blk.cell PB 1 rfl
      have PB_2 := Blk.cell PB 2 rfl
      have PB_3 := Blk.cell PB 3 rfl
      have PB_4 := Blk.cell PB 4 rfl
      have PB_f0 := Blk.free PB 0
      have PB_f1 := Blk.free PB 1
      have PB_f2 := Blk.free PB 2
      have PB_f3 := Blk.free PB 3
      have PB_f4 := Blk.free PB 4
      have QB_0 := Blk.cell QB 0 rfl
      have QB_1 := Blk.cell QB 1 rfl
      have QB_2 := Blk.cell QB 2 rfl
      have QB_3 := Blk.cell QB 3 rfl
      have QB_4 := Blk.cell QB 4 rfl
      have QB_f0 := Blk.free QB 0
      have QB_f1 := Blk.free QB 1
      have QB_f2 := Blk.free QB 2
      have QB_f3 := Blk.free QB 3
      have QB_f4 := Blk.free QB 4
      have RB_0 := Blk.cell RB 0 rfl
      have RB_1 := Blk.cell RB 1 rfl
      have RB_2 := Blk.cell RB 2 rfl
      have RB_3 := Blk.cell RB 3 rfl
      have RB_4 := Blk.cell RB 4 rfl
      have RB_f0 := Blk.free RB 0
      have RB_f1 := Blk.free RB 1
      have RB_f2 := Blk.free RB 2
      have RB_f3 := Blk.free RB 3
      have RB_f4 := Blk.free RB 4
      refine hK.out _ _ trivial (fun _ => ?_)
      clear hK K
      try simp only [Act.put, List.setIfInBounds_toArray, List.set_cons_zero, List.set_cons_succ, List.getElem_toArray, List.getElem_cons_zero, List.getElem_cons_succ]
      refine wpAnyH_ready (rs := [4]) (by kernel_rfl) (by simp) ?_
      refine (AllReadyH.cons rfl (fun K hK => ?_) AllReadyH.nil)
      go_simp
      refine hK.out _ _ trivial (fun _ => ?_)
      clear hK K
      try simp only [Act.put, List.setIfInBounds_toArray, List.set_cons_zero, List.set_cons_succ, List.getElem_toArray, List.getElem_cons_zero, List.getElem_cons_succ]
      refine wpAnyH_done (by kernel_rfl) ?_ _
      go_wp2_with fail
      refine bodyPost_ret (v := nuV (nuC quoT (fun d e => nuW (quotD d e)) ⟨k1, s1, d1⟩ ⟨k2, s2, d2⟩).c (nuC quoT (fun d e => nuW (quotD d e)) ⟨k1, s1, d1⟩ ⟨k2, s2, d2⟩).neg b4 A4 l4.length c4 x4) (by simp [results, Tryz.results43, go_sem, PB_0, PB_1, PB_2, PB_3, PB_4, PB_f0, PB_f1, PB_f2, PB_f3, PB_f4, QB_0, QB_1, QB_2, QB_3, QB_4, QB_f0, QB_f1, QB_f2, QB_f3, QB_f4, RB_0, RB_1, RB_2, RB_3, RB_4, RB_f0, RB_f1, RB_f2, RB_f3, RB_f4]) rfl ?_
      exact ⟨b4, l4, A4, c4, x4, rfl, hd4, m4.put5 RB _ _ _ _ _ _ _, by go_grown⟩
  · go_simp
    refine hK.out _ _ trivial (fun _ => ?_)
    clear hK K
    try simp only [Act.put, List.setIfInBounds_toArray, List.set_cons_zero, List.set_cons_succ, List.getElem_toArray, List.getElem_cons_zero, List.getElem_cons_succ]
    refine wpAnyH_ready (rs := [0, 2]) (by kernel_rfl) (by simp) ?_
    refine (AllReadyH.cons rfl (fun K hK => ?_) (AllReadyH.cons rfl (fun K hK => ?_) AllReadyH.nil))
    · go_simp
      refine hK.out _ _ trivial (fun _ => ?_)
      clear hK K
      try simp only [Act.put, List.setIfInBounds_toArray, List.set_cons_zero, List.set_cons_succ, List.getElem_toArray, List.getElem_cons_zero, List.getElem_cons_succ]
      refine wpAnyH_ready (rs := [2]) (by kernel_rfl) (by simp) ?_
      refine (AllReadyH.cons rfl (fun K hK => ?_) AllReadyH.nil)
      go_simp
      with_reducible refine (tab_quotients _).mono ?_
      rintro e w500 ⟨B, rfl, hM, hBB, hb⟩
      clear PB_0 PB_1 PB_2 PB_3 PB_4 PB_f0 PB_f1 PB_f2 PB_f3 PB_f4
      clear QB_0 QB_1 QB_2 QB_3 QB_4 QB_f0 QB_f1 QB_f2 QB_f3 QB_f4
      clear RB_0 RB_1 RB_2 RB_3 RB_4 RB_f0 RB_f1 RB_f2 RB_f3 RB_f4
      replace bw : Below w.heap.size w w500 := dy_end bw hb
      have hs500 := bw.size
      replace h1 := Lv.on h1 hb
      replace h2 := Lv.on h2 hb
      replace PB := Blk.on PB hb
      replace QB := Blk.on QB hb
      replace RB := Blk.on RB hb
      clear hb
      have PB_0 := Blk.cell PB 0 rfl
      have PB_1 := Blk.cell PB 1 rfl
      have PB_2 := Blk.cell PB 2 rfl
      have PB_3 := Blk.cell PB 3 rfl
      have PB_4 := Blk.cell PB 4 rfl
      have PB_f0 := Blk.free PB 0
      have PB_f1 := Blk.free PB 1
      have PB_f2 := Blk.free PB 2
      have PB_f3 := Blk.free PB 3
      have PB_f4 := Blk.free PB 4
      have QB_0 := Blk.cell QB 0 rfl
      have QB_1 := Blk.cell QB 1 rfl
      have QB_2 := Blk.cell QB 2 rfl
      have QB_3 := Blk.cell QB 3 rfl
      have QB_4 := Blk.cell QB 4 rfl
      have QB_f0 := Blk.free QB 0
      have QB_f1 := Blk.free QB 1
      have QB_f2 := Blk.free QB 2
      have QB_f3 := Blk.free QB 3
      have QB_f4 := Blk.free QB 4
      have RB_0 := Blk.cell RB 0 rfl
      have RB_1 := Blk.cell RB 1 rfl
      have RB_2 := Blk.cell RB 2 rfl
      have RB_3 := Blk.cell RB 3 rfl
      have RB_4 := Blk.cell RB 4 rfl
      have RB_f0 := Blk.free RB 0
      have RB_f1 := Blk.free RB 1
      have RB_f2 := Blk.free RB 2
      have RB_f3 := Blk.free RB 3
      have RB_f4 := Blk.free RB 4
      refine hK.out _ _ trivial (fun _ => ?_)
      clear hK K
      try simp only [Act.put, List.setIfInBounds_toArray, List.set_cons_zero, List.set_cons_succ, List.getElem_toArray, List.getElem_cons_zero, List.getElem_cons_succ]
      refine wpAnyH_ready (rs := [3]) (by kernel_rfl) (by simp) ?_
      refine (AllReadyH.cons rfl (fun K hK => ?_) AllReadyH.nil)
      go_simp
      have HC := fun e0 : quoT k1 k2 = 0 => Lib.hid (fun W (hb : Below w500.heap.size w500 W) (m1 : Lv W A1 l1.length c1 l1) (m2 : Lv W A2 l2.length c2 l2) => quoOne_any hd1 m1 hd2 m2 (hT.onD (dy_end bw hb)) i1 i2 (n0 e0).1 (n0 e0).2)
      with_reducible refine (comb_any_q (r := fun d e => nuW (quotD d e)) hM (quoT_bd k1 k2) rx ry hd1 h1 hd2 h2 HC).mono ?_
      rintro e w600 ⟨b4, l4, A4, c4, x4, rfl, hd4, m4, hb⟩
      clear PB_0 PB_1 PB_2 PB_3 PB_4 PB_f0 PB_f1 PB_f2 PB_f3 PB_f4
      clear QB_0 QB_1 QB_2 QB_3 QB_4 QB_f0 QB_f1 QB_f2 QB_f3 QB_f4
      clear RB_0 RB_1 RB_2 RB_3 RB_4 RB_f0 RB_f1 RB_f2 RB_f3 RB_f4
      replace bw : Below w.heap.size w w600 := dy_end bw hb
      replace PB := Blk.on PB hb
      replace QB := Blk.on QB hb
      replace RB := Blk.on RB hb
      clear hb HC h1 h2
      have PB_0 := Blk.cell PB 0 rfl
      have PB_1 := Blk.cell PB 1 rfl
      have PB_2 := Blk.cell PB 2 rfl
      have PB_3 := Blk.cell PB 3 rfl
      have PB_4 := Blk.cell PB 4 rfl
      have PB_f0 := Blk.free PB 0
      have PB_f1 := Blk.free PB 1
      have PB_f2 := Blk.free PB 2
      have PB_f3 := Blk.free PB 3
      have PB_f4 := Blk.free PB 4
      have QB_0 := Blk.cell QB 0 rfl
      have QB_1 := Blk.cell QB 1 rfl
      have QB_2 := Blk.cell QB 2 rfl
      have QB_3 := Blk.cell QB 3 rfl
      have QB_4 := Blk.cell QB 4 rfl
      have QB_f0 := Blk.free QB 0
      have QB_f1 := Blk.free QB 1
      have QB_f2 := Blk.free QB 2
      have QB_f3 := Blk.free QB 3
      have QB_f4 := Blk.free QB 4
      have RB_0 := Blk.cell RB 0 rfl
      have RB_1 := Blk.cell RB 1 rfl
      have RB_2 := Blk.cell RB 2 rfl
      have RB_3 := Blk.cell RB 3 rfl
      have RB_4 := Blk.cell RB 4 rfl
      have RB_f0 := Blk.free RB 0
      have RB_f1 := Blk.free RB 1
      have RB_f2 := Blk.free RB 2
      have RB_f3 := Blk.free RB 3
      have RB_f4 := Blk.free RB 4
      refine hK.out _ _ trivial (fun _ => ?_)
      clear hK K
      try simp only [Act.put, List.setIfInBounds_toArray, List.set_cons_zero, List.set_cons_succ, List.getElem_toArray, List.getElem_cons_zero, List.getElem_cons_succ]
      refine wpAnyH_ready (rs := [4]) (by kernel_rfl) (by simp) ?_
      refine (AllReadyH.cons rfl (fun K hK => ?_) AllReadyH.nil)
      go_simp
      refine hK.out _ _ trivial (fun _ => ?_)
      clear hK K
      try simp only [Act.put, List.setIfInBounds_toArray, List.set_cons_zero, List.set_cons_succ, List.getElem_toArray, List.getElem_cons_zero, List.getElem_cons_succ]
      refine wpAnyH_done (by kernel_rfl) ?_ _
      go_wp2_with fail
      refine bodyPost_ret (v := nuV (nuC quoT (fun d e => nuW (quotD d e)) ⟨k1, s1, d1⟩ ⟨k2, s2, d2⟩).c (nuC quoT (fun d e => nuW (quotD d e)) ⟨k1, s1, d1⟩ ⟨k2, s2, d2⟩).neg b4 A4 l4.length c4 x4) (by simp [results, Tryz.results43, go_sem, PB_0, PB_1, PB_2, PB_3, PB_4, PB_f0, PB_f1, PB_f2, PB_f3, PB_f4, QB_0, QB_1, QB_2, QB_3, QB_4, QB_f0, QB_f1, QB_f2, QB_f3, QB_f4, RB_0, RB_1, RB_2, RB_3, RB_4, RB_f0, RB_f1, RB_f2, RB_f3, RB_f4]) rfl ?_
      exact ⟨b4, l4, A4, c4, x4, rfl, hd4, m4.put5 RB _ _ _ _ _ _ _, by go_grown⟩
    · go_simp
      with_reducible refine (tab_quotients _).mono ?_
      rintro e w700 ⟨B, rfl, hM, hBB, hb⟩
      clear PB_0 PB_1 PB_2 PB_3 PB_4 PB_f0 PB_f1 PB_f2 PB_f3 PB_f4
      clear QB_0 QB_1 QB_2 QB_3 QB_4 QB_f0 QB_f1 QB_f2 QB_f3 QB_f4
      clear RB_0 RB_1 RB_2 RB_3 RB_4 RB_f0 RB_f1 RB_f2 RB_f3 RB_f4
      replace bw : Below w.heap.size w w700 := dy_end bw hb
      have hs700 := bw.size
      replace h1 := Lv.on h1 hb
      replace h2 := Lv.on h2 hb
      replace PB := Blk.on PB hb
      replace QB := Blk.on QB hb
      replace RB := Blk.on RB hb
      clear hb
      have PB_0 := Blk.cell PB 0 rfl
      have PB_1 := Blk.cell PB 1 rfl
      have PB_2 := Blk.cell PB 2 rfl
      have PB_3 := Blk.cell PB 3 rfl
      have PB_4 := Blk.cell PB 4 rfl
      have PB_f0 := Blk.free PB 0
      have PB_f1 := Blk.free PB 1
      have PB_f2 := Blk.free PB 2
      have PB_f3 := Blk.free PB 3
      have PB_f4 := Blk.free PB 4
      have QB_0 := Blk.cell QB 0 rfl
      have QB_1 := Blk.cell QB 1 rfl
      have QB_2 := Blk.cell QB 2 rfl
      have QB_3 := Blk.cell QB 3 rfl
      have QB_4 := Blk.cell QB 4 rfl
      have QB_f0 := Blk.free QB 0
      have QB_f1 := Blk.free QB 1
      have QB_f2 := Blk.free QB 2
      have QB_f3 := Blk.free QB 3
      have QB_f4 := Blk.free QB 4
      have RB_0 := Blk.cell RB 0 rfl
      have RB_1 := Blk.cell RB 1 rfl
      have RB_2 := Blk.cell RB 2 rfl
      have RB_3 := Blk.cell RB 3 rfl
      have RB_4 := Blk.cell RB 4 rfl
      have RB_f0 := Blk.free RB 0
      have RB_f1 := Blk.free RB 1
      have RB_f2 := Blk.free RB 2
      have RB_f3 := Blk.free RB 3
      have RB_f4 := Blk.free RB 4
      refine hK.out _ _ trivial (fun _ => ?_)
      clear hK K
      try simp only [Act.put, List.setIfInBounds_toArray, List.set_cons_zero, List.set_cons_succ, List.getElem_toArray, List.getElem_cons_zero, List.getElem_cons_succ]
      refine wpAnyH_ready (rs := [0]) (by kernel_rfl) (by simp) ?_
      refine (AllReadyH.cons rfl (fun K hK => ?_) AllReadyH.nil)
      go_simp
      refine hK.out _ _ trivial (fun _ => ?_)
      clear hK K
      try simp only [Act.put, List.setIfInBounds_toArray, List.set_cons_zero, List.set_cons_succ, List.getElem_toArray, List.getElem_cons_zero, List.getElem_cons_succ]
      refine wpAnyH_ready (rs := [3]) (by kernel_rfl) (by simp) ?_
      refine (AllReadyH.cons rfl (fun K hK => ?_) AllReadyH.nil)
      go_simp
      have HC := fun e0 : quoT k1 k2 = 0 => Lib.hid (fun W (hb : Below w700.heap.size w700 W) (m1 : Lv W A1 l1.length c1 l1) (m2 : Lv W A2 l2.length c2 l2) => quoOne_any hd1 m1 hd2 m2 (hT.onD (dy_end bw hb)) i1 i2 (n0 e0).1 (n0 e0).2)
      with_reducible refine (comb_any_q (r := fun d e => nuW (quotD d e)) hM (quoT_bd k1 k2) rx ry hd1 h1 hd2 h2 HC).mono ?_
      rintro e w800 ⟨b4, l4, A4, c4, x4, rfl, hd4, m4, hb⟩
      clear PB_0 PB_1 PB_2 PB_3 PB_4 PB_f0 PB_f1 PB_f2 PB_f3 PB_f4
      clear QB_0 QB_1 QB_2 QB_3 QB_4 QB_f0 QB_f1 QB_f2 QB_f3 QB_f4
      clear RB_0 RB_1 RB_2 RB_3 RB_4 RB_f0 RB_f1 RB_f2 RB_f3 RB_f4
      replace bw : Below w.heap.size w w800 := dy_end bw hb
      replace PB := Blk.on PB hb
      replace QB := Blk.on QB hb
      replace RB := Blk.on RB hb
      clear hb HC h1 h2
      have PB_0 := Blk.cell PB 0 rfl
      have PB_1 := Blk.cell PB 1 rfl
      have PB_2 := Blk.cell PB 2 rfl
      have PB_3 := Blk.cell PB 3 rfl
      have PB_4 := Blk.cell PB 4 rfl
      have PB_f0 := Blk.free PB 0
      have PB_f1 := Blk.free PB 1
      have PB_f2 := Blk.free PB 2
      have PB_f3 := Blk.free PB 3
      have PB_f4 := Blk.free PB 4
      have QB_0 := Blk.cell QB 0 rfl
      have QB_1 := Blk.cell QB 1 rfl
      have QB_2 := Blk.cell QB 2 rfl
      have QB_3 := Blk.cell QB 3 rfl
      have QB_4 := Blk.cell QB 4 rfl
      have QB_f0 := Blk.free QB 0
      have QB_f1 := Blk.free QB 1
      have QB_f2 := Blk.free QB 2
      have QB_f3 := Blk.free QB 3
      have QB_f4 := Blk.free QB 4
      have RB_0 := Blk.cell RB 0 rfl
      have RB_1 := Blk.cell RB 1 rfl
      have RB_2 := Blk.cell RB 2 rfl
      have RB_3 := Blk.cell RB 3 rfl
      have RB_4 := Blk.cell RB 4 rfl
      have RB_f0 := Blk.free RB 0
      have RB_f1 := Blk.free RB 1
      have RB_f2 := Blk.free RB 2
      have RB_f3 := Blk.free RB 3
      have RB_f4 := Blk.free RB 4
      refine hK.out _ _ trivial (fun _ => ?_)
      clear hK K
      try simp only [Act.put, List.setIfInBounds_toArray, List.set_cons_zero, List.set_cons_succ, List.getElem_toArray, List.getElem_cons_zero, List.getElem_cons_succ]
      refine wpAnyH_ready (rs := [4]) (by kernel_rfl) (by simp) ?_
      refine (AllReadyH.cons rfl (fun K hK => ?_) AllReadyH.nil)
      go_simp
      refine hK.out _ _ trivial (fun _ => ?_)
      clear hK K
      try simp only [Act.put, List.setIfInBounds_toArray, List.set_cons_zero, List.set_cons_succ, List.getElem_toArray, List.getElem_cons_zero, List.getElem_cons_succ]
      refine wpAnyH_done (by kernel_rfl) ?_ _
      go_wp2_with fail
      refine bodyPost_ret (v := nuV (nuC quoT (fun d e => nuW (quotD d e)) ⟨k1, s1, d1⟩ ⟨k2, s2, d2⟩).c (nuC quoT (fun d e => nuW (quotD d e)) ⟨k1, s1, d1⟩ ⟨k2, s2, d2⟩).neg b4 A4 l4.length c4 x4) (by simp [results, Tryz.results43, go_sem, PB_0, PB_1, PB_2, PB_3, PB_4, PB_f0, PB_f1, PB_f2, PB_f3, PB_f4, QB_0, QB_1, QB_2, QB_3, QB_4, QB_f0, QB_f1, QB_f2, QB_f3, QB_f4, RB_0, RB_1, RB_2, RB_3, RB_4, RB_f0, RB_f1, RB_f2, RB_f3, RB_f4]) rfl ?_
      exact ⟨b4, l4, A4, c4, x4, rfl, hd4, m4.put5 RB _ _ _ _ _ _ _, by go_grown⟩
  · go_simp
    with_reducible refine (tab_quotients _).mono ?_
    rintro e w900 ⟨B, rfl, hM, hBB, hb⟩
    clear PB_0 PB_1 PB_2 PB_3 PB_4 PB_f0 PB_f1 PB_f2 PB_f3 PB_f4
    clear QB_0 QB_1 QB_2 QB_3 QB_4 QB_f0 QB_f1 QB_f2 QB_f3 QB_f4
    clear RB_0 RB_1 RB_2 RB_3 RB_4 RB_f0 RB_f1 RB_f2 RB_f3 RB_f4
    replace bw : Below w.heap.size w w900 := dy_end bw hb
    have hs900 := bw.size
    replace h1 := Lv.on h1 hb
    replace h2 := Lv.on h2 hb
    replace PB := Blk.on PB hb
    replace QB := Blk.on QB hb
    replace RB := Blk.on RB hb
    clear hb
    have PB_0 := Blk.cell PB 0 rfl
    have PB_1 := Blk.cell PB 1 rfl
    have PB_2 := Blk.cell PB 2 rfl
    have PB_3 := Blk.cell PB 3 rfl
    have PB_4 := Blk.cell PB 4 rfl
    have PB_f0 := Blk.free PB 0
    have PB_f1 := Blk.free PB 1
    have PB_f2 := Blk.free PB 2
    have PB_f3 := Blk.free PB 3
    have PB_f4 := Blk.free PB 4
    have QB_0 := Blk.cell QB 0 rfl
    have QB_1 := Blk.cell QB 1 rfl
    have QB_2 := Blk.cell QB 2 rfl
    have QB_3 := Blk.cell QB 3 rfl
    have QB_4 := Blk.cell QB 4 rfl
    have QB_f0 := Blk.free QB 0
    have QB_f1 := Blk.free QB 1
    have QB_f2 := Blk.free QB 2
    have QB_f3 := Blk.free QB 3
    have QB_f4 := Blk.free QB 4
    have RB_0 := Blk.cell RB 0 rfl
    have RB_1 := Blk.cell RB 1 rfl
    have RB_2 := Blk.cell RB 2 rfl
    have RB_3 := Blk.cell RB 3 rfl
    have RB_4 := Blk.cell RB 4 rfl
    have RB_f0 := Blk.free RB 0
    have RB_f1 := Blk.free RB 1
    have RB_f2 := Blk.free RB 2
    have RB_f3 := Blk.free RB 3
    have RB_f4 := Blk.free RB 4
    refine hK.out _ _ trivial (fun _ => ?_)
    clear hK K
    try simp only [Act.put, List.setIfInBounds_toArray, List.set_cons_zero, List.set_cons_succ, List.getElem_toArray, List.getElem_cons_zero, List.getElem_cons_succ]
    refine wpAnyH_ready (rs := [0, 1]) (by kernel_rfl) (by simp) ?_
    refine (AllReadyH.cons rfl (fun K hK => ?_) (AllReadyH.cons rfl (fun K hK => ?_) AllReadyH.nil))
    · go_simp
      refine hK.out _ _ trivial (fun _ => ?_)
      clear hK K
      try simp only [Act.put, List.setIfInBounds_toArray, List.set_cons_zero, List.set_cons_succ, List.getElem_toArray, List.getElem_cons_zero, List.getElem_cons_succ]
      refine wpAnyH_ready (rs := [1]) (by kernel_rfl) (by simp) ?_
      refine (AllReadyH.cons rfl (fun K hK => ?_) AllReadyH.nil)
      go_simp
      refine hK.out _ _ trivial (fun _ => ?_)
      clear hK K
      try simp only [Act.put, List.setIfInBounds_toArray, List.set_cons_zero, List.set_cons_succ, List.getElem_toArray, List.getElem_cons_zero, List.getElem_cons_succ]
      refine wpAnyH_ready (rs := [3]) (by kernel_rfl) (by simp) ?_
      refine (AllReadyH.cons rfl (fun K hK => ?_) AllReadyH.nil)
      go_simp
      have HC := fun e0 : quoT k1 k2 = 0 => Lib.hid (fun W (hb : Below w900.heap.size w900 W) (m1 : Lv W A1 l1.length c1 l1) (m2 : Lv W A2 l2.length c2 l2) => quoOne_any hd1 m1 hd2 m2 (hT.onD (dy_end bw hb)) i1 i2 (n0 e0).1 (n0 e0).2)
      with_reducible refine (comb_any_q (r := fun d e => nuW (quotD d e)) hM (quoT_bd k1 k2) rx ry hd1 h1 hd2 h2 HC).mono ?_
      rintro e w1000 ⟨b4, l4, A4, c4, x4, rfl, hd4, m4, hb⟩
      clear PB_0 PB_1 PB_2 PB_3 PB_4 PB_f0 PB_f1 PB_f2 PB_f3 PB_f4
      clear QB_0 QB_1 QB_2 QB_3 QB_4 QB_f0 QB_f1 QB_f2 QB_f3 QB_f4
      clear RB_0 RB_1 RB_2 RB_3 RB_4 RB_f0 RB_f1 RB_f2 RB_f3 RB_f4
      replace bw : Below w.heap.size w w1000 := dy_end bw hb
      replace PB := Blk.on PB hb
      replace QB := Blk.on QB hb
      replace RB := Blk.on RB hb
      clear hb HC h1 h2
      have PB_0 := Blk.cell PB 0 rfl
      have PB_1 := Blk.cell PB 1 rfl
      have PB_2 := Blk.cell PB 2 rfl
      have PB_3 := Blk.cell PB 3 rfl
      have PB_4 := Blk.cell PB 4 rfl
      have PB_f0 := Blk.free PB 0
      have PB_f1 := Blk.free PB 1
      have PB_f2 := Blk.free PB 2
      have PB_f3 := Blk.free PB 3
      have PB_f4 := Blk.free PB 4
      have QB_0 := Blk.cell QB 0 rfl
      have QB_1 := Blk.cell QB 1 rfl
      have QB_2 := Blk.cell QB 2 rfl
      have QB_3 := Blk.cell QB 3 rfl
      have QB_4 := Blk.cell QB 4 rfl
      have QB_f0 := Blk.free QB 0
      have QB_f1 := Blk.free QB 1
      have QB_f2 := Blk.free QB 2
      have QB_f3 := Blk.free QB 3
      have QB_f4 := Blk.free QB 4
      have RB_0 := Blk.cell RB 0 rfl
      have RB_1 := Blk.cell RB 1 rfl
      have RB_2 := Blk.cell RB 2 rfl
      have RB_3 := Blk.cell RB 3 rfl
      have RB_4 := Blk.cell RB 4 rfl
      have RB_f0 := Blk.free RB 0
      have RB_f1 := Blk.free RB 1
      have RB_f2 := Blk.free RB 2
      have RB_f3 := Blk.free RB 3
      have RB_f4 := Blk.free RB 4
      refine hK.out _ _ trivial (fun _ => ?_)
      clear hK K
      try simp only [Act.put, List.setIfInBounds_toArray, List.set_cons_zero, List.set_cons_succ, List.getElem_toArray, List.getElem_cons_zero, List.getElem_cons_succ]
      refine wpAnyH_ready (rs := [4]) (by kernel_rfl) (by simp) ?_
      refine (AllReadyH.cons rfl (fun K hK => ?_) AllReadyH.nil)
      go_simp
      refine hK.out _ _ trivial (fun _ => ?_)
      clear hK K
      try simp only [Act.put, List.setIfInBounds_toArray, List.set_cons_zero, List.set_cons_succ, List.getElem_toArray, List.getElem_cons_zero, List.getElem_cons_succ]
      refine wpAnyH_done (by kernel_rfl) ?_ _
      go_wp2_with fail
      refine bodyPost_ret (v := nuV (nuC quoT (fun d e => nuW (quotD d e)) ⟨k1, s1, d1⟩ ⟨k2, s2, d2⟩).c (nuC quoT (fun d e => nuW (quotD d e)) ⟨k1, s1, d1⟩ ⟨k2, s2, d2⟩).neg b4 A4 l4.length c4 x4) (by simp [results, Tryz.results43, go_sem, PB_0, PB_1, PB_2, PB_3, PB_4, PB_f0, PB_f1, PB_f2, PB_f3, PB_f4, QB_0, QB_1, QB_2, QB_3, QB_4, QB_f0, QB_f1, QB_f2, QB_f3, QB_f4, RB_0, RB_1, RB_2, RB_3, RB_4, RB_f0, RB_f1, RB_f2, RB_f3, RB_f4]) rfl ?_
      exact ⟨b4, l4, A4, c4, x4, rfl, hd4, m4.put5 RB _ _ _ _ _ _ _, by go_grown⟩
    · go_simp
      refine hK.out _ _ trivial (fun _ => ?_)
      clear hK K
      try simp only [Act.put, List.setIfInBounds_toArray, List.set_cons_zero, List.set_cons_succ, List.getElem_toArray, List.getElem_cons_zero, List.getElem_cons_succ]
      refine wpAnyH_ready (rs := [0]) (by kernel_rfl) (by simp) ?_
      refine (AllReadyH.cons rfl (fun K hK => ?_) AllReadyH.nil)
      go_simp
      refine hK.out _ _ trivial (fun _ => ?_)
      clear hK K
      try simp only [Act.put, List.setIfInBounds_toArray, List.set_cons_zero, List.set_cons_succ, List.getElem_toArray, List.getElem_cons_zero, List.getElem_cons_succ]
      refine wpAnyH_ready (rs := [3]) (by kernel_rfl) (by simp) ?_
      refine (AllReadyH.cons rfl (fun K hK => ?_) AllReadyH.nil)
      go_simp
      have HC := fun e0 : quoT k1 k2 = 0 => Lib.hid (fun W (hb : Below w900.heap.size w900 W) (m1 : Lv W A1 l1.length c1 l1) (m2 : Lv W A2 l2.length c2 l2) => quoOne_any hd1 m1 hd2 m2 (hT.onD (dy_end bw hb)) i1 i2 (n0 e0).1 (n0 e0).2)
      with_reducible refine (comb_any_q (r := fun d e => nuW (quotD d e)) hM (quoT_bd k1 k2) rx ry hd1 h1 hd2 h2 HC).mono ?_
      rintro e w1100 ⟨b4, l4, A4, c4, x4, rfl, hd4, m4, hb⟩
      clear PB_0 PB_1 PB_2 PB_3 PB_4 PB_f0 PB_f1 PB_f2 PB_f3 PB_f4
      clear QB_0 QB_1 QB_2 QB_3 QB_4 QB_f0 QB_f1 QB_f2 QB_f3 QB_f4
      clear RB_0 RB_1 RB_2 RB_3 RB_4 RB_f0 RB_f1 RB_f2 RB_f3 RB_f4
      replace bw : Below w.heap.size w w1100 := dy_end bw hb
      replace PB := Blk.on PB hb
      replace QB := Blk.on QB hb
      replace RB := Blk.on RB hb
      clear hb HC h1 h2
      have PB_0 := Blk.cell PB 0 rfl
      have PB_1 := Blk.cell PB 1 rfl
      have PB_2 := Blk.cell PB 2 rfl
      have PB_3 := Blk.cell PB 3 rfl
      have PB_4 := Blk.cell PB 4 rfl
      have PB_f0 := Blk.free PB 0
      have PB_f1 := Blk.free PB 1
      have PB_f2 := Blk.free PB 2
      have PB_f3 := Blk.free PB 3
      have PB_f4 := Blk.free PB 4
      have QB_0 := Blk.cell QB 0 rfl
      have QB_1 := Blk.cell QB 1 rfl
      have QB_2 := Blk.cell QB 2 rfl
      have QB_3 := Blk.cell QB 3 rfl
      have QB_4 := Blk.cell QB 4 rfl
      have QB_f0 := Blk.free QB 0
      have QB_f1 := Blk.free QB 1
      have QB_f2 := Blk.free QB 2
      have QB_f3 := Blk.free QB 3
      have QB_f4 := Blk.free QB 4
      have RB_0 := Blk.cell RB 0 rfl
      have RB_1 := Blk.cell RB 1 rfl
      have RB_2 := Blk.cell RB 2 rfl
      have RB_3 := Blk.cell RB 3 rfl
      have RB_4 := Blk.cell RB 4 rfl
      have RB_f0 := Blk.free RB 0
      have RB_f1 := Blk.free RB 1
      have RB_f2 := Blk.free RB 2
      have RB_f3 := Blk.free RB 3
      have RB_f4 := Blk.free RB 4
      refine hK.out _ _ trivial (fun _ => ?_)
      clear hK K
      try simp only [Act.put, List.setIfInBounds_toArray, List.set_cons_zero, List.set_cons_succ, List.getElem_toArray, List.getElem_cons_zero, List.getElem_cons_succ]
      refine wpAnyH_ready (rs := [4]) (by kernel_rfl) (by simp) ?_
      refine (AllReadyH.cons rfl (fun K hK => ?_) AllReadyH.nil)
      go_simp
      refine hK.out _ _ trivial (fun _ => ?_)
      clear hK K
      try simp only [Act.put, List.setIfInBounds_toArray, List.set_cons_zero, List.set_cons_succ, List.getElem_toArray, List.getElem_cons_zero, List.getElem_cons_succ]
      refine wpAnyH_done (by kernel_rfl) ?_ _
      go_wp2_with fail
      refine bodyPost_ret (v := nuV (nuC quoT (fun d e => nuW (quotD d e)) ⟨k1, s1, d1⟩ ⟨k2, s2, d2⟩).c (nuC quoT (fun d e => nuW (quotD d e)) ⟨k1, s1, d1⟩ ⟨k2, s2, d2⟩).neg b4 A4 l4.length c4 x4) (by simp [results, Tryz.results43, go_sem, PB_0, PB_1, PB_2, PB_3, PB_4, PB_f0, PB_f1, PB_f2, PB_f3, PB_f4, QB_0, QB_1, QB_2, QB_3, QB_4, QB_f0, QB_f1, QB_f2, QB_f3, QB_f4, RB_0, RB_1, RB_2, RB_3, RB_4, RB_f0, RB_f1, RB_f2, RB_f3, RB_f4]) rfl ?_
      exact ⟨b4, l4, A4, c4, x4, rfl, hd4, m4.put5 RB _ _ _ _ _ _ _, by go_grown⟩

theorem Gd.nz {n : Nu} {P Q : Int} (h : Gd n P Q) (y : Nat) (e : n = nuW y) (h3 : n.c = 3) (hn : y ≤ 18446744073709551615) : n.d.man ≠ 0 := by
  subst e
  have hr := rel_of y hn
  generalize Ieee.double.read y = X at hr
  cases X with
  | number s m e =>
    obtain ⟨r1, r2, r3⟩ := hr
    rw [r3, Ne, nfl_man0 (by omega)]
    intro h0
    rw [if_pos (by omega)] at r1
    omega
  | infinity s => have := hr.1; omega
  | nan s f => have : (nuW y).c = 5 := hr; omega
set_option maxRecDepth 100000 in
set_option maxHeartbeats 4000000 in
theorem sAdd_any (y z : Nat) (hn : y ≤ 18446744073709551615) (hn2 : z ≤ 18446744073709551615) (hT : Tab w) :
    Calls Tryz.prog 13 #[.float .f64 y, .float .f64 z] w fun e w' => e = .returned (.float .f64 ((Ieee.double.add y z).getD nanW)) ∧ Below w.heap.size w w' := by
  have g1 := gd_w y
  have g2 := gd_w z
  have bw : Below w.heap.size w w := Below.refl _ _
  have g3 : Gd (nuSum (nuW y) (nuW z)) (-4300) 4300 := gd_c (g1.mono (by omega) (by omega)) (g2.mono (by omega) (by omega)) (fun _ => gd_n (sumN_ok _ _) ((sumN_in g1.ok g2.ok g1.inn g2.inn (by omega)).mono (by omega) (by omega))) (sumT_bd _ _)
  have hm := add_mach y z hn hn2
  go_enter Tryz.func13, Tryz.ntmps13
  go_wp2_with fail
  with_reducible refine (nof_any y hn (hT.onD (by go_grown))).mono ?_
  rintro e w1 ⟨b1, l1, A1, c1, x1, rfl, hd1, m1, hb⟩
  have hs1 := hb.size
  try simp only [World.size_alloc, World.size_setCell] at hs1
  replace bw : Below w.heap.size w w1 := dy_end (by go_grown) hb
  clear hb
  go_wp2_with fail
  with_reducible refine (nof_any z hn2 (hT.onD (by go_grown))).mono ?_
  rintro e w2 ⟨b2, l2, A2, c2, x2, rfl, hd2, m2, hb⟩
  have hs2 := hb.size
  try simp only [World.size_alloc, World.size_setCell] at hs2
  replace bw : Below w.heap.size w w2 := dy_end (by go_grown) hb
  replace m1 := Lv.on m1 hb
  clear hb
  go_wp2_with fail
  with_reducible refine (nsum_any g1.rng g2.rng hd1 m1 hd2 m2 (hT.onD (by go_grown)) (g1.inn.mono (by omega) (by omega)) (g2.inn.mono (by omega) (by omega))).mono ?_
  rintro e w3 ⟨b3, l3, A3, c3, x3, rfl, hd3, m3, hb⟩
  have hs3 := hb.size
  try simp only [World.size_alloc, World.size_setCell] at hs3
  replace bw : Below w.heap.size w w3 := dy_end (by go_grown) hb
  replace m1 := Lv.on m1 hb
  replace m2 := Lv.on m2 hb
  clear hb
  have o3 : okE x3 = true := by rw [← hd3.exp]; exact g3.okE (by omega) (by omega)
  go_wp2_with fail
  with_reducible refine (nfloat_any g3.cc hd3 m3 (hT.onD (by go_grown)) o3).mono ?_
  rintro e w4 ⟨rfl, hb⟩
  have hs4 := hb.size
  try simp only [World.size_alloc, World.size_setCell] at hs4
  replace bw : Below w.heap.size w w4 := dy_end (by go_grown) hb
  replace m1 := Lv.on m1 hb
  replace m2 := Lv.on m2 hb
  replace m3 := Lv.on m3 hb
  clear hb
  go_wp2_with fail
  go_ret
  exact ⟨by rw [← hm]; rfl, by go_grown⟩

set_option maxRecDepth 100000 in
set_option maxHeartbeats 4000000 in
theorem sMul_any (y z : Nat) (hn : y ≤ 18446744073709551615) (hn2 : z ≤ 18446744073709551615) (hT : Tab w) :
    Calls Tryz.prog 17 #[.float .f64 y, .float .f64 z] w fun e w' => e = .returned (.float .f64 ((Ieee.double.mul y z).getD nanW)) ∧ Below w.heap.size w w' := by
  have g1 := gd_w y
  have g2 := gd_w z
  have bw : Below w.heap.size w w := Below.refl _ _
  have g3 : Gd (nuPro (nuW y) (nuW z)) (-4300) 4300 := gd_c (g1.mono (by omega) (by omega)) (g2.mono (by omega) (by omega)) (fun _ => gd_n (mulN_ok _ _) ((mulN_in g1.inn g2.inn).mono (by omega) (by omega))) (proT_bd _ _)
  have hm := mul_mach y z hn hn2
  go_enter Tryz.func17, Tryz.ntmps17
  go_wp2_with fail
  with_reducible refine (nof_any y hn (hT.onD (by go_grown))).mono ?_
  rintro e w1 ⟨b1, l1, A1, c1, x1, rfl, hd1, m1, hb⟩
  have hs1 := hb.size
  try simp only [World.size_alloc, World.size_setCell] at hs1
  replace bw : Below w.heap.size w w1 := dy_end (by go_grown) hb
  clear hb
  go_wp2_with fail
  with_reducible refine (nof_any z hn2 (hT.onD (by go_grown))).mono ?_
  rintro e w2 ⟨b2, l2, A2, c2, x2, rfl, hd2, m2, hb⟩
  have hs2 := hb.size
  try simp only [World.size_alloc, World.size_setCell] at hs2
  replace bw : Below w.heap.size w w2 := dy_end (by go_grown) hb
  replace m1 := Lv.on m1 hb
  clear hb
  go_wp2_with fail
  with_reducible refine (npro_any g1.rng g2.rng hd1 m1 hd2 m2 (hT.onD (by go_grown)) g1.inn g2.inn).mono ?_
  rintro e w3 ⟨b3, l3, A3, c3, x3, rfl, hd3, m3, hb⟩
  have hs3 := hb.size
  try simp only [World.size_alloc, World.size_setCell] at hs3
  replace bw : Below w.heap.size w w3 := dy_end (by go_grown) hb
  replace m1 := Lv.on m1 hb
  replace m2 := Lv.on m2 hb
  clear hb
  have o3 : okE x3 = true := by rw [← hd3.exp]; exact g3.okE (by omega) (by omega)
  go_wp2_with fail
  with_reducible refine (nfloat_any g3.cc hd3 m3 (hT.onD (by go_grown)) o3).mono ?_
  rintro e w4 ⟨rfl, hb⟩
  have hs4 := hb.size
  try simp only [World.size_alloc, World.size_setCell] at hs4
  replace bw : Below w.heap.size w w4 := dy_end (by go_grown) hb
  replace m1 := Lv.on m1 hb
  replace m2 := Lv.on m2 hb
  replace m3 := Lv.on m3 hb
  clear hb
  go_wp2_with fail
  go_ret
  exact ⟨by rw [← hm]; rfl, by go_grown⟩

set_option maxRecDepth 100000 in
set_option maxHeartbeats 4000000 in
theorem sDiv_any (y z : Nat) (hn : y ≤ 18446744073709551615) (hn2 : z ≤ 18446744073709551615) (hT : Tab w) :
    Calls Tryz.prog 18 #[.float .f64 y, .float .f64 z] w fun e w' => e = .returned (.float .f64 ((Ieee.double.div y z).getD nanW)) ∧ Below w.heap.size w w' := by
  have g1 := gd_w y
  have g2 := gd_w z
  have bw : Below w.heap.size w w := Below.refl _ _
  have n0 : quoT (nuW y).c (nuW z).c = 0 → (nuW y).d.man ≠ 0 ∧ (nuW z).d.man ≠ 0 := by
    intro e
    have a1 := g1.cc
    have a2 := g2.cc
    have : (nuW y).c = 3 ∧ (nuW z).c = 3 := by unfold quoT at e; (repeat' split at e) <;> omega
    exact ⟨g1.nz y rfl this.1 hn, g2.nz z rfl this.2 hn2⟩
  have g3 : Gd (nuQuo (nuW y) (nuW z)) (-4300) 4300 := gd_c (g1.mono (by omega) (by omega)) (g2.mono (by omega) (by omega)) (fun _ => (gd_w _).mono (by omega) (by omega)) (quoT_bd _ _)
  have hm := div_mach y z hn hn2
  go_enter Tryz.func18, Tryz.ntmps18
  go_wp2_with fail
  with_reducible refine (nof_any y hn (hT.onD (by go_grown))).mono ?_
  rintro e w1 ⟨b1, l1, A1, c1, x1, rfl, hd1, m1, hb⟩
  have hs1 := hb.size
  try simp only [World.size_alloc, World.size_setCell] at hs1
  replace bw : Below w.heap.size w w1 := dy_end (by go_grown) hb
  clear hb
  go_wp2_with fail
  with_reducible refine (nof_any z hn2 (hT.onD (by go_grown))).mono ?_
  rintro e w2 ⟨b2, l2, A2, c2, x2, rfl, hd2, m2, hb⟩
  have hs2 := hb.size
  try simp only [World.size_alloc, World.size_setCell] at hs2
  replace bw : Below w.heap.size w w2 := dy_end (by go_grown) hb
  replace m1 := Lv.on m1 hb
  clear hb
  go_wp2_with fail
  with_reducible refine (nquo_any g1.rng g2.rng hd1 m1 hd2 m2 (hT.onD (by go_grown)) g1.inn g2.inn n0).mono ?_
  rintro e w3 ⟨b3, l3, A3, c3, x3, rfl, hd3, m3, hb⟩
  have hs3 := hb.size
  try simp only [World.size_alloc, World.size_setCell] at hs3
  replace bw : Below w.heap.size w w3 := dy_end (by go_grown) hb
  replace m1 := Lv.on m1 hb
  replace m2 := Lv.on m2 hb
  clear hb
  have o3 : okE x3 = true := by rw [← hd3.exp]; exact g3.okE (by omega) (by omega)
  go_wp2_with fail
  with_reducible refine (nfloat_any g3.cc hd3 m3 (hT.onD (by go_grown)) o3).mono ?_
  rintro e w4 ⟨rfl, hb⟩
  have hs4 := hb.size
  try simp only [World.size_alloc, World.size_setCell] at hs4
  replace bw : Below w.heap.size w w4 := dy_end (by go_grown) hb
  replace m1 := Lv.on m1 hb
  replace m2 := Lv.on m2 hb
  replace m3 := Lv.on m3 hb
  clear hb
  go_wp2_with fail
  go_ret
  exact ⟨by rw [← hm]; rfl, by go_grown⟩

set_option maxRecDepth 100000 in
set_option maxHeartbeats 4000000 in
theorem sSub_any (y z : Nat) (hn : y ≤ 18446744073709551615) (hn2 : z ≤ 18446744073709551615) (hT : Tab w) :
    Calls Tryz.prog 16 #[.float .f64 y, .float .f64 z] w fun e w' => e = .returned (.float .f64 ((Ieee.double.sub y z).getD nanW)) ∧ Below w.heap.size w w' := by
  obtain ⟨i0, i1⟩ := one_bd z hn2
  have ho1 := ofBany z hn2
  have hng := negate_any (one (z : Int)) i0 i1
  have hnb : 0 ≤ negate (one (z : Int)) ∧ negate (one (z : Int)) ≤ 18446744073709551615 := by have := flip_bd (one (z : Int)) i0 i1; unfold negate; split; decide; exact this
  have hm := add_mach y (negate (one (z : Int))).toNat hn (by omega)
  have hm2 := sub_mach y z hn hn2
  rw [hm] at hm2
  have hfl := float_any (negate (one (z : Int)))
  have ha := fun W (tt : Tab W) => sAdd_any y (negate (one (z : Int))).toNat hn (by omega) tt
  rw [hm2] at ha
  clear hm hm2
  generalize (negate (one (z : Int))).toNat = v at *
  generalize negate (one (z : Int)) = u at *
  generalize one (z : Int) = t at *
  have bw : Below w.heap.size w w := Below.refl _ _
  go_enter Tryz.func16, Tryz.ntmps16
  go_wp2_with fail
  with_reducible refine (ho1 _).mono ?_
  rintro e w0 ⟨rfl, rfl⟩
  go_wp2_with fail
  with_reducible refine (hng _).mono ?_
  rintro e w0 ⟨rfl, rfl⟩
  go_wp2_with fail
  with_reducible refine (hfl _).mono ?_
  rintro e w0 ⟨rfl, rfl⟩
  go_wp2_with fail
  with_reducible refine (ha _ (hT.onD (by go_grown))).mono ?_
  rintro e w1 ⟨rfl, hb⟩
  have hs1 := hb.size
  try simp only [World.size_alloc, World.size_setCell] at hs1
  replace bw : Below w.heap.size w w1 := dy_end (by go_grown) hb
  clear hb
  go_wp2_with fail
  go_ret
  exact ⟨rfl, by go_grown⟩

set_option maxRecDepth 100000 in
set_option maxHeartbeats 4000000 in
theorem sFma_any (u y z : Nat) (hn0 : u ≤ 18446744073709551615) (hn : y ≤ 18446744073709551615) (hn2 : z ≤ 18446744073709551615) (hT : Tab w) :
    Calls Tryz.prog 21 #[.float .f64 u, .float .f64 y, .float .f64 z] w fun e w' => e = .returned (.float .f64 ((Ieee.double.fma u y z).getD nanW)) ∧ Below w.heap.size w w' := by
  have g0 := gd_w u
  have g1 := gd_w y
  have g2 := gd_w z
  have bw : Below w.heap.size w w := Below.refl _ _
  have g3 : Gd (nuPro (nuW u) (nuW y)) (-2148) 2048 := gd_c (g0.mono (by omega) (by omega)) (g1.mono (by omega) (by omega)) (fun _ => gd_n (mulN_ok _ _) ((mulN_in g0.inn g1.inn).mono (by omega) (by omega))) (proT_bd _ _)
  have g4 : Gd (nuSum (nuPro (nuW u) (nuW y)) (nuW z)) (-4300) 4300 := gd_c (g3.mono (by omega) (by omega)) (g2.mono (by omega) (by omega)) (fun _ => gd_n (sumN_ok _ _) ((sumN_in g3.ok g2.ok g3.inn (g2.inn.mono (by omega) (by omega)) (by omega)).mono (by omega) (by omega))) (sumT_bd _ _)
  have hm := fma_mach u y z hn0 hn hn2
  go_enter Tryz.func21, Tryz.ntmps21
  go_wp2_with fail
  with_reducible refine (nof_any u hn0 (hT.onD (by go_grown))).mono ?_
  rintro e w1 ⟨b0, l0, A0, c0, x0, rfl, hd0, m0, hb⟩
  have hs1 := hb.size
  try simp only [World.size_alloc, World.size_setCell] at hs1
  replace bw : Below w.heap.size w w1 := dy_end (by go_grown) hb
  clear hb
  go_wp2_with fail
  with_reducible refine (nof_any y hn (hT.onD (by go_grown))).mono ?_
  rintro e w2 ⟨b1, l1, A1, c1, x1, rfl, hd1, m1, hb⟩
  have hs2 := hb.size
  try simp only [World.size_alloc, World.size_setCell] at hs2
  replace bw : Below w.heap.size w w2 := dy_end (by go_grown) hb
  replace m0 := Lv.on m0 hb
  clear hb
  go_wp2_with fail
  with_reducible refine (npro_any g0.rng g1.rng hd0 m0 hd1 m1 (hT.onD (by go_grown)) g0.inn g1.inn).mono ?_
  rintro e w3 ⟨b3, l3, A3, c3, x3, rfl, hd3, m3, hb⟩
  have hs3 := hb.size
  try simp only [World.size_alloc, World.size_setCell] at hs3
  replace bw : Below w.heap.size w w3 := dy_end (by go_grown) hb
  replace m0 := Lv.on m0 hb
  replace m1 := Lv.on m1 hb
  clear hb
  go_wp2_with fail
  with_reducible refine (nof_any z hn2 (hT.onD (by go_grown))).mono ?_
  rintro e w4 ⟨b2, l2, A2, c2, x2, rfl, hd2, m2, hb⟩
  have hs4 := hb.size
  try simp only [World.size_alloc, World.size_setCell] at hs4
  replace bw : Below w.heap.size w w4 := dy_end (by go_grown) hb
  replace m0 := Lv.on m0 hb
  replace m1 := Lv.on m1 hb
  replace m3 := Lv.on m3 hb
  clear hb
  go_wp2_with fail
  with_reducible refine (nsum_any g3.rng g2.rng hd3 m3 hd2 m2 (hT.onD (by go_grown)) g3.inn (g2.inn.mono (by omega) (by omega))).mono ?_
  rintro e w5 ⟨b4, l4, A4, c4, x4, rfl, hd4, m4, hb⟩
  have hs5 := hb.size
  try simp only [World.size_alloc, World.size_setCell] at hs5
  replace bw : Below w.heap.size w w5 := dy_end (by go_grown) hb
  replace m0 := Lv.on m0 hb
  replace m1 := Lv.on m1 hb
  replace m3 := Lv.on m3 hb
  replace m2 := Lv.on m2 hb
  clear hb
  have o4 : okE x4 = true := by rw [← hd4.exp]; exact g4.okE (by omega) (by omega)
  go_wp2_with fail
  with_reducible refine (nfloat_any g4.cc hd4 m4 (hT.onD (by go_grown)) o4).mono ?_
  rintro e w6 ⟨rfl, hb⟩
  have hs6 := hb.size
  try simp only [World.size_alloc, World.size_setCell] at hs6
  replace bw : Below w.heap.size w w6 := dy_end (by go_grown) hb
  replace m0 := Lv.on m0 hb
  replace m1 := Lv.on m1 hb
  replace m3 := Lv.on m3 hb
  replace m2 := Lv.on m2 hb
  replace m4 := Lv.on m4 hb
  clear hb
  go_wp2_with fail
  go_ret
  exact ⟨by rw [← hm]; rfl, by go_grown⟩

theorem nu_neg (y : Nat) (hn : y ≤ 18446744073709551615) (hc : (nuW y).c = 3) (hs : (nuW y).neg = false) : (nuW y).d.neg = false := by
  have hr := rel_of y hn
  generalize Ieee.double.read y = X at hr
  cases X with
  | number s m e =>
    obtain ⟨r1, r2, r3⟩ := hr
    rw [r3, ← hs, r2]
    by_cases h0 : m = 0
    · rw [if_pos h0] at r1; omega
    · rw [nfl_pos (by omega)]
  | infinity s => have := hr.1; omega
  | nan s f => have : (nuW y).c = 5 := hr; omega
set_option maxRecDepth 100000 in
set_option maxHeartbeats 4000000 in
theorem sqrt_z (y : Nat) (hn : y ≤ 18446744073709551615) (hT : Tab w) (hc : (nuW y).c = 1) :
    Calls Tryz.prog 19 #[.float .f64 y] w fun e w' => e = .returned (.float .f64 ((Ieee.double.sqrt y).getD nanW)) ∧ Below w.heap.size w w' := by
  have g1 := gd_w y
  have bw : Below w.heap.size w w := Below.refl _ _
  have hm := (sqrt_mach y hn).symm
  rw [show sqrtM y = y by unfold sqrtM; rw [if_pos hc]] at hm
  rw [hm]
  clear hm
  have nz := fun h3 => g1.nz y rfl h3 hn
  have hof := fun W (tt : Tab W) => nof_any y hn tt
  generalize nuW y = N at *
  obtain ⟨k, s, d⟩ := N
  simp only at hc nz
  subst hc
  go_enter Tryz.func19, Tryz.ntmps19
  go_wp2_with fail
  with_reducible refine (hof _ (hT.onD (by go_grown))).mono ?_
  rintro e w1 ⟨b1, l1, A1, c1, x1, rfl, hd1, m1, hb⟩
  have hs1 := hb.size
  try simp only [World.size_alloc, World.size_setCell] at hs1
  replace bw : Below w.heap.size w w1 := dy_end (by go_grown) hb
  clear hb
  replace m1 := Lv.alloc m1 (.cells #[.int .i64 (1), .bool (s), .bool b1, .slice A1 l1.length c1, .int .i64 x1] 52)
  have NB := Blk.new w1 [.int .i64 (1), .bool (s), .bool b1, .slice A1 l1.length c1, .int .i64 x1] 52
  try simp only [World.size_alloc] at NB
  have NB_0 := Blk.cell NB 0 rfl
  have NB_1 := Blk.cell NB 1 rfl
  have NB_2 := Blk.cell NB 2 rfl
  have NB_3 := Blk.cell NB 3 rfl
  have NB_4 := Blk.cell NB 4 rfl
  have NB_f0 := Blk.free NB 0
  have NB_f1 := Blk.free NB 1
  have NB_f2 := Blk.free NB 2
  have NB_f3 := Blk.free NB 3
  have NB_f4 := Blk.free NB 4
  go_wp2_with fail
  go_ret
  exact ⟨rfl, by go_grown⟩

set_option maxRecDepth 100000 in
set_option maxHeartbeats 4000000 in
theorem sqrt_n (y : Nat) (hn : y ≤ 18446744073709551615) (hT : Tab w) (hc : (nuW y).c ≠ 1) (hs : (nuW y).neg = true) :
    Calls Tryz.prog 19 #[.float .f64 y] w fun e w' => e = .returned (.float .f64 ((Ieee.double.sqrt y).getD nanW)) ∧ Below w.heap.size w w' := by
  have g1 := gd_w y
  have bw : Below w.heap.size w w := Below.refl _ _
  have hm := (sqrt_mach y hn).symm
  rw [show sqrtM y = nanW by unfold sqrtM; rw [if_neg hc, if_pos hs]] at hm
  rw [hm]
  clear hm
  have nz := fun h3 => g1.nz y rfl h3 hn
  have hof := fun W (tt : Tab W) => nof_any y hn tt
  have pn := fun W (tt : Tab W) => nfloat_any (k := 5) (s := false) (w := W) (b := false) (A := none) (c := 0) (x := 0) (l := []) (d := zeroN) (.inr (.inr (.inr rfl))) Dn.zero (lv_nil _) tt rfl
  simp only [List.length_nil] at pn
  generalize nuW y = N at *
  obtain ⟨k, s, d⟩ := N
  simp only at hc hs nz
  subst hs
  have c1 : (k == 1) = false := by simp; exact hc
  go_enter Tryz.func19, Tryz.ntmps19
  go_wp2_with fail
  with_reducible refine (hof _ (hT.onD (by go_grown))).mono ?_
  rintro e w1 ⟨b1, l1, A1, c1, x1, rfl, hd1, m1, hb⟩
  have hs1 := hb.size
  try simp only [World.size_alloc, World.size_setCell] at hs1
  replace bw : Below w.heap.size w w1 := dy_end (by go_grown) hb
  clear hb
  replace m1 := Lv.alloc m1 (.cells #[.int .i64 (k), .bool (true), .bool b1, .slice A1 l1.length c1, .int .i64 x1] 52)
  have NB := Blk.new w1 [.int .i64 (k), .bool (true), .bool b1, .slice A1 l1.length c1, .int .i64 x1] 52
  try simp only [World.size_alloc] at NB
  have NB_0 := Blk.cell NB 0 rfl
  have NB_1 := Blk.cell NB 1 rfl
  have NB_2 := Blk.cell NB 2 rfl
  have NB_3 := Blk.cell NB 3 rfl
  have NB_4 := Blk.cell NB 4 rfl
  have NB_f0 := Blk.free NB 0
  have NB_f1 := Blk.free NB 1
  have NB_f2 := Blk.free NB 2
  have NB_f3 := Blk.free NB 3
  have NB_f4 := Blk.free NB 4
  go_wp2_with fail
  with_reducible refine (pn _ (hT.onD (by go_grown))).mono ?_
  rintro e w2 ⟨rfl, hb⟩
  clear NB_0 NB_1 NB_2 NB_3 NB_4 NB_f0 NB_f1 NB_f2 NB_f3 NB_f4
  have hs2 := hb.size
  try simp only [World.size_alloc, World.size_setCell] at hs2
  replace bw : Below w.heap.size w w2 := dy_end (by go_grown) hb
  replace m1 := Lv.on m1 hb
  replace NB := Blk.on NB hb
  clear hb
  have NB_0 := Blk.cell NB 0 rfl
  have NB_1 := Blk.cell NB 1 rfl
  have NB_2 := Blk.cell NB 2 rfl
  have NB_3 := Blk.cell NB 3 rfl
  have NB_4 := Blk.cell NB 4 rfl
  have NB_f0 := Blk.free NB 0
  have NB_f1 := Blk.free NB 1
  have NB_f2 := Blk.free NB 2
  have NB_f3 := Blk.free NB 3
  have NB_f4 := Blk.free NB 4
  go_wp2_with fail
  go_ret
  exact ⟨rfl, by go_grown⟩

set_option maxRecDepth 100000 in
set_option maxHeartbeats 4000000 in
theorem sqrt_r (y : Nat) (hn : y ≤ 18446744073709551615) (hT : Tab w) (hc : (nuW y).c = 3) (hs : (nuW y).neg = false) :
    Calls Tryz.prog 19 #[.float .f64 y] w fun e w' => e = .returned (.float .f64 ((Ieee.double.sqrt y).getD nanW)) ∧ Below w.heap.size w w' := by
  have g1 := gd_w y
  have bw : Below w.heap.size w w := Below.refl _ _
  have hm := (sqrt_mach y hn).symm
  rw [show sqrtM y = rootD (nuW y).d by unfold sqrtM; rw [if_neg (by omega), if_neg (by rw [hs]; decide), if_pos hc]] at hm
  rw [hm]
  clear hm
  have nz := fun h3 => g1.nz y rfl h3 hn
  have hof := fun W (tt : Tab W) => nof_any y hn tt
  have hs2 : (nuW y).d.neg = false := nu_neg y hn hc hs
  generalize nuW y = N at *
  obtain ⟨k, s, d⟩ := N
  simp only at hc hs nz hs2
  subst hs
  subst hc
  go_enter Tryz.func19, Tryz.ntmps19
  go_wp2_with fail
  with_reducible refine (hof _ (hT.onD (by go_grown))).mono ?_
  rintro e w1 ⟨b1, l1, A1, c1, x1, rfl, hd1, m1, hb⟩
  have hs1 := hb.size
  try simp only [World.size_alloc, World.size_setCell] at hs1
  replace bw : Below w.heap.size w w1 := dy_end (by go_grown) hb
  clear hb
  have hb1 : b1 = false := by rw [← hd1.neg]; exact hs2
  subst hb1
  replace m1 := Lv.alloc m1 (.cells #[.int .i64 (3), .bool (false), .bool false, .slice A1 l1.length c1, .int .i64 x1] 52)
  have NB := Blk.new w1 [.int .i64 (3), .bool (false), .bool false, .slice A1 l1.length c1, .int .i64 x1] 52
  try simp only [World.size_alloc] at NB
  have NB_0 := Blk.cell NB 0 rfl
  have NB_1 := Blk.cell NB 1 rfl
  have NB_2 := Blk.cell NB 2 rfl
  have NB_3 := Blk.cell NB 3 rfl
  have NB_4 := Blk.cell NB 4 rfl
  have NB_f0 := Blk.free NB 0
  have NB_f1 := Blk.free NB 1
  have NB_f2 := Blk.free NB 2
  have NB_f3 := Blk.free NB 3
  have NB_f4 := Blk.free NB 4
  go_wp2_with fail
  with_reducible refine (root_dn hd1 m1 (hT.onD (by go_grown)) g1.inn (nz trivial)).mono ?_
  rintro e w2 ⟨rfl, hb⟩
  clear NB_0 NB_1 NB_2 NB_3 NB_4 NB_f0 NB_f1 NB_f2 NB_f3 NB_f4
  have hs2 := hb.size
  try simp only [World.size_alloc, World.size_setCell] at hs2
  replace bw : Below w.heap.size w w2 := dy_end (by go_grown) hb
  replace m1 := Lv.on m1 hb
  replace NB := Blk.on NB hb
  clear hb
  have NB_0 := Blk.cell NB 0 rfl
  have NB_1 := Blk.cell NB 1 rfl
  have NB_2 := Blk.cell NB 2 rfl
  have NB_3 := Blk.cell NB 3 rfl
  have NB_4 := Blk.cell NB 4 rfl
  have NB_f0 := Blk.free NB 0
  have NB_f1 := Blk.free NB 1
  have NB_f2 := Blk.free NB 2
  have NB_f3 := Blk.free NB 3
  have NB_f4 := Blk.free NB 4
  go_wp2_with fail
  go_ret
  exact ⟨rfl, by go_grown⟩

set_option maxRecDepth 100000 in
set_option maxHeartbeats 4000000 in
theorem sqrt_o (y : Nat) (hn : y ≤ 18446744073709551615) (hT : Tab w) (hc : (nuW y).c ≠ 1 ∧ (nuW y).c ≠ 3) (hs : (nuW y).neg = false) :
    Calls Tryz.prog 19 #[.float .f64 y] w fun e w' => e = .returned (.float .f64 ((Ieee.double.sqrt y).getD nanW)) ∧ Below w.heap.size w w' := by
  have g1 := gd_w y
  have bw : Below w.heap.size w w := Below.refl _ _
  have hm := (sqrt_mach y hn).symm
  rw [show sqrtM y = (nuW y).word by unfold sqrtM; rw [if_neg hc.1, if_neg (by rw [hs]; decide), if_neg hc.2]] at hm
  rw [hm]
  clear hm
  have nz := fun h3 => g1.nz y rfl h3 hn
  have hof := fun W (tt : Tab W) => nof_any y hn tt
  generalize nuW y = N at *
  obtain ⟨k, s, d⟩ := N
  simp only at hc hs nz
  subst hs
  have c1 : (k == 1) = false := by simp; exact hc.1
  have c3 : (k == 3) = false := by simp; exact hc.2
  go_enter Tryz.func19, Tryz.ntmps19
  go_wp2_with fail
  with_reducible refine (hof _ (hT.onD (by go_grown))).mono ?_
  rintro e w1 ⟨b1, l1, A1, c1, x1, rfl, hd1, m1, hb⟩
  have hs1 := hb.size
  try simp only [World.size_alloc, World.size_setCell] at hs1
  replace bw : Below w.heap.size w w1 := dy_end (by go_grown) hb
  clear hb
  replace m1 := Lv.alloc m1 (.cells #[.int .i64 (k), .bool (false), .bool b1, .slice A1 l1.length c1, .int .i64 x1] 52)
  have NB := Blk.new w1 [.int .i64 (k), .bool (false), .bool b1, .slice A1 l1.length c1, .int .i64 x1] 52
  try simp only [World.size_alloc] at NB
  have NB_0 := Blk.cell NB 0 rfl
  have NB_1 := Blk.cell NB 1 rfl
  have NB_2 := Blk.cell NB 2 rfl
  have NB_3 := Blk.cell NB 3 rfl
  have NB_4 := Blk.cell NB 4 rfl
  have NB_f0 := Blk.free NB 0
  have NB_f1 := Blk.free NB 1
  have NB_f2 := Blk.free NB 2
  have NB_f3 := Blk.free NB 3
  have NB_f4 := Blk.free NB 4
  go_wp2_with fail
  have o1 : okE x1 = true := by rw [← hd1.exp]; exact g1.okE (by omega) (by omega)
  with_reducible refine (nfloat_any g1.cc hd1 m1 (hT.onD (by go_grown)) o1).mono ?_
  rintro e w2 ⟨rfl, hb⟩
  clear NB_0 NB_1 NB_2 NB_3 NB_4 NB_f0 NB_f1 NB_f2 NB_f3 NB_f4
  have hs2 := hb.size
  try simp only [World.size_alloc, World.size_setCell] at hs2
  replace bw : Below w.heap.size w w2 := dy_end (by go_grown) hb
  replace m1 := Lv.on m1 hb
  replace NB := Blk.on NB hb
  clear hb
  have NB_0 := Blk.cell NB 0 rfl
  have NB_1 := Blk.cell NB 1 rfl
  have NB_2 := Blk.cell NB 2 rfl
  have NB_3 := Blk.cell NB 3 rfl
  have NB_4 := Blk.cell NB 4 rfl
  have NB_f0 := Blk.free NB 0
  have NB_f1 := Blk.free NB 1
  have NB_f2 := Blk.free NB 2
  have NB_f3 := Blk.free NB 3
  have NB_f4 := Blk.free NB 4
  go_wp2_with fail
  go_ret
  exact ⟨rfl, by go_grown⟩

theorem sSqrt_any (y : Nat) (hn : y ≤ 18446744073709551615) (hT : Tab w) :
    Calls Tryz.prog 19 #[.float .f64 y] w fun e w' => e = .returned (.float .f64 ((Ieee.double.sqrt y).getD nanW)) ∧ Below w.heap.size w w' := by
  by_cases h1 : (nuW y).c = 1
  · exact sqrt_z y hn hT h1
  · cases hs : (nuW y).neg
    · by_cases h3 : (nuW y).c = 3
      · exact sqrt_r y hn hT h3 hs
      · exact sqrt_o y hn hT ⟨h1, h3⟩ hs
    · exact sqrt_n y hn hT h1 hs
end
end Go.Proofs.YtfjellhbcjnjkaaGreatDoor
