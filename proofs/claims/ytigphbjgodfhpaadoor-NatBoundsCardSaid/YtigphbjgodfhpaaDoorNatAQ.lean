/-
  Layer 2, the laws, part five: NatRings. (The last walk is written by wip/tools/gen_rings.py.)
-/
import Derived.Test.YtigphbjgodfhpaaDoorNatAP
namespace Go.Proofs.YtigphbjgodfhpaaDoor
open Go.RowKit
set_option linter.unusedVariables false

/-- a number without an error -/
def GoodV (v : Int) (w : World) (e : Ending) (w' : World) : Prop :=
  ∃ l A c, e = .returned (.tuple #[.slice A l.length c, .int .i64 0]) ∧ Normal l ∧ Hid (val 18446744073709551616 l = v) ∧ l.length ≤ 4096 ∧ Lv w' A l.length c l ∧ Below w.heap.size w w'
theorem Made2.goodV {v : Int} {w w' : World} {e : Ending} (h : Made2 v w e w') (hv : v < 18446744073709551616 ^ 4096) : GoodV v w e w' := by
  obtain ⟨s, A, c, h1, h2, h3, h4, h5, h6⟩ := h
  exact ⟨s, A, c, h1, h3, h4, length_le_of_lt (b := 18446744073709551616) (by omega) h2 h3 (by rw [h4]; exact hv), ⟨rfl, h5.nums, h2⟩, h6⟩
theorem nuq {l s : List Int} (h1 : Lim 18446744073709551616 l) (h2 : Normal l) (h3 : Lim 18446744073709551616 s) (h4 : Normal s) (hv : val 18446744073709551616 l = val 18446744073709551616 s) : l = s :=
  normal_unique (b := 18446744073709551616) (by omega) h1 h3 h2 h4 hv
theorem Lv.nonneg {A : Option Addr} {n c : Nat} {l : List Int} {w : World} (h : Lv w A n c l) : 0 ≤ val 18446744073709551616 l := (val_bound (by omega) h.2.2).1
theorem Lv.less {A : Option Addr} {n c k : Nat} {l : List Int} {w : World} (h : Lv w A n c l) (hk : n ≤ k) : val 18446744073709551616 l < 18446744073709551616 ^ k :=
  Int.lt_of_lt_of_le (val_bound (by omega) h.2.2).2 (pow_le' (by omega) (by rw [h.1]; exact hk))
theorem okl_nil : Okl [] := ⟨Lim.nil _, Normal.nil, by simp⟩

theorem b_pow (B k T : Nat) (hB : B ≤ 10 ^ 20) (hT : 20 * k ≤ T) : B ^ k ≤ 10 ^ T :=
  Nat.le_trans (Nat.pow_le_pow_left hB k) (by rw [← Nat.pow_mul]; exact Nat.pow_le_pow_right (by decide) hT)
theorem txt_ok60 {A : Option Addr} {n c : Nat} {l : List Int} {w : World} (h : Lv w A n c l) (hn : n ≤ 60) : OkText (txt (val 18446744073709551616 l).toNat) := by
  have h0 := h.nonneg
  have h1 := h.less hn
  have h2 := b_pow 18446744073709551616 60 78914 (by decide) (by decide)
  have h4 : ((18446744073709551616 ^ 60 : Nat) : Int) = 18446744073709551616 ^ 60 := Int.natCast_pow _ _
  rw [← h4] at h1
  apply txt_ok
  generalize (10 : Nat) ^ 78914 = T at *
  generalize (18446744073709551616 : Nat) ^ 60 = Q at *
  omega
theorem Text_lv {A : Option Addr} {n c : Nat} {l : List Int} {w : World} (h : Lv w A n c l) (hn : n ≤ 60) : Calls Tryd.prog 43 #[.slice A n c] w fun e w' => ∃ t : ByteArray, e = .returned (.tuple #[.string t, .int .i64 0]) ∧ Hid (OkText t.data.toList ∧ dval t.data.toList = val 18446744073709551616 l) ∧ Below w.heap.size w w' := by
  have h0 := h.nonneg
  have := Text_any A c l w h.2.1 h.2.2 (norm_le h.1 (by omega))
  rw [h.1] at this
  refine this.mono ?_
  rintro e w' ⟨rfl, hb⟩
  refine ⟨_, rfl, ⟨?_, ?_⟩, hb⟩
  · exact txt_ok60 h hn
  · show dval (txt (val 18446744073709551616 l).toNat) = _
    rw [dval_txt]
    omega

section
variable {A A2 : Option Addr} {n m c c2 : Nat} {l s : List Int} {w : World} (h : Lv w A n c l) (h2 : Lv w A2 m c2 s) (hn : n ≤ 4096) (hm : m ≤ 4096)
include h hn
theorem refNorm_lv : Calls Tryd.prog 22 #[.slice A n c] w fun e w' => ∃ A' c', e = .returned (.slice A' (norm l).length c') ∧ Lv w' A' (norm l).length c' (norm l) ∧ Below w.heap.size w w' := by
  have := refNorm_any A c l w h.2.1 h.2.2 (by rw [h.1]; omega)
  rw [h.1] at this
  refine this.mono ?_
  rintro e w' ⟨A', c', rfl, ho, hb⟩
  exact ⟨A', c', rfl, ⟨rfl, ho.nums, norm_lim h.2.2⟩, hb⟩
include h2 hm
theorem Add_val (hv : val 18446744073709551616 l + val 18446744073709551616 s < 18446744073709551616 ^ 4096) : Calls Tryd.prog 23 #[.slice A n c, .slice A2 m c2] w (GoodV (val 18446744073709551616 l + val 18446744073709551616 s) w) := by
  have := Add_any A c l A2 c2 s w h.2.1 h.2.2 h2.2.1 h2.2.2 (norm_le h.1 hn) (norm_le h2.1 hm) hv
  rw [h.1, h2.1] at this
  exact this.mono fun e w' q => q.goodV hv
theorem Mul_val (hv : val 18446744073709551616 l * val 18446744073709551616 s < 18446744073709551616 ^ 4096) : Calls Tryd.prog 27 #[.slice A n c, .slice A2 m c2] w (GoodV (val 18446744073709551616 l * val 18446744073709551616 s) w) := by
  have := Mul_any A c l A2 c2 s w h.2.1 h.2.2 h2.2.1 h2.2.2 (norm_le h.1 hn) (norm_le h2.1 hm) hv
  rw [h.1, h2.1] at this
  exact this.mono fun e w' q => q.goodV hv
theorem Sub_val (hv : val 18446744073709551616 s ≤ val 18446744073709551616 l) : Calls Tryd.prog 25 #[.slice A n c, .slice A2 m c2] w (GoodV (val 18446744073709551616 l - val 18446744073709551616 s) w) := by
  have h0 := h2.nonneg
  have h1 := h.less hn
  have := Sub_any A c l A2 c2 s w h.2.1 h.2.2 h2.2.1 h2.2.2 (norm_le h.1 hn) (norm_le h2.1 hm) hv
  rw [h.1, h2.1] at this
  exact this.mono fun e w' q => q.goodV (Int.lt_of_le_of_lt (Int.sub_le_self _ h0) h1)
end
theorem same_lv {A A2 : Option Addr} {n c c2 : Nat} {l : List Int} {w : World} (h : Lv w A n c l) (h2 : Lv w A2 n c2 l) : Calls Tryd.prog 21 #[.slice A n c, .slice A2 n c2] w fun e w' => e = .returned (.bool true) ∧ Below w.heap.size w w' := by
  have hs := same_true A c A2 c2 l w _ _ h.2.1 h2.2.1
  rw [h.1] at hs
  refine hs.mono ?_
  rintro e w' ⟨rfl, k, rfl⟩
  exact ⟨rfl, below_drewN (Below.refl _ _) _⟩

theorem rings_bound {a b c : Int} (a0 : 0 ≤ a) (b0 : 0 ≤ b) (c0 : 0 ≤ c) (a1 : a < 18446744073709551616 ^ 30) (b1 : b < 18446744073709551616 ^ 30) (c1 : c < 18446744073709551616 ^ 30) :
    a + b < 18446744073709551616 ^ 4096 ∧ (a + b) * c < 18446744073709551616 ^ 4096 ∧ a * c < 18446744073709551616 ^ 4096 ∧ c * b < 18446744073709551616 ^ 4096 ∧ a * c + c * b < 18446744073709551616 ^ 4096 := by
  have e : (18446744073709551616 : Int) ^ 61 ≤ 18446744073709551616 ^ 4096 := pow_le' (by omega) (by omega)
  have e2 : (18446744073709551616 : Int) ^ 61 = 18446744073709551616 ^ 30 * 18446744073709551616 ^ 30 * 18446744073709551616 := by rw [← Int.pow_add, ← Int.pow_succ]
  have hp : (1 : Int) ≤ 18446744073709551616 ^ 30 := Int.pow_pos (by omega)
  generalize (18446744073709551616 : Int) ^ 4096 = K at *
  generalize (18446744073709551616 : Int) ^ 61 = Q at *
  generalize (18446744073709551616 : Int) ^ 30 = P at *
  have h1 : a * c ≤ P * P := Int.mul_le_mul (by omega) (by omega) (by omega) (by omega)
  have h2 : c * b ≤ P * P := Int.mul_le_mul (by omega) (by omega) (by omega) (by omega)
  have h3 : (a + b) * c = a * c + c * b := by rw [Int.add_mul, Int.mul_comm b c]
  have h4 : 1 * P ≤ P * P := Int.mul_le_mul_of_nonneg_right hp (by omega)
  have h5 : 0 ≤ a * c := Int.mul_nonneg a0 c0
  have h6 : 0 ≤ c * b := Int.mul_nonneg c0 b0
  rw [h3]
  generalize P * P = R at *
  generalize a * c = X at *
  generalize c * b = Y at *
  refine ⟨by omega, by omega, by omega, by omega, by omega⟩

set_option maxRecDepth 100000 in
set_option maxHeartbeats 8000000 in
theorem rings_in {a b c : Option Addr} {na ca nb cb nc cc : Nat} {la lb lc : List Int} {w : World} (m_a : Lv w a na ca la) (m_b : Lv w b nb cb lb) (m_c : Lv w c nc cc lc) (ha : na ≤ 30) (hb : nb ≤ 30) (hc : nc ≤ 30) (hT : Tab w) :
    Calls Tryd.prog 13 #[.slice a na ca, .slice b nb cb, .slice c nc cc] w fun e w' => e = .returned (.bool true) ∧ Below w.heap.size w w' := by
  have HB := Lib.hid (rings_bound m_a.nonneg m_b.nonneg m_c.nonneg (m_a.less ha) (m_b.less hb) (m_c.less hc))
  have bw : Below w.heap.size w w := Below.refl _ w
  have ia : (na : Int) ≤ 30 := by omega
  have ib : (nb : Int) ≤ 30 := by omega
  have ic : (nc : Int) ≤ 30 := by omega
  go_enter Tryd.func13, Tryd.ntmps13
  go_wp2_with fail
  with_reducible refine (known_any _ hT).mono ?_
  rintro e w0 ⟨rfl, hb0⟩
  replace m_a := m_a.on hb0
  replace m_b := m_b.on hb0
  replace m_c := m_c.on hb0
  replace bw := bel_then bw hb0
  clear hb0 hT
  go_wp2_with fail
  have p1 := Add_val m_a m_b (by omega) (by omega) HB.out.1
  with_reducible refine p1.mono ?_
  rintro e w1 ⟨l_s, A_s, c_s, rfl, n_s, v_s, k_s, m_s, hb⟩
  clear p1
  replace m_a := m_a.on hb
  replace m_b := m_b.on hb
  replace m_c := m_c.on hb
  replace bw := bel_then bw hb
  clear hb
  go_wp2_with fail
  have p2 := Add_val m_b m_a (by omega) (by omega) (by rw [Int.add_comm]; exact HB.out.1)
  with_reducible refine p2.mono ?_
  rintro e w2 ⟨l_t, A_t, c_t, rfl, n_t, v_t, k_t, m_t, hb⟩
  clear p2
  replace m_a := m_a.on hb
  replace m_b := m_b.on hb
  replace m_c := m_c.on hb
  replace m_s := m_s.on hb
  replace bw := bel_then bw hb
  clear hb
  obtain rfl : l_t = l_s := nuq m_t.2.2 n_t m_s.2.2 n_s (by rw [v_t.out, v_s.out, Int.add_comm])
  go_wp2_with fail
  have p3 := Mul_val m_s m_c k_s (by omega) (by rw [v_s.out]; exact HB.out.2.1)
  with_reducible refine p3.mono ?_
  rintro e w3 ⟨l_u, A_u, c_u, rfl, n_u, v_u, k_u, m_u, hb⟩
  clear p3
  replace m_a := m_a.on hb
  replace m_b := m_b.on hb
  replace m_c := m_c.on hb
  replace m_s := m_s.on hb
  replace m_t := m_t.on hb
  replace bw := bel_then bw hb
  clear hb
  go_wp2_with fail
  have p4 := Mul_val m_a m_c (by omega) (by omega) HB.out.2.2.1
  with_reducible refine p4.mono ?_
  rintro e w4 ⟨l_x, A_x, c_x, rfl, n_x, v_x, k_x, m_x, hb⟩
  clear p4
  replace m_a := m_a.on hb
  replace m_b := m_b.on hb
  replace m_c := m_c.on hb
  replace m_s := m_s.on hb
  replace m_t := m_t.on hb
  replace m_u := m_u.on hb
  replace bw := bel_then bw hb
  clear hb
  go_wp2_with fail
  have p5 := Mul_val m_c m_b (by omega) (by omega) HB.out.2.2.2.1
  with_reducible refine p5.mono ?_
  rintro e w5 ⟨l_y, A_y, c_y, rfl, n_y, v_y, k_y, m_y, hb⟩
  clear p5
  replace m_a := m_a.on hb
  replace m_b := m_b.on hb
  replace m_c := m_c.on hb
  replace m_s := m_s.on hb
  replace m_t := m_t.on hb
  replace m_u := m_u.on hb
  replace m_x := m_x.on hb
  replace bw := bel_then bw hb
  clear hb
  go_wp2_with fail
  have p6 := Add_val m_x m_y k_x k_y (by rw [v_x.out, v_y.out]; exact HB.out.2.2.2.2)
  with_reducible refine p6.mono ?_
  rintro e w6 ⟨l_v, A_v, c_v, rfl, n_v, v_v, k_v, m_v, hb⟩
  clear p6
  replace m_a := m_a.on hb
  replace m_b := m_b.on hb
  replace m_c := m_c.on hb
  replace m_s := m_s.on hb
  replace m_t := m_t.on hb
  replace m_u := m_u.on hb
  replace m_x := m_x.on hb
  replace m_y := m_y.on hb
  replace bw := bel_then bw hb
  clear hb
  obtain rfl : l_v = l_u := nuq m_v.2.2 n_v m_u.2.2 n_u (by rw [v_v.out, v_u.out, v_x.out, v_y.out, v_s.out, Int.add_mul, Int.mul_comm (val 18446744073709551616 lc)])
  go_wp2_with fail
  have p7 := Sub_val m_s m_b k_s (by omega) (by rw [v_s.out]; have := m_a.nonneg; omega)
  with_reducible refine p7.mono ?_
  rintro e w7 ⟨l_d, A_d, c_d, rfl, n_d, v_d, k_d, m_d, hb⟩
  clear p7
  replace m_a := m_a.on hb
  replace m_b := m_b.on hb
  replace m_c := m_c.on hb
  replace m_s := m_s.on hb
  replace m_t := m_t.on hb
  replace m_u := m_u.on hb
  replace m_x := m_x.on hb
  replace m_y := m_y.on hb
  replace m_v := m_v.on hb
  replace bw := bel_then bw hb
  clear hb
  have hvd : val 18446744073709551616 l_d = val 18446744073709551616 la := by rw [v_d.out, v_s.out]; omega
  have HD := Lib.hid hvd
  clear hvd
  have hd : norm la = l_d := nuq (norm_lim m_a.2.2) (norm_normal la) m_d.2.2 n_d (by rw [norm_val, HD.out])
  have HN := Lib.hid hd
  have ok_d : Okl l_d := ⟨m_d.2.2, n_d, k_d⟩
  clear hd
  go_wp2_with fail
  have p8 := same_lv m_s m_t
  with_reducible refine p8.mono ?_
  rintro e w8 ⟨rfl, hb⟩
  clear p8
  replace m_a := m_a.on hb
  replace m_b := m_b.on hb
  replace m_c := m_c.on hb
  replace m_s := m_s.on hb
  replace m_t := m_t.on hb
  replace m_u := m_u.on hb
  replace m_x := m_x.on hb
  replace m_y := m_y.on hb
  replace m_v := m_v.on hb
  replace m_d := m_d.on hb
  replace bw := bel_then bw hb
  clear hb
  go_wp2_with fail
  have p9 := same_lv m_u m_v
  with_reducible refine p9.mono ?_
  rintro e w9 ⟨rfl, hb⟩
  clear p9
  replace m_a := m_a.on hb
  replace m_b := m_b.on hb
  replace m_c := m_c.on hb
  replace m_s := m_s.on hb
  replace m_t := m_t.on hb
  replace m_u := m_u.on hb
  replace m_x := m_x.on hb
  replace m_y := m_y.on hb
  replace m_v := m_v.on hb
  replace m_d := m_d.on hb
  replace bw := bel_then bw hb
  clear hb
  go_wp2_with fail
  with_reducible refine (num_any 0 _).mono ?_
  rintro e w10 ⟨rfl, rfl⟩
  go_wp2_with fail
  have p11 := refNorm_lv m_a (by omega)
  with_reducible refine p11.mono ?_
  rintro e w11 ⟨A_n, c_n, rfl, m_n, hb⟩
  clear p11
  replace m_a := m_a.on hb
  replace m_b := m_b.on hb
  replace m_c := m_c.on hb
  replace m_s := m_s.on hb
  replace m_t := m_t.on hb
  replace m_u := m_u.on hb
  replace m_x := m_x.on hb
  replace m_y := m_y.on hb
  replace m_v := m_v.on hb
  replace m_d := m_d.on hb
  replace bw := bel_then bw hb
  clear hb
  rw [HN.out] at m_n ⊢
  go_wp2_with fail
  have p12 := same_lv m_d m_n
  with_reducible refine p12.mono ?_
  rintro e w12 ⟨rfl, hb⟩
  clear p12
  replace m_a := m_a.on hb
  replace m_b := m_b.on hb
  replace m_c := m_c.on hb
  replace m_s := m_s.on hb
  replace m_t := m_t.on hb
  replace m_u := m_u.on hb
  replace m_x := m_x.on hb
  replace m_y := m_y.on hb
  replace m_v := m_v.on hb
  replace m_d := m_d.on hb
  replace m_n := m_n.on hb
  replace bw := bel_then bw hb
  clear hb
  go_wp2_with fail
  have p13 := refNorm_lv m_c (by omega)
  with_reducible refine p13.mono ?_
  rintro e w13 ⟨A_o, c_o, rfl, m_o, hb⟩
  clear p13
  replace m_a := m_a.on hb
  replace m_b := m_b.on hb
  replace m_c := m_c.on hb
  replace m_s := m_s.on hb
  replace m_t := m_t.on hb
  replace m_u := m_u.on hb
  replace m_x := m_x.on hb
  replace m_y := m_y.on hb
  replace m_v := m_v.on hb
  replace m_d := m_d.on hb
  replace m_n := m_n.on hb
  replace bw := bel_then bw hb
  clear hb
  clear m_o
  by_cases hz : norm lc = []
  · have z0 : (norm lc).length = 0 := by rw [hz]; rfl
    rw [z0]
    clear hz z0
    go_wp2_with fail
    have p14 := Text_lv m_a (by omega)
    with_reducible refine p14.mono ?_
    rintro e w14 ⟨str, rfl, ht, hb⟩
    clear p14
    replace m_a := m_a.on hb
    replace m_b := m_b.on hb
    replace m_c := m_c.on hb
    replace m_s := m_s.on hb
    replace m_t := m_t.on hb
    replace m_u := m_u.on hb
    replace m_x := m_x.on hb
    replace m_y := m_y.on hb
    replace m_v := m_v.on hb
    replace m_d := m_d.on hb
    replace m_n := m_n.on hb
    replace bw := bel_then bw hb
    clear hb
    go_wp2_with fail
    have p15 := Read_good (w := w14) (s := str) ht.out.1 ok_d rfl (by rw [ht.out.2, HD.out])
    with_reducible refine p15.mono ?_
    rintro e w15 ⟨A_k, c_k, rfl, m_k, hb⟩
    clear p15
    replace m_a := m_a.on hb
    replace m_b := m_b.on hb
    replace m_c := m_c.on hb
    replace m_s := m_s.on hb
    replace m_t := m_t.on hb
    replace m_u := m_u.on hb
    replace m_x := m_x.on hb
    replace m_y := m_y.on hb
    replace m_v := m_v.on hb
    replace m_d := m_d.on hb
    replace m_n := m_n.on hb
    replace bw := bel_then bw hb
    clear hb
    go_wp2_with fail
    with_reducible refine (num_any 0 _).mono ?_
    rintro e w16 ⟨rfl, rfl⟩
    go_wp2_with fail
    with_reducible refine (num_any 0 _).mono ?_
    rintro e w17 ⟨rfl, rfl⟩
    go_wp2_with fail
    have p18 := same_lv m_k m_d
    with_reducible refine p18.mono ?_
    rintro e w18 ⟨rfl, hb⟩
    clear p18
    replace m_a := m_a.on hb
    replace m_b := m_b.on hb
    replace m_c := m_c.on hb
    replace m_s := m_s.on hb
    replace m_t := m_t.on hb
    replace m_u := m_u.on hb
    replace m_x := m_x.on hb
    replace m_y := m_y.on hb
    replace m_v := m_v.on hb
    replace m_d := m_d.on hb
    replace m_n := m_n.on hb
    replace m_k := m_k.on hb
    replace bw := bel_then bw hb
    clear hb
    go_wp2_with fail
    go_ret
    exact ⟨rfl, bw⟩
  · have z0 : 0 < (norm lc).length := List.length_pos_iff.2 hz
    have z1 := normal_pos (norm_lim m_c.2.2) (norm_normal lc) hz
    rw [norm_val] at z1
    have Z1 := Lib.hid z1
    clear hz z1
    go_wp2_with fail
    have p14 := Div_good m_x m_c k_x (by omega) ok_d okl_nil rfl rfl (by rw [v_x.out, HD.out, val_nil, Int.add_zero]) (by rw [val_nil]; exact Z1.out)
    with_reducible refine p14.mono ?_
    rintro e w14 ⟨A_q, c_q, A_r, c_r, rfl, m_q, m_r, hb⟩
    clear p14
    replace m_a := m_a.on hb
    replace m_b := m_b.on hb
    replace m_c := m_c.on hb
    replace m_s := m_s.on hb
    replace m_t := m_t.on hb
    replace m_u := m_u.on hb
    replace m_x := m_x.on hb
    replace m_y := m_y.on hb
    replace m_v := m_v.on hb
    replace m_d := m_d.on hb
    replace m_n := m_n.on hb
    replace bw := bel_then bw hb
    clear hb
    clear m_r
    go_wp2_with fail
    with_reducible refine (num_any 0 _).mono ?_
    rintro e w15 ⟨rfl, rfl⟩
    go_wp2_with fail
    have p16 := same_lv m_q m_d
    with_reducible refine p16.mono ?_
    rintro e w16 ⟨rfl, hb⟩
    clear p16
    replace m_a := m_a.on hb
    replace m_b := m_b.on hb
    replace m_c := m_c.on hb
    replace m_s := m_s.on hb
    replace m_t := m_t.on hb
    replace m_u := m_u.on hb
    replace m_x := m_x.on hb
    replace m_y := m_y.on hb
    replace m_v := m_v.on hb
    replace m_d := m_d.on hb
    replace m_n := m_n.on hb
    replace m_q := m_q.on hb
    replace bw := bel_then bw hb
    clear hb
    go_wp2_with fail
    have p17 := Text_lv m_a (by omega)
    with_reducible refine p17.mono ?_
    rintro e w17 ⟨str, rfl, ht, hb⟩
    clear p17
    replace m_a := m_a.on hb
    replace m_b := m_b.on hb
    replace m_c := m_c.on hb
    replace m_s := m_s.on hb
    replace m_t := m_t.on hb
    replace m_u := m_u.on hb
    replace m_x := m_x.on hb
    replace m_y := m_y.on hb
    replace m_v := m_v.on hb
    replace m_d := m_d.on hb
    replace m_n := m_n.on hb
    replace m_q := m_q.on hb
    replace bw := bel_then bw hb
    clear hb
    go_wp2_with fail
    have p18 := Read_good (w := w17) (s := str) ht.out.1 ok_d rfl (by rw [ht.out.2, HD.out])
    with_reducible refine p18.mono ?_
    rintro e w18 ⟨A_k, c_k, rfl, m_k, hb⟩
    clear p18
    replace m_a := m_a.on hb
    replace m_b := m_b.on hb
    replace m_c := m_c.on hb
    replace m_s := m_s.on hb
    replace m_t := m_t.on hb
    replace m_u := m_u.on hb
    replace m_x := m_x.on hb
    replace m_y := m_y.on hb
    replace m_v := m_v.on hb
    replace m_d := m_d.on hb
    replace m_n := m_n.on hb
    replace m_q := m_q.on hb
    replace bw := bel_then bw hb
    clear hb
    go_wp2_with fail
    with_reducible refine (num_any 0 _).mono ?_
    rintro e w19 ⟨rfl, rfl⟩
    go_wp2_with fail
    with_reducible refine (num_any 0 _).mono ?_
    rintro e w20 ⟨rfl, rfl⟩
    go_wp2_with fail
    have p21 := same_lv m_k m_d
    with_reducible refine p21.mono ?_
    rintro e w21 ⟨rfl, hb⟩
    clear p21
    replace m_a := m_a.on hb
    replace m_b := m_b.on hb
    replace m_c := m_c.on hb
    replace m_s := m_s.on hb
    replace m_t := m_t.on hb
    replace m_u := m_u.on hb
    replace m_x := m_x.on hb
    replace m_y := m_y.on hb
    replace m_v := m_v.on hb
    replace m_d := m_d.on hb
    replace m_n := m_n.on hb
    replace m_q := m_q.on hb
    replace m_k := m_k.on hb
    replace bw := bel_then bw hb
    clear hb
    go_wp2_with fail
    go_ret
    exact ⟨rfl, bw⟩

set_option maxRecDepth 100000 in
set_option maxHeartbeats 4000000 in
theorem rings_law (a0 : Option Addr) (len0 cap0 : Nat) (z0 : List Int) (a1 : Option Addr) (len1 cap1 : Nat) (z1 : List Int) (a2 : Option Addr) (len2 cap2 : Nat) (z2 : List Int) (w : World) (w0 : IsRow .u64 w a0 len0 cap0 z0) (w1 : IsRow .u64 w a1 len1 cap1 z1) (w2 : IsRow .u64 w a2 len2 cap2 z2) (hT : Tab w) :
    Calls Tryd.prog 13 #[.slice a0 len0 cap0, .slice a1 len1 cap1, .slice a2 len2 cap2] w fun e w' => e = .returned (.bool true) ∧ Below w.heap.size w w' := by
  obtain ⟨la, ma⟩ := w0.lv
  obtain ⟨lb, mb⟩ := w1.lv
  obtain ⟨lc, mc⟩ := w2.lv
  by_cases k0 : len0 ≤ 30
  · have i0 : (len0 : Int) ≤ 30 := by omega
    by_cases k1 : len1 ≤ 30
    · have i1 : (len1 : Int) ≤ 30 := by omega
      by_cases k2 : len2 ≤ 30
      · exact rings_in ma mb mc k0 k1 k2 hT
      · have i2 : (30 : Int) < len2 := by omega
        clear k0 k1 k2
        go_enter Tryd.func13, Tryd.ntmps13
        go_wp2_with (go_at_call 16; ((with_reducible refine (known_any _ hT).mono ?_); rintro e w' ⟨rfl, hb⟩))
        go_ret
        exact ⟨rfl, hb⟩
    · have i1 : (30 : Int) < len1 := by omega
      clear k0 k1
      go_enter Tryd.func13, Tryd.ntmps13
      go_wp2_with (go_at_call 16; ((with_reducible refine (known_any _ hT).mono ?_); rintro e w' ⟨rfl, hb⟩))
      go_ret
      exact ⟨rfl, hb⟩
  · have i0 : (30 : Int) < len0 := by omega
    clear k0
    go_enter Tryd.func13, Tryd.ntmps13
    go_wp2_with (go_at_call 16; ((with_reducible refine (known_any _ hT).mono ?_); rintro e w' ⟨rfl, hb⟩))
    go_ret
    exact ⟨rfl, hb⟩
end Go.Proofs.YtigphbjgodfhpaaDoor
