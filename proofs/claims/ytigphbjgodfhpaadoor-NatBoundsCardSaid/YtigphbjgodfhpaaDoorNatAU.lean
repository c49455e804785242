/-
  Layer 2, the laws, part nine: NatSubs, NatMuls, NatDivs, NatRoots (written by wip/tools/gen_mid.py).
-/
import Derived.Test.YtigphbjgodfhpaaDoorNatAT
namespace Go.Proofs.YtigphbjgodfhpaaDoor
open Go.RowKit
set_option linter.unusedVariables false

section
variable {A A2 : Option Addr} {n m c c2 : Nat} {l s : List Int} {w : World} (h : Lv w A n c l) (h2 : Lv w A2 m c2 s)
include h
theorem Sqrt_lv (hn : n ≤ 4096) : Calls Tryd.prog 30 #[.slice A n c] w fun e w' => ∃ q r A1 c1 A3 c3, e = .returned (.tuple #[.slice A1 q.length c1, .slice A3 r.length c3, .int .i64 0]) ∧ Normal q ∧ Normal r ∧
    Hid (IsRoot (val 18446744073709551616 l) (val 18446744073709551616 q) (val 18446744073709551616 r)) ∧ Lv w' A1 q.length c1 q ∧ Lv w' A3 r.length c3 r ∧ Below w.heap.size w w' := by
  have := Sqrt_any A c l w h.2.1 h.2.2 (norm_le h.1 hn)
  rw [h.1] at this
  refine this.mono ?_
  rintro e w' ⟨q', r', A1, c1, A3, c3, rfl, l1, l2, n1, n2, hroot, o1, o2, hb⟩
  exact ⟨q', r', A1, c1, A3, c3, rfl, n1, n2, hroot, ⟨rfl, o1.nums, l1⟩, ⟨rfl, o2.nums, l2⟩, hb⟩
include h2
theorem refSub_lv (hn : n ≤ 10000) (hm : m ≤ 10000) (hle : val 18446744073709551616 s ≤ val 18446744073709551616 l) :
    Calls Tryd.prog 26 #[.slice A n c, .slice A2 m c2] w (NewV (val 18446744073709551616 l - val 18446744073709551616 s) w) := by
  have := refSub_any A c l A2 c2 s w h.2.1 h.2.2 h2.2.1 h2.2.2 (by rw [h.1]; omega) (by rw [h2.1]; omega) hle
  rw [h.1, h2.1] at this
  exact this.mono fun e w' q => q.newV
theorem refMul_lv (hn : n ≤ 10000) (hm : m ≤ 10000) :
    Calls Tryd.prog 28 #[.slice A n c, .slice A2 m c2] w (NewV (val 18446744073709551616 l * val 18446744073709551616 s) w) := by
  have := refMul_any A c l A2 c2 s w h.2.1 h.2.2 h2.2.1 h2.2.2 (by rw [h.1]; omega) (by rw [h2.1]; omega)
  rw [h.1, h2.1] at this
  exact this.mono fun e w' q => q.newV
theorem Div_lv (hn : n ≤ 4096) (hm : m ≤ 4096) (hp : 0 < val 18446744073709551616 s) :
    Calls Tryd.prog 29 #[.slice A n c, .slice A2 m c2] w fun e w' => ∃ q r A1 c1 A3 c3, e = .returned (.tuple #[.slice A1 q.length c1, .slice A3 r.length c3, .int .i64 0]) ∧ Normal q ∧ Normal r ∧
      Hid (val 18446744073709551616 l = val 18446744073709551616 q * val 18446744073709551616 s + val 18446744073709551616 r ∧ val 18446744073709551616 r < val 18446744073709551616 s) ∧ Lv w' A1 q.length c1 q ∧ Lv w' A3 r.length c3 r ∧ Below w.heap.size w w' := by
  have := Div_any A c l A2 c2 s w h.2.1 h.2.2 h2.2.1 h2.2.2 (norm_le h.1 hn) (norm_le h2.1 hm) hp
  rw [h.1, h2.1] at this
  refine this.mono ?_
  rintro e w' ⟨q', r', A1, c1, A3, c3, rfl, l1, l2, n1, n2, he, o1, o2, hb⟩
  exact ⟨q', r', A1, c1, A3, c3, rfl, n1, n2, he, ⟨rfl, o1.nums, l1⟩, ⟨rfl, o2.nums, l2⟩, hb⟩
theorem Div_zero_lv (hn : n ≤ 4096) (hm : norm s = []) :
    Calls Tryd.prog 29 #[.slice A n c, .slice A2 m c2] w fun e w' => e = .returned (.tuple #[.slice none 0 0, .slice none 0 0, .int .i64 2]) ∧ w = w' := by
  have := Div_zero A c l A2 c2 s w h.2.1 h.2.2 h2.2.1 h2.2.2 (norm_le h.1 hn) hm
  rw [h.1, h2.1] at this
  exact this
end
theorem len_val {l : List Int} {k : Nat} {v : Int} (h : Lim 18446744073709551616 l) (hn : Normal l) (hv : val 18446744073709551616 l = v) (hk : v < 18446744073709551616 ^ k) : l.length ≤ k :=
  length_le_of_lt (b := 18446744073709551616) (by omega) h hn (by rw [hv]; exact hk)
theorem norm_self {l : List Int} (h : Lim 18446744073709551616 l) (hn : Normal l) : norm l = l := norm_of_normal (b := 18446744073709551616) (by omega) h hn
theorem lim_one : Lim 18446744073709551616 [1] := by intro x hx; simp at hx; omega
theorem div_facts {a q b r P : Int} (q0 : 0 ≤ q) (b0 : 0 < b) (r0 : 0 ≤ r) (h : a = q * b + r) (ha : a < P) : q < P ∧ r < P ∧ q * b < P := by
  have h1 : 0 ≤ q * (b - 1) := Int.mul_nonneg q0 (by omega)
  have h2 : q * (b - 1) = q * b - q := by grind
  exact ⟨by omega, by omega, by omega⟩
theorem root_facts {a s r P : Int} (h : IsRoot a s r) (ha : a < P) (h1 : 1 < P) : s < P ∧ r < P ∧ s * s < P ∧ s + 1 < 2 * P ∧ (s + 1) * (s + 1) < 4 * P ∧ a < (s + 1) * (s + 1) := by
  obtain ⟨e, s0, r0, hr⟩ := h
  have h2 : (s + 1) * (s + 1) = s * s + 2 * s + 1 := by grind
  have h3 : 0 ≤ s * (s - 1) ∨ s = 0 := by
    rcases (show s = 0 ∨ 1 ≤ s by omega) with h | h
    · exact .inr h
    · exact .inl (Int.mul_nonneg s0 (by omega))
  have h4 : s * (s - 1) = s * s - s := by grind
  rw [h2]
  rcases h3 with h3 | h3
  · refine ⟨by omega, by omega, by omega, by omega, by omega, by omega⟩
  · subst h3
    simp at *
    omega

set_option maxRecDepth 100000 in
set_option maxHeartbeats 4000000 in
theorem natSubs_lv {A_a : Option Addr} {n_a c_a : Nat} {l_a : List Int} {A_b : Option Addr} {n_b c_b : Nat} {l_b : List Int}  {w : World} (m_a : Lv w A_a n_a c_a l_a) (m_b : Lv w A_b n_b c_b l_b) (hT : Tab w) :
    Calls Tryd.prog 5 #[.slice A_a n_a c_a, .slice A_b n_b c_b] w fun e w' => e = .returned (.bool true) ∧ Below w.heap.size w w' := by
  have q1 := long_lv m_a
  have q2 := long_lv m_b
  by_cases k1 : 60 < n_a
  · have k1' : decide (60 < n_a) = true := by simp [k1]
    rw [k1'] at q1
    clear k1
    go_enter Tryd.func5, Tryd.ntmps5
    go_wp2_with (first | (go_at_call 15; ((with_reducible refine (q1 _).mono ?_); rintro e w1 ⟨rfl, rfl⟩)) | (go_at_call 16; ((with_reducible refine (known_any _ hT).mono ?_); rintro e w1 ⟨rfl, hb⟩)))
    go_ret
    exact ⟨rfl, hb⟩
  have k1' : decide (60 < n_a) = false := by simp [k1]
  rw [k1'] at q1
  have h_a : n_a ≤ 60 := by omega
  clear k1 k1'
  by_cases k2 : 60 < n_b
  · have k2' : decide (60 < n_b) = true := by simp [k2]
    rw [k2'] at q2
    clear k2
    go_enter Tryd.func5, Tryd.ntmps5
    go_wp2_with (first | (go_at_call 15; ((with_reducible refine (q1 _).mono ?_); rintro e w1 ⟨rfl, rfl⟩)) | (go_at_call 15; ((with_reducible refine (q2 _).mono ?_); rintro e w1 ⟨rfl, rfl⟩)) | (go_at_call 16; ((with_reducible refine (known_any _ hT).mono ?_); rintro e w1 ⟨rfl, hb⟩)))
    go_ret
    exact ⟨rfl, hb⟩
  have k2' : decide (60 < n_b) = false := by simp [k2]
  rw [k2'] at q2
  have h_b : n_b ≤ 60 := by omega
  clear k2 k2'
  have bw : Below w.heap.size w w := Below.refl _ w
  have BD := Lib.hid (bd60 m_a.nonneg m_b.nonneg (m_a.less h_a) (m_b.less h_b))
  by_cases hlt : val 18446744073709551616 l_a < val 18446744073709551616 l_b
  · have hsg := sg_lt hlt
    have HSG := Lib.hid hsg
    clear hsg
    have HLT := Lib.hid hlt
    clear hlt
    go_enter Tryd.func5, Tryd.ntmps5
    go_wp2_with (first | (go_at_call 15; ((with_reducible refine (q1 _).mono ?_); rintro e w1 ⟨rfl, rfl⟩)) | (go_at_call 15; ((with_reducible refine (q2 _).mono ?_); rintro e w1 ⟨rfl, rfl⟩)))
    have p1 := Sub_bad m_a m_b (by omega) (by omega) HLT.out
    with_reducible refine p1.mono ?_
    rintro e w1 ⟨rfl, hb⟩
    clear p1
    replace m_a := m_a.on hb
    replace m_b := m_b.on hb
    replace hT := hT.on hb
    replace bw := bel_then bw hb
    clear hb
    go_wp2_with fail
    have p2 := refCmp_any m_a m_b (by omega) (by omega)
    rw [HSG.out] at p2
    with_reducible refine p2.mono ?_
    rintro e w2 ⟨rfl, hb⟩
    clear p2
    replace m_a := m_a.on hb
    replace m_b := m_b.on hb
    replace hT := hT.on hb
    replace bw := bel_then bw hb
    clear hb
    go_wp2_with fail
    with_reducible refine (num_any 2 _).mono ?_
    rintro e w3 ⟨rfl, rfl⟩
    go_wp2_with fail
    with_reducible refine (known_any _ hT).mono ?_
    rintro e w4 ⟨rfl, hb⟩
    replace bw := bel_then bw hb
    go_wp2_with fail
    go_ret
    exact ⟨rfl, bw⟩
  · obtain ⟨sv, hsg⟩ : ∃ sv, sg (val 18446744073709551616 l_a) (val 18446744073709551616 l_b) = sv := ⟨_, rfl⟩
    have sv0 : 0 ≤ sv := by rw [← hsg]; unfold sg; rw [if_neg hlt]; split <;> omega
    have hle : val 18446744073709551616 l_b ≤ val 18446744073709551616 l_a := by omega
    have HLE := Lib.hid hle
    have HSG := Lib.hid hsg
    clear hsg
    clear hlt hle
    go_enter Tryd.func5, Tryd.ntmps5
    go_wp2_with (first | (go_at_call 15; ((with_reducible refine (q1 _).mono ?_); rintro e w1 ⟨rfl, rfl⟩)) | (go_at_call 15; ((with_reducible refine (q2 _).mono ?_); rintro e w1 ⟨rfl, rfl⟩)))
    have p1 := Sub_val m_a m_b (by omega) (by omega) HLE.out
    with_reducible refine p1.mono ?_
    rintro e w1 ⟨l_s, A_s, c_s, rfl, n_s, v_s, k_s, m_s, hb⟩
    clear p1
    replace m_a := m_a.on hb
    replace m_b := m_b.on hb
    replace hT := hT.on hb
    replace bw := bel_then bw hb
    clear hb
    go_wp2_with fail
    have p2 := refCmp_any m_a m_b (by omega) (by omega)
    rw [HSG.out] at p2
    with_reducible refine p2.mono ?_
    rintro e w2 ⟨rfl, hb⟩
    clear p2
    replace m_a := m_a.on hb
    replace m_b := m_b.on hb
    replace m_s := m_s.on hb
    replace hT := hT.on hb
    replace bw := bel_then bw hb
    clear hb
    go_wp2_with fail
    have p3 := refSub_lv m_a m_b (by omega) (by omega) HLE.out
    with_reducible refine p3.mono ?_
    rintro e w3 ⟨l_t, A_t, c_t, rfl, n_t, v_t, m_t, hb⟩
    clear p3
    replace m_a := m_a.on hb
    replace m_b := m_b.on hb
    replace m_s := m_s.on hb
    replace hT := hT.on hb
    replace bw := bel_then bw hb
    clear hb
    obtain rfl : l_t = l_s := nuq m_t.2.2 n_t m_s.2.2 n_s (by rw [v_t.out, v_s.out])
    go_wp2_with fail
    have p4 := same_lv m_s m_t
    with_reducible refine p4.mono ?_
    rintro e w4 ⟨rfl, hb⟩
    clear p4
    replace m_a := m_a.on hb
    replace m_b := m_b.on hb
    replace m_s := m_s.on hb
    replace m_t := m_t.on hb
    replace hT := hT.on hb
    replace bw := bel_then bw hb
    clear hb
    go_wp2_with fail
    with_reducible refine (num_any 0 _).mono ?_
    rintro e w5 ⟨rfl, rfl⟩
    go_wp2_with fail
    with_reducible refine (known_any _ hT).mono ?_
    rintro e w6 ⟨rfl, hb⟩
    replace bw := bel_then bw hb
    go_wp2_with fail
    go_ret
    exact ⟨rfl, bw⟩

set_option maxRecDepth 100000 in
set_option maxHeartbeats 4000000 in
theorem natMuls_lv {A_a : Option Addr} {n_a c_a : Nat} {l_a : List Int} {A_b : Option Addr} {n_b c_b : Nat} {l_b : List Int}  {w : World} (m_a : Lv w A_a n_a c_a l_a) (m_b : Lv w A_b n_b c_b l_b) (hT : Tab w) :
    Calls Tryd.prog 6 #[.slice A_a n_a c_a, .slice A_b n_b c_b] w fun e w' => e = .returned (.bool true) ∧ Below w.heap.size w w' := by
  have q1 := long_lv m_a
  have q2 := long_lv m_b
  by_cases k1 : 60 < n_a
  · have k1' : decide (60 < n_a) = true := by simp [k1]
    rw [k1'] at q1
    clear k1
    go_enter Tryd.func6, Tryd.ntmps6
    go_wp2_with (first | (go_at_call 15; ((with_reducible refine (q1 _).mono ?_); rintro e w1 ⟨rfl, rfl⟩)) | (go_at_call 16; ((with_reducible refine (known_any _ hT).mono ?_); rintro e w1 ⟨rfl, hb⟩)))
    go_ret
    exact ⟨rfl, hb⟩
  have k1' : decide (60 < n_a) = false := by simp [k1]
  rw [k1'] at q1
  have h_a : n_a ≤ 60 := by omega
  clear k1 k1'
  by_cases k2 : 60 < n_b
  · have k2' : decide (60 < n_b) = true := by simp [k2]
    rw [k2'] at q2
    clear k2
    go_enter Tryd.func6, Tryd.ntmps6
    go_wp2_with (first | (go_at_call 15; ((with_reducible refine (q1 _).mono ?_); rintro e w1 ⟨rfl, rfl⟩)) | (go_at_call 15; ((with_reducible refine (q2 _).mono ?_); rintro e w1 ⟨rfl, rfl⟩)) | (go_at_call 16; ((with_reducible refine (known_any _ hT).mono ?_); rintro e w1 ⟨rfl, hb⟩)))
    go_ret
    exact ⟨rfl, hb⟩
  have k2' : decide (60 < n_b) = false := by simp [k2]
  rw [k2'] at q2
  have h_b : n_b ≤ 60 := by omega
  clear k2 k2'
  have bw : Below w.heap.size w w := Below.refl _ w
  have BD := Lib.hid (bd60 m_a.nonneg m_b.nonneg (m_a.less h_a) (m_b.less h_b))
  go_enter Tryd.func6, Tryd.ntmps6
  go_wp2_with (first | (go_at_call 15; ((with_reducible refine (q1 _).mono ?_); rintro e w1 ⟨rfl, rfl⟩)) | (go_at_call 15; ((with_reducible refine (q2 _).mono ?_); rintro e w1 ⟨rfl, rfl⟩)))
  have p1 := Mul_val m_a m_b (by omega) (by omega) BD.out.2
  with_reducible refine p1.mono ?_
  rintro e w1 ⟨l_s, A_s, c_s, rfl, n_s, v_s, k_s, m_s, hb⟩
  clear p1
  replace m_a := m_a.on hb
  replace m_b := m_b.on hb
  replace hT := hT.on hb
  replace bw := bel_then bw hb
  clear hb
  go_wp2_with fail
  have p2 := refMul_lv m_a m_b (by omega) (by omega)
  with_reducible refine p2.mono ?_
  rintro e w2 ⟨l_t, A_t, c_t, rfl, n_t, v_t, m_t, hb⟩
  clear p2
  replace m_a := m_a.on hb
  replace m_b := m_b.on hb
  replace m_s := m_s.on hb
  replace hT := hT.on hb
  replace bw := bel_then bw hb
  clear hb
  obtain rfl : l_t = l_s := nuq m_t.2.2 n_t m_s.2.2 n_s (by rw [v_t.out, v_s.out])
  go_wp2_with fail
  have p3 := same_lv m_s m_t
  with_reducible refine p3.mono ?_
  rintro e w3 ⟨rfl, hb⟩
  clear p3
  replace m_a := m_a.on hb
  replace m_b := m_b.on hb
  replace m_s := m_s.on hb
  replace m_t := m_t.on hb
  replace hT := hT.on hb
  replace bw := bel_then bw hb
  clear hb
  go_wp2_with fail
  with_reducible refine (num_any 0 _).mono ?_
  rintro e w4 ⟨rfl, rfl⟩
  go_wp2_with fail
  with_reducible refine (known_any _ hT).mono ?_
  rintro e w5 ⟨rfl, hb⟩
  replace bw := bel_then bw hb
  go_wp2_with fail
  go_ret
  exact ⟨rfl, bw⟩

set_option maxRecDepth 100000 in
set_option maxHeartbeats 8000000 in
theorem natDivs_lv {A_a : Option Addr} {n_a c_a : Nat} {l_a : List Int} {A_b : Option Addr} {n_b c_b : Nat} {l_b : List Int}  {w : World} (m_a : Lv w A_a n_a c_a l_a) (m_b : Lv w A_b n_b c_b l_b) (hT : Tab w) :
    Calls Tryd.prog 7 #[.slice A_a n_a c_a, .slice A_b n_b c_b] w fun e w' => e = .returned (.bool true) ∧ Below w.heap.size w w' := by
  have q1 := long_lv m_a
  have q2 := long_lv m_b
  by_cases k1 : 60 < n_a
  · have k1' : decide (60 < n_a) = true := by simp [k1]
    rw [k1'] at q1
    clear k1
    go_enter Tryd.func7, Tryd.ntmps7
    go_wp2_with (first | (go_at_call 15; ((with_reducible refine (q1 _).mono ?_); rintro e w1 ⟨rfl, rfl⟩)) | (go_at_call 16; ((with_reducible refine (known_any _ hT).mono ?_); rintro e w1 ⟨rfl, hb⟩)))
    go_ret
    exact ⟨rfl, hb⟩
  have k1' : decide (60 < n_a) = false := by simp [k1]
  rw [k1'] at q1
  have h_a : n_a ≤ 60 := by omega
  clear k1 k1'
  by_cases k2 : 60 < n_b
  · have k2' : decide (60 < n_b) = true := by simp [k2]
    rw [k2'] at q2
    clear k2
    go_enter Tryd.func7, Tryd.ntmps7
    go_wp2_with (first | (go_at_call 15; ((with_reducible refine (q1 _).mono ?_); rintro e w1 ⟨rfl, rfl⟩)) | (go_at_call 15; ((with_reducible refine (q2 _).mono ?_); rintro e w1 ⟨rfl, rfl⟩)) | (go_at_call 16; ((with_reducible refine (known_any _ hT).mono ?_); rintro e w1 ⟨rfl, hb⟩)))
    go_ret
    exact ⟨rfl, hb⟩
  have k2' : decide (60 < n_b) = false := by simp [k2]
  rw [k2'] at q2
  have h_b : n_b ≤ 60 := by omega
  clear k2 k2'
  have bw : Below w.heap.size w w := Below.refl _ w
  have hA := Lib.hid (m_a.less h_a)
  have hB := Lib.hid (m_b.less h_b)
  by_cases hz : norm l_b = []
  · have HZ := Lib.hid hz
    clear hz
    go_enter Tryd.func7, Tryd.ntmps7
    go_wp2_with (first | (go_at_call 15; ((with_reducible refine (q1 _).mono ?_); rintro e w1 ⟨rfl, rfl⟩)) | (go_at_call 15; ((with_reducible refine (q2 _).mono ?_); rintro e w1 ⟨rfl, rfl⟩)))
    have p1 := Div_zero_lv m_a m_b (by omega) HZ.out
    with_reducible refine p1.mono ?_
    rintro e w1 ⟨rfl, rfl⟩
    clear p1
    go_wp2_with fail
    have p2 := refNorm_lv m_b (by omega)
    rw [HZ.out] at p2
    with_reducible refine p2.mono ?_
    rintro e w2 ⟨A_o, c_o, rfl, m_o, hb⟩
    clear p2
    replace m_a := m_a.on hb
    replace m_b := m_b.on hb
    replace hT := hT.on hb
    replace bw := bel_then bw hb
    clear hb
    clear m_o
    go_wp2_with fail
    with_reducible refine (num_any 2 _).mono ?_
    rintro e w3 ⟨rfl, rfl⟩
    go_wp2_with fail
    with_reducible refine (known_any _ hT).mono ?_
    rintro e w4 ⟨rfl, hb⟩
    replace bw := bel_then bw hb
    go_wp2_with fail
    go_ret
    exact ⟨rfl, bw⟩
  · have hp := normal_pos (norm_lim m_b.2.2) (norm_normal l_b) hz
    rw [norm_val] at hp
    have z0 : 0 < (norm l_b).length := List.length_pos_iff.2 hz
    have HP := Lib.hid hp
    clear hz hp
    go_enter Tryd.func7, Tryd.ntmps7
    go_wp2_with (first | (go_at_call 15; ((with_reducible refine (q1 _).mono ?_); rintro e w1 ⟨rfl, rfl⟩)) | (go_at_call 15; ((with_reducible refine (q2 _).mono ?_); rintro e w1 ⟨rfl, rfl⟩)))
    have p1 := Div_lv m_a m_b (by omega) (by omega) HP.out
    with_reducible refine p1.mono ?_
    rintro e w1 ⟨l_q, l_r, A_q, c_q, A_r, c_r, rfl, n_q, n_r, he, m_q, m_r, hb⟩
    clear p1
    replace m_a := m_a.on hb
    replace m_b := m_b.on hb
    replace hT := hT.on hb
    replace bw := bel_then bw hb
    clear hb
    have hf := div_facts m_q.nonneg HP.out m_r.nonneg he.out.1 hA.out
    have k_q : l_q.length ≤ 60 := len_val m_q.2.2 n_q rfl hf.1
    have k_r : l_r.length ≤ 60 := len_val m_r.2.2 n_r rfl hf.2.1
    have HF := Lib.hid hf.2.2
    clear hf
    go_wp2_with fail
    have p2 := refNorm_lv m_b (by omega)
    with_reducible refine p2.mono ?_
    rintro e w2 ⟨A_o, c_o, rfl, m_o, hb⟩
    clear p2
    replace m_a := m_a.on hb
    replace m_b := m_b.on hb
    replace m_q := m_q.on hb
    replace m_r := m_r.on hb
    replace hT := hT.on hb
    replace bw := bel_then bw hb
    clear hb
    clear m_o
    go_wp2_with fail
    with_reducible refine (num_any 0 _).mono ?_
    rintro e w3 ⟨rfl, rfl⟩
    go_wp2_with fail
    have p4 := refNorm_lv m_q (by omega)
    rw [norm_self m_q.2.2 n_q] at p4
    with_reducible refine p4.mono ?_
    rintro e w4 ⟨A_u, c_u, rfl, m_u, hb⟩
    clear p4
    replace m_a := m_a.on hb
    replace m_b := m_b.on hb
    replace m_q := m_q.on hb
    replace m_r := m_r.on hb
    replace hT := hT.on hb
    replace bw := bel_then bw hb
    clear hb
    go_wp2_with fail
    have p5 := same_lv m_q m_u
    with_reducible refine p5.mono ?_
    rintro e w5 ⟨rfl, hb⟩
    clear p5
    replace m_a := m_a.on hb
    replace m_b := m_b.on hb
    replace m_q := m_q.on hb
    replace m_r := m_r.on hb
    replace m_u := m_u.on hb
    replace hT := hT.on hb
    replace bw := bel_then bw hb
    clear hb
    clear m_u
    go_wp2_with fail
    have p6 := refNorm_lv m_r (by omega)
    rw [norm_self m_r.2.2 n_r] at p6
    with_reducible refine p6.mono ?_
    rintro e w6 ⟨A_v, c_v, rfl, m_v, hb⟩
    clear p6
    replace m_a := m_a.on hb
    replace m_b := m_b.on hb
    replace m_q := m_q.on hb
    replace m_r := m_r.on hb
    replace hT := hT.on hb
    replace bw := bel_then bw hb
    clear hb
    go_wp2_with fail
    have p7 := same_lv m_r m_v
    with_reducible refine p7.mono ?_
    rintro e w7 ⟨rfl, hb⟩
    clear p7
    replace m_a := m_a.on hb
    replace m_b := m_b.on hb
    replace m_q := m_q.on hb
    replace m_r := m_r.on hb
    replace m_v := m_v.on hb
    replace hT := hT.on hb
    replace bw := bel_then bw hb
    clear hb
    clear m_v
    go_wp2_with fail
    have p8 := refCmp_any m_r m_b (by omega) (by omega)
    rw [sg_lt he.out.2] at p8
    with_reducible refine p8.mono ?_
    rintro e w8 ⟨rfl, hb⟩
    clear p8
    replace m_a := m_a.on hb
    replace m_b := m_b.on hb
    replace m_q := m_q.on hb
    replace m_r := m_r.on hb
    replace hT := hT.on hb
    replace bw := bel_then bw hb
    clear hb
    go_wp2_with fail
    have p9 := refMul_lv m_q m_b (by omega) (by omega)
    with_reducible refine p9.mono ?_
    rintro e w9 ⟨l_x, A_x, c_x, rfl, n_x, v_x, m_x, hb⟩
    clear p9
    replace m_a := m_a.on hb
    replace m_b := m_b.on hb
    replace m_q := m_q.on hb
    replace m_r := m_r.on hb
    replace hT := hT.on hb
    replace bw := bel_then bw hb
    clear hb
    have k_x : l_x.length ≤ 60 := len_val m_x.2.2 n_x v_x.out HF.out
    go_wp2_with fail
    have p10 := refAdd_lv m_x m_r (by omega) (by omega)
    with_reducible refine p10.mono ?_
    rintro e w10 ⟨l_y, A_y, c_y, rfl, n_y, v_y, m_y, hb⟩
    clear p10
    replace m_a := m_a.on hb
    replace m_b := m_b.on hb
    replace m_q := m_q.on hb
    replace m_r := m_r.on hb
    replace m_x := m_x.on hb
    replace hT := hT.on hb
    replace bw := bel_then bw hb
    clear hb
    have k_y : l_y.length ≤ 60 := len_val m_y.2.2 n_y (by rw [v_y.out, v_x.out, ← he.out.1]) hA.out
    have hs : sg (val 18446744073709551616 l_y) (val 18446744073709551616 l_a) = 0 := by rw [v_y.out, v_x.out, ← he.out.1, sg_eq]
    have HS := Lib.hid hs
    clear hs
    go_wp2_with fail
    have p11 := refCmp_any m_y m_a (by omega) (by omega)
    rw [HS.out] at p11
    with_reducible refine p11.mono ?_
    rintro e w11 ⟨rfl, hb⟩
    clear p11
    replace m_a := m_a.on hb
    replace m_b := m_b.on hb
    replace m_q := m_q.on hb
    replace m_r := m_r.on hb
    replace m_x := m_x.on hb
    replace m_y := m_y.on hb
    replace hT := hT.on hb
    replace bw := bel_then bw hb
    clear hb
    go_wp2_with fail
    with_reducible refine (known_any _ hT).mono ?_
    rintro e w12 ⟨rfl, hb⟩
    replace bw := bel_then bw hb
    go_wp2_with fail
    go_ret
    exact ⟨rfl, bw⟩

set_option maxRecDepth 100000 in
set_option maxHeartbeats 8000000 in
theorem natRoots_lv {A_a : Option Addr} {n_a c_a : Nat} {l_a : List Int}  {w : World} (m_a : Lv w A_a n_a c_a l_a) (hT : Tab w) :
    Calls Tryd.prog 8 #[.slice A_a n_a c_a] w fun e w' => e = .returned (.bool true) ∧ Below w.heap.size w w' := by
  have q1 := long_lv m_a
  by_cases k1 : 60 < n_a
  · have k1' : decide (60 < n_a) = true := by simp [k1]
    rw [k1'] at q1
    clear k1
    go_enter Tryd.func8, Tryd.ntmps8
    go_wp2_with (first | (go_at_call 15; ((with_reducible refine (q1 _).mono ?_); rintro e w1 ⟨rfl, rfl⟩)) | (go_at_call 16; ((with_reducible refine (known_any _ hT).mono ?_); rintro e w1 ⟨rfl, hb⟩)))
    go_ret
    exact ⟨rfl, hb⟩
  have k1' : decide (60 < n_a) = false := by simp [k1]
  rw [k1'] at q1
  have h_a : n_a ≤ 60 := by omega
  clear k1 k1'
  have bw : Below w.heap.size w w := Below.refl _ w
  have hA := Lib.hid (m_a.less h_a)
  go_enter Tryd.func8, Tryd.ntmps8
  go_wp2_with (first | (go_at_call 15; ((with_reducible refine (q1 _).mono ?_); rintro e w1 ⟨rfl, rfl⟩)))
  have p1 := Sqrt_lv m_a (by omega)
  with_reducible refine p1.mono ?_
  rintro e w1 ⟨l_s, l_r, A_s, c_s, A_r, c_r, rfl, n_s, n_r, he, m_s, m_r, hb⟩
  clear p1
  replace m_a := m_a.on hb
  replace hT := hT.on hb
  replace bw := bel_then bw hb
  clear hb
  have hf := root_facts he.out hA.out (by decide)
  have k_s : l_s.length ≤ 60 := len_val m_s.2.2 n_s rfl hf.1
  have k_r : l_r.length ≤ 60 := len_val m_r.2.2 n_r rfl hf.2.1
  have HF := Lib.hid hf.2.2
  clear hf
  go_wp2_with fail
  have m_u := Lv.row w1 [1] 1 (w1.heap.size) (by simp) rfl (by omega) (lim_one) (.cells #[.int .u64 1] 39) rfl
  replace m_a := m_a.alloc (.cells #[.int .u64 1] 39)
  replace m_s := m_s.alloc (.cells #[.int .u64 1] 39)
  replace m_r := m_r.alloc (.cells #[.int .u64 1] 39)
  replace hT := hT.al (.cells #[.int .u64 1] 39)
  replace bw := bel_al bw (.cells #[.int .u64 1] 39)
  have p2 := refAdd_lv m_s m_u (by omega) (by omega)
  with_reducible refine p2.mono ?_
  rintro e w2 ⟨l_n, A_n, c_n, rfl, n_n, v_n, m_n, hb⟩
  clear p2
  replace m_a := m_a.on hb
  replace m_s := m_s.on hb
  replace m_r := m_r.on hb
  replace m_u := m_u.on hb
  replace hT := hT.on hb
  replace bw := bel_then bw hb
  clear hb
  clear m_u
  have e1 : val 18446744073709551616 [1] = 1 := by decide
  rw [e1] at v_n
  have k_n : l_n.length ≤ 61 := len_val m_n.2.2 n_n v_n.out (Int.lt_of_lt_of_le HF.out.2.1 (by decide))
  go_wp2_with fail
  with_reducible refine (num_any 0 _).mono ?_
  rintro e w3 ⟨rfl, rfl⟩
  go_wp2_with fail
  have p4 := refNorm_lv m_s (by omega)
  rw [norm_self m_s.2.2 n_s] at p4
  with_reducible refine p4.mono ?_
  rintro e w4 ⟨A_x, c_x, rfl, m_x, hb⟩
  clear p4
  replace m_a := m_a.on hb
  replace m_s := m_s.on hb
  replace m_r := m_r.on hb
  replace m_n := m_n.on hb
  replace hT := hT.on hb
  replace bw := bel_then bw hb
  clear hb
  go_wp2_with fail
  have p5 := same_lv m_s m_x
  with_reducible refine p5.mono ?_
  rintro e w5 ⟨rfl, hb⟩
  clear p5
  replace m_a := m_a.on hb
  replace m_s := m_s.on hb
  replace m_r := m_r.on hb
  replace m_n := m_n.on hb
  replace m_x := m_x.on hb
  replace hT := hT.on hb
  replace bw := bel_then bw hb
  clear hb
  clear m_x
  go_wp2_with fail
  have p6 := refNorm_lv m_r (by omega)
  rw [norm_self m_r.2.2 n_r] at p6
  with_reducible refine p6.mono ?_
  rintro e w6 ⟨A_y, c_y, rfl, m_y, hb⟩
  clear p6
  replace m_a := m_a.on hb
  replace m_s := m_s.on hb
  replace m_r := m_r.on hb
  replace m_n := m_n.on hb
  replace hT := hT.on hb
  replace bw := bel_then bw hb
  clear hb
  go_wp2_with fail
  have p7 := same_lv m_r m_y
  with_reducible refine p7.mono ?_
  rintro e w7 ⟨rfl, hb⟩
  clear p7
  replace m_a := m_a.on hb
  replace m_s := m_s.on hb
  replace m_r := m_r.on hb
  replace m_n := m_n.on hb
  replace m_y := m_y.on hb
  replace hT := hT.on hb
  replace bw := bel_then bw hb
  clear hb
  clear m_y
  go_wp2_with fail
  have p8 := refMul_lv m_s m_s (by omega) (by omega)
  with_reducible refine p8.mono ?_
  rintro e w8 ⟨l_x, A_x, c_x, rfl, n_x, v_x, m_x, hb⟩
  clear p8
  replace m_a := m_a.on hb
  replace m_s := m_s.on hb
  replace m_r := m_r.on hb
  replace m_n := m_n.on hb
  replace hT := hT.on hb
  replace bw := bel_then bw hb
  clear hb
  have k_x : l_x.length ≤ 60 := len_val m_x.2.2 n_x v_x.out HF.out.1
  go_wp2_with fail
  have p9 := refAdd_lv m_x m_r (by omega) (by omega)
  with_reducible refine p9.mono ?_
  rintro e w9 ⟨l_y, A_y, c_y, rfl, n_y, v_y, m_y, hb⟩
  clear p9
  replace m_a := m_a.on hb
  replace m_s := m_s.on hb
  replace m_r := m_r.on hb
  replace m_n := m_n.on hb
  replace m_x := m_x.on hb
  replace hT := hT.on hb
  replace bw := bel_then bw hb
  clear hb
  have k_y : l_y.length ≤ 60 := len_val m_y.2.2 n_y (by rw [v_y.out, v_x.out, ← he.out.1]) hA.out
  have hs : sg (val 18446744073709551616 l_y) (val 18446744073709551616 l_a) = 0 := by rw [v_y.out, v_x.out, ← he.out.1, sg_eq]
  have HS := Lib.hid hs
  clear hs
  go_wp2_with fail
  have p10 := refCmp_any m_y m_a (by omega) (by omega)
  rw [HS.out] at p10
  with_reducible refine p10.mono ?_
  rintro e w10 ⟨rfl, hb⟩
  clear p10
  replace m_a := m_a.on hb
  replace m_s := m_s.on hb
  replace m_r := m_r.on hb
  replace m_n := m_n.on hb
  replace m_x := m_x.on hb
  replace m_y := m_y.on hb
  replace hT := hT.on hb
  replace bw := bel_then bw hb
  clear hb
  go_wp2_with fail
  have p11 := refMul_lv m_n m_n (by omega) (by omega)
  with_reducible refine p11.mono ?_
  rintro e w11 ⟨l_z, A_z, c_z, rfl, n_z, v_z, m_z, hb⟩
  clear p11
  replace m_a := m_a.on hb
  replace m_s := m_s.on hb
  replace m_r := m_r.on hb
  replace m_n := m_n.on hb
  replace m_x := m_x.on hb
  replace m_y := m_y.on hb
  replace hT := hT.on hb
  replace bw := bel_then bw hb
  clear hb
  have k_z : l_z.length ≤ 61 := len_val m_z.2.2 n_z (by rw [v_z.out, v_n.out]) (Int.lt_of_lt_of_le HF.out.2.2.1 (by decide))
  have hs : sg (val 18446744073709551616 l_z) (val 18446744073709551616 l_a) = 1 := sg_gt (by rw [v_z.out, v_n.out]; exact HF.out.2.2.2)
  have HS2 := Lib.hid hs
  clear hs
  go_wp2_with fail
  have p12 := refCmp_any m_z m_a (by omega) (by omega)
  rw [HS2.out] at p12
  with_reducible refine p12.mono ?_
  rintro e w12 ⟨rfl, hb⟩
  clear p12
  replace m_a := m_a.on hb
  replace m_s := m_s.on hb
  replace m_r := m_r.on hb
  replace m_n := m_n.on hb
  replace m_x := m_x.on hb
  replace m_y := m_y.on hb
  replace m_z := m_z.on hb
  replace hT := hT.on hb
  replace bw := bel_then bw hb
  clear hb
  go_wp2_with fail
  with_reducible refine (known_any _ hT).mono ?_
  rintro e w13 ⟨rfl, hb⟩
  replace bw := bel_then bw hb
  go_wp2_with fail
  go_ret
  exact ⟨rfl, bw⟩

theorem subs_law (a0 : Option Addr) (len0 cap0 : Nat) (z0 : List Int) (a1 : Option Addr) (len1 cap1 : Nat) (z1 : List Int) (w : World) (w0 : IsRow .u64 w a0 len0 cap0 z0) (w1 : IsRow .u64 w a1 len1 cap1 z1) (hT : Tab w) :
    Calls Tryd.prog 5 #[.slice a0 len0 cap0, .slice a1 len1 cap1] w fun e w' => e = .returned (.bool true) ∧ Below w.heap.size w w' := by
  obtain ⟨l, h⟩ := w0.lv
  obtain ⟨s, h2⟩ := w1.lv
  exact natSubs_lv h h2 hT
theorem muls_law (a0 : Option Addr) (len0 cap0 : Nat) (z0 : List Int) (a1 : Option Addr) (len1 cap1 : Nat) (z1 : List Int) (w : World) (w0 : IsRow .u64 w a0 len0 cap0 z0) (w1 : IsRow .u64 w a1 len1 cap1 z1) (hT : Tab w) :
    Calls Tryd.prog 6 #[.slice a0 len0 cap0, .slice a1 len1 cap1] w fun e w' => e = .returned (.bool true) ∧ Below w.heap.size w w' := by
  obtain ⟨l, h⟩ := w0.lv
  obtain ⟨s, h2⟩ := w1.lv
  exact natMuls_lv h h2 hT
theorem divs_law (a0 : Option Addr) (len0 cap0 : Nat) (z0 : List Int) (a1 : Option Addr) (len1 cap1 : Nat) (z1 : List Int) (w : World) (w0 : IsRow .u64 w a0 len0 cap0 z0) (w1 : IsRow .u64 w a1 len1 cap1 z1) (hT : Tab w) :
    Calls Tryd.prog 7 #[.slice a0 len0 cap0, .slice a1 len1 cap1] w fun e w' => e = .returned (.bool true) ∧ Below w.heap.size w w' := by
  obtain ⟨l, h⟩ := w0.lv
  obtain ⟨s, h2⟩ := w1.lv
  exact natDivs_lv h h2 hT
theorem roots_law (a0 : Option Addr) (len0 cap0 : Nat) (z0 : List Int) (w : World) (w0 : IsRow .u64 w a0 len0 cap0 z0) (hT : Tab w) :
    Calls Tryd.prog 8 #[.slice a0 len0 cap0] w fun e w' => e = .returned (.bool true) ∧ Below w.heap.size w w' := by
  obtain ⟨l, h⟩ := w0.lv
  exact natRoots_lv h hT
end Go.Proofs.YtigphbjgodfhpaaDoor
