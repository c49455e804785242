/-
  Layer 2, the laws, part thirteen: NatTexts (the walk is written by wip/tools/gen_texts.py).
-/
import Derived.Test.YtigphbjgodfhpaaDoorNatAX
namespace Go.Proofs.YtigphbjgodfhpaaDoor
open Go.RowKit
set_option linter.unusedVariables false

theorem refText_lv {A : Option Addr} {n c : Nat} {l : List Int} {w : World} (h : Lv w A n c l) (hn : n ≤ 4096) (T : List UInt8) (hT : txt (val 18446744073709551616 l).toNat = T) :
    Calls Tryd.prog 46 #[.slice A n c] w fun e w' => e = .returned (.string ⟨T.toArray⟩) ∧ Below w.heap.size w w' := by
  refine (refText_any h hn).mono ?_
  rintro e w' ⟨rfl, hb⟩
  exact ⟨by rw [hT], hb⟩
theorem read_bound {s : ByteArray} (h : OkText s.data.toList) (hs : s.size ≤ 1200) : dval s.data.toList < 18446744073709551616 ^ 4096 := by
  have h1 := dval_bd s.data.toList (fun c hc => h.2.2.2 c hc)
  have h2 : s.data.toList.length = s.size := by rw [Array.length_toList]; rfl
  have h3 := pow_base (a := 10) (b := 18446744073709551616) (by omega) (by omega) s.data.toList.length
  have h4 := pow_le' (b := 18446744073709551616) (by omega) (show s.data.toList.length ≤ 4096 by omega)
  omega

set_option maxRecDepth 100000 in
set_option maxHeartbeats 8000000 in
theorem natTexts_lv {A_a : Option Addr} {n_a c_a : Nat} {l_a : List Int} (s : ByteArray) {w : World} (m_a : Lv w A_a n_a c_a l_a) (hT : Tab w) :
    Calls Tryd.prog 12 #[.slice A_a n_a c_a, .string s] w fun e w' => e = .returned (.bool true) ∧ Below w.heap.size w w' := by
  have q1 := long_lv m_a
  by_cases k1 : 60 < n_a
  · have k1' : decide (60 < n_a) = true := by simp [k1]
    rw [k1'] at q1
    clear k1
    go_enter Tryd.func12, Tryd.ntmps12
    go_wp2_with (first | (go_at_call 15; ((with_reducible refine (q1 _).mono ?_); rintro e w1 ⟨rfl, rfl⟩)) | (go_at_call 16; ((with_reducible refine (known_any _ hT).mono ?_); rintro e w1 ⟨rfl, hb⟩)))
    go_ret
    exact ⟨rfl, hb⟩
  have k1' : decide (60 < n_a) = false := by simp [k1]
  rw [k1'] at q1
  have h_a : n_a ≤ 60 := by omega
  clear k1 k1'
  have bw : Below w.heap.size w w := Below.refl _ w
  by_cases hs : 1200 < s.size
  · have hs2 : (1200 : Int) < s.size := by omega
    go_enter Tryd.func12, Tryd.ntmps12
    go_wp2_with (first | (go_at_call 15; ((with_reducible refine (q1 _).mono ?_); rintro e w1 ⟨rfl, rfl⟩)) | (go_at_call 16; ((with_reducible refine (known_any _ hT).mono ?_); rintro e w1 ⟨rfl, hb⟩)))
    go_ret
    exact ⟨rfl, hb⟩
  · have hs2 : (s.size : Int) ≤ 1200 := by omega
    have hs3 : s.size ≤ 1200 := by omega
    obtain ⟨T, hTx⟩ : ∃ T, txt (val 18446744073709551616 l_a).toNat = T := ⟨_, rfl⟩
    have HTX := Lib.hid hTx
    clear hs hTx
    by_cases hok : OkText s.data.toList
    · have HO := Lib.hid hok
      have hrb := read_bound hok hs3
      have HR := Lib.hid hrb
      clear hok hrb
      go_enter Tryd.func12, Tryd.ntmps12
      go_wp2_with (first | (go_at_call 15; ((with_reducible refine (q1 _).mono ?_); rintro e w1 ⟨rfl, rfl⟩)))
      have p1 := Text_good m_a (by omega) T HTX.out
      with_reducible refine p1.mono ?_
      rintro e w1 ⟨rfl, hb⟩
      clear p1
      replace m_a := m_a.on hb
      replace hT := hT.on hb
      replace bw := bel_then bw hb
      clear hb
      go_wp2_with fail
      have p2 := (Read_any s HO.out w1 HR.out).mono fun e w' q => q.goodV HR.out
      with_reducible refine p2.mono ?_
      rintro e w2 ⟨l_b, A_b, c_b, rfl, n_b, v_b, k_b, m_b, hb⟩
      clear p2
      replace m_a := m_a.on hb
      replace hT := hT.on hb
      replace bw := bel_then bw hb
      clear hb
      go_wp2_with fail
      have p3 := refRead_yes s (by omega) HO.out w2
      with_reducible refine p3.mono ?_
      rintro e w3 ⟨l_c, A_c, c_c, rfl, n_c, v_c, k_c, m_c, hb⟩
      clear p3
      replace m_a := m_a.on hb
      replace m_b := m_b.on hb
      replace hT := hT.on hb
      replace bw := bel_then bw hb
      clear hb
      obtain rfl : l_c = l_b := nuq m_c.2.2 n_c m_b.2.2 n_b (by rw [v_c.out, v_b.out])
      go_wp2_with fail
      have p4 := refText_lv m_a (by omega) T HTX.out
      with_reducible refine p4.mono ?_
      rintro e w4 ⟨rfl, hb⟩
      clear p4
      replace m_a := m_a.on hb
      replace m_b := m_b.on hb
      replace m_c := m_c.on hb
      replace hT := hT.on hb
      replace bw := bel_then bw hb
      clear hb
      go_wp2_with fail
      with_reducible refine (num_any 0 _).mono ?_
      rintro e w5 ⟨rfl, rfl⟩
      go_wp2_with fail
      have p6 := same_lv m_b m_c
      with_reducible refine p6.mono ?_
      rintro e w6 ⟨rfl, hb⟩
      clear p6
      replace m_a := m_a.on hb
      replace m_b := m_b.on hb
      replace m_c := m_c.on hb
      replace hT := hT.on hb
      replace bw := bel_then bw hb
      clear hb
      go_wp2_with fail
      with_reducible refine (num_any 0 _).mono ?_
      rintro e w7 ⟨rfl, rfl⟩
      go_wp2_with fail
      with_reducible refine (known_any _ hT).mono ?_
      rintro e w8 ⟨rfl, hb⟩
      replace bw := bel_then bw hb
      go_wp2_with fail
      go_ret
      exact ⟨rfl, bw⟩
    · have HO := Lib.hid hok
      clear hok
      go_enter Tryd.func12, Tryd.ntmps12
      go_wp2_with (first | (go_at_call 15; ((with_reducible refine (q1 _).mono ?_); rintro e w1 ⟨rfl, rfl⟩)))
      have p1 := Text_good m_a (by omega) T HTX.out
      with_reducible refine p1.mono ?_
      rintro e w1 ⟨rfl, hb⟩
      clear p1
      replace m_a := m_a.on hb
      replace hT := hT.on hb
      replace bw := bel_then bw hb
      clear hb
      go_wp2_with fail
      have p2 := Read_bad s (by omega) HO.out w1
      with_reducible refine p2.mono ?_
      rintro e w2 ⟨rfl, hb⟩
      clear p2
      replace m_a := m_a.on hb
      replace hT := hT.on hb
      replace bw := bel_then bw hb
      clear hb
      go_wp2_with fail
      have p3 := refRead_no s (by omega) HO.out w2
      with_reducible refine p3.mono ?_
      rintro e w3 ⟨rfl, hb⟩
      clear p3
      replace m_a := m_a.on hb
      replace hT := hT.on hb
      replace bw := bel_then bw hb
      clear hb
      go_wp2_with fail
      have p4 := refText_lv m_a (by omega) T HTX.out
      with_reducible refine p4.mono ?_
      rintro e w4 ⟨rfl, hb⟩
      clear p4
      replace m_a := m_a.on hb
      replace hT := hT.on hb
      replace bw := bel_then bw hb
      clear hb
      go_wp2_with fail
      with_reducible refine (num_any 0 _).mono ?_
      rintro e w5 ⟨rfl, rfl⟩
      go_wp2_with fail
      have p6 := same_lv (lv_nil w4) (lv_nil w4)
      with_reducible refine p6.mono ?_
      rintro e w6 ⟨rfl, hb⟩
      clear p6
      replace m_a := m_a.on hb
      replace hT := hT.on hb
      replace bw := bel_then bw hb
      clear hb
      go_wp2_with fail
      with_reducible refine (num_any 2 _).mono ?_
      rintro e w7 ⟨rfl, rfl⟩
      go_wp2_with fail
      with_reducible refine (known_any _ hT).mono ?_
      rintro e w8 ⟨rfl, hb⟩
      replace bw := bel_then bw hb
      go_wp2_with fail
      go_ret
      exact ⟨rfl, bw⟩

theorem texts_law (a0 : Option Addr) (len0 cap0 : Nat) (z0 : List Int) (s : ByteArray) (w : World) (w0 : IsRow .u64 w a0 len0 cap0 z0) (hs : s.size ≤ maxLen) (hT : Tab w) :
    Calls Tryd.prog 12 #[.slice a0 len0 cap0, .string s] w fun e w' => e = .returned (.bool true) ∧ Below w.heap.size w w' := by
  obtain ⟨l, h⟩ := w0.lv
  exact natTexts_lv s h hT
end Go.Proofs.YtigphbjgodfhpaaDoor
