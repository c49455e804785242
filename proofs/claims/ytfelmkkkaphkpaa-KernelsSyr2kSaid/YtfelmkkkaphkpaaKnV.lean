/-
  Layer 8, walks: the reference's Gemm, Syr2k. (Written by wip/tools/gen_knv.py.)
-/
import Derived.Test.YtfelmkkkaphkpaaKnT
namespace Go.Proofs.Ytfelmkkkaphkpaa
open Go.RowKit Go.Bw Go.Sort Go.Shelf
set_option linter.unusedVariables false
set_option linter.unusedSimpArgs false
attribute [local go_sem] run_store_float

theorem dot_rows {lm ln L : List Int} {p q i j : Nat} (h : Is L p (fun k => ma ln q k j)) : dotA ((lm.drop (i * p)).take p) L p = sumA (fun t => aop .mul (ma lm p i t) (ma ln q t j)) p := by
  unfold dotA
  exact sumA_congr fun t ht => by rw [D_row ht, h.at_ t ht]
theorem dot_two {lm ln : List Int} {p i j : Nat} : dotA ((lm.drop (i * p)).take p) ((ln.drop (j * p)).take p) p = sumA (fun t => aop .mul (ma lm p i t) (ma ln p j t)) p := by
  unfold dotA
  exact sumA_congr fun t ht => by rw [D_row ht, D_row ht]
section
variable {w : World} {m q n c : Nat} {A : Option Addr} {l : List Int}
set_option maxRecDepth 100000 in
set_option maxHeartbeats 8000000 in
theorem rGemm_any {a b p nm cm nn cn : Nat} {Am An : Option Addr} {lm ln : List Int} (ba : a ≤ 18446744073709551615) (bb : b ≤ 18446744073709551615) (h : FL w A n c l) (hn : n = m * q) (hm : m ≤ 512) (hq : q ≤ 512) (hM : FL w Am nm cm lm) (hnm : nm = m * p) (hp : p ≤ 512) (hL : FL w An nn cn ln) (hnn : nn = p * q) :
    Calls Try.prog 44 #[.float .f64 a, mV m p Am nm cm, mV p q An nn cn, .float .f64 b, mV m q A n c] w (NewMt w m q n (tg (fun a b => true) (fun i j => bothA (af b) (ma l q i j) (af a) (sumA (fun t => aop .mul (ma lm p i t) (ma ln q t j)) p)) l q)) := by
  obtain ⟨f, hf⟩ : ∃ f : Nat → Nat → Option Nat, (fun i j => bothA (af b) (ma l q i j) (af a) (sumA (fun t => aop .mul (ma lm p i t) (ma ln q t j)) p)) = f := ⟨_, rfl⟩
  have Hf := Lib.hid (show ∀ i j, bothA (af b) (ma l q i j) (af a) (sumA (fun t => aop .mul (ma lm p i t) (ma ln q t j)) p) = f i j from fun i j => by rw [← hf])
  rw [hf]
  clear hf
  have hn4 : n ≤ 262144 := by rw [hn]; exact Nat.le_trans (Nat.mul_le_mul hm hq) (by omega)
  have HH := Lib.hid h
  have HN := Lib.hid hn
  clear h hn
  have HM := Lib.hid hM
  have HL := Lib.hid hL
  have HNM := Lib.hid hnm
  have HNL := Lib.hid hnn
  clear hM hL hnm hnn
  have D0 := Blk.new w [.int .i64 m, .int .i64 p, .slice Am nm cm] 24
  have D1 := Blk.new (w.alloc (.cells #[.int .i64 m, .int .i64 p, .slice Am nm cm] 24)) [.int .i64 p, .int .i64 q, .slice An nn cn] 24
  replace D0 := D0.alloc (.cells #[.int .i64 p, .int .i64 q, .slice An nn cn] 24)
  simp only [World.size_alloc] at D1
  have D2 := Blk.new ((w.alloc (.cells #[.int .i64 m, .int .i64 p, .slice Am nm cm] 24)).alloc (.cells #[.int .i64 p, .int .i64 q, .slice An nn cn] 24)) [.int .i64 m, .int .i64 q, .slice A n c] 24
  replace D0 := D0.alloc (.cells #[.int .i64 m, .int .i64 q, .slice A n c] 24)
  replace D1 := D1.alloc (.cells #[.int .i64 m, .int .i64 q, .slice A n c] 24)
  simp only [World.size_alloc] at D2
  have D3 := Blk.new (((w.alloc (.cells #[.int .i64 m, .int .i64 p, .slice Am nm cm] 24)).alloc (.cells #[.int .i64 p, .int .i64 q, .slice An nn cn] 24)).alloc (.cells #[.int .i64 m, .int .i64 q, .slice A n c] 24)) [.int .i64 0, .int .i64 0, .slice none 0 0] 24
  replace D0 := D0.alloc (.cells #[.int .i64 0, .int .i64 0, .slice none 0 0] 24)
  replace D1 := D1.alloc (.cells #[.int .i64 0, .int .i64 0, .slice none 0 0] 24)
  replace D2 := D2.alloc (.cells #[.int .i64 0, .int .i64 0, .slice none 0 0] 24)
  simp only [World.size_alloc] at D3
  have bw := ((((Below.refl _ w).alloc (Nat.le_refl _) (.cells #[.int .i64 m, .int .i64 p, .slice Am nm cm] 24)).alloc (by simp <;> omega) (.cells #[.int .i64 p, .int .i64 q, .slice An nn cn] 24)).alloc (by simp <;> omega) (.cells #[.int .i64 m, .int .i64 q, .slice A n c] 24)).alloc (by simp <;> omega) (.cells #[.int .i64 0, .int .i64 0, .slice none 0 0] 24)
  have hsz : ((((w.alloc (.cells #[.int .i64 m, .int .i64 p, .slice Am nm cm] 24)).alloc (.cells #[.int .i64 p, .int .i64 q, .slice An nn cn] 24)).alloc (.cells #[.int .i64 m, .int .i64 q, .slice A n c] 24)).alloc (.cells #[.int .i64 0, .int .i64 0, .slice none 0 0] 24)).heap.size = w.heap.size + 4 := by simp
  obtain ⟨d0_0, d0_1, d0_2, d0_f0, d0_f1, d0_f2⟩ := Mbx.cells D0
  obtain ⟨d1_0, d1_1, d1_2, d1_f0, d1_f1, d1_f2⟩ := Mbx.cells D1
  obtain ⟨d2_0, d2_1, d2_2, d2_f0, d2_f1, d2_f2⟩ := Mbx.cells D2
  have pc := rCopy_any (m := m) (q := q) (HH.out.on bw) hn4
  go_enter Try.func44, Try.ntmps44
  go_wp2_with fail
  with_reducible refine pc.mono ?_
  rintro e w1 ⟨A2, c2, rfl, ho, hb⟩
  clear pc
  clear d0_0 d0_1 d0_2 d0_f0 d0_f1 d0_f2
  clear d1_0 d1_1 d1_2 d1_f0 d1_f1 d1_f2
  clear d2_0 d2_1 d2_2 d2_f0 d2_f1 d2_f2
  have hA2 : ∀ a, A2 = some a → w.heap.size + 4 ≤ a.block ∧ a.block < w1.heap.size := fun a e => by have := ho.gt e; rw [hsz] at this; exact this
  have hs1 := hb.size
  rw [hsz] at hs1
  replace D0 := (D0.on hb).alloc (.cells #[.int .i64 m, .int .i64 q, .slice A2 n c2] 24)
  replace D1 := (D1.on hb).alloc (.cells #[.int .i64 m, .int .i64 q, .slice A2 n c2] 24)
  replace D2 := (D2.on hb).alloc (.cells #[.int .i64 m, .int .i64 q, .slice A2 n c2] 24)
  replace D3 := (D3.on hb).alloc (.cells #[.int .i64 m, .int .i64 q, .slice A2 n c2] 24)
  have DO := Blk.new w1 [.int .i64 m, .int .i64 q, .slice A2 n c2] 24
  replace bw := (bw.trans (hb.mono bw.size)).alloc (by omega) (.cells #[.int .i64 m, .int .i64 q, .slice A2 n c2] 24)
  have hG : Gs w (w.heap.size + 4) [(w.heap.size, [.int .i64 m, .int .i64 p, .slice Am nm cm]), (w.heap.size + 1, [.int .i64 p, .int .i64 q, .slice An nn cn]), (w.heap.size + 2, [.int .i64 m, .int .i64 q, .slice A n c]), (w.heap.size + 3, [.int .i64 0, .int .i64 0, .slice none 0 0]), (w1.heap.size, [.int .i64 m, .int .i64 q, .slice A2 n c2])] m q A2 c2 l l (fun a b => decide (a < 0 ∨ (a = 0 ∧ b < 0))) f (w1.alloc (.cells #[.int .i64 m, .int .i64 q, .slice A2 n c2] 24)) := {
    mr := Mr.start (by rw [← HN.out]; exact HH.out.1) HH.out.2.2 (fun a b h1 h2 => by simp <;> omega)
    own := ((ho.less (by rw [hsz]; exact Nat.le_refl _)).alloc_ _)
    bx := by intro b hb9; simp only [List.mem_cons, List.mem_nil_iff, or_false] at hb9; rcases hb9 with rfl | rfl | rfl | rfl | rfl
             · exact D0
             · exact D1
             · exact D2
             · exact D3
             · exact DO
    ne := by intro b hb9 a ea; have := hA2 a ea; simp only [List.mem_cons, List.mem_nil_iff, or_false] at hb9; rcases hb9 with rfl | rfl | rfl | rfl | rfl <;> simp <;> omega
    bw := bw
    lo := by omega }
  clear hA2 hs1 hsz bw hb ho D0 D1 D2 D3
  obtain ⟨dO_0, dO_1, dO_2, dO_f0, dO_f1, dO_f2⟩ := Mbx.cells DO
  have D0 : Blk (w1.alloc (.cells #[.int .i64 m, .int .i64 q, .slice A2 n c2] 24)) (w.heap.size) [.int .i64 m, .int .i64 p, .slice Am nm cm] := hG.bx _ (.head _)
  have D1 : Blk (w1.alloc (.cells #[.int .i64 m, .int .i64 q, .slice A2 n c2] 24)) (w.heap.size + 1) [.int .i64 p, .int .i64 q, .slice An nn cn] := hG.bx _ (.tail _ (.head _))
  have D2 : Blk (w1.alloc (.cells #[.int .i64 m, .int .i64 q, .slice A2 n c2] 24)) (w.heap.size + 2) [.int .i64 m, .int .i64 q, .slice A n c] := hG.bx _ (.tail _ (.tail _ (.head _)))
  obtain ⟨d0_0, d0_1, d0_2, d0_f0, d0_f1, d0_f2⟩ := Mbx.cells D0
  obtain ⟨d1_0, d1_1, d1_2, d1_f0, d1_f1, d1_f2⟩ := Mbx.cells D1
  obtain ⟨d2_0, d2_1, d2_2, d2_f0, d2_f1, d2_f2⟩ := Mbx.cells D2
  go_wp2_with fail
  obtain ⟨HO, hHO⟩ : ∃ HO, w1.heap.size = HO := ⟨_, rfl⟩
  clear d0_0 d0_1 d0_2 d0_f0 d0_f1 d0_f2
  clear d1_0 d1_1 d1_2 d1_f0 d1_f1 d1_f2
  clear d2_0 d2_1 d2_2 d2_f0 d2_f1 d2_f2
  clear dO_0 dO_1 dO_2 dO_f0 dO_f1 dO_f2
  clear DO D0 D1 D2
  simp only [hHO] at hG ⊢
  clear hHO
  go_loopw [12] (fun i wr => ∃ (k : Nat) (L : List Int), k ≤ m ∧ i = .int .i64 k ∧ Gs w (w.heap.size + 4) [(w.heap.size, [.int .i64 m, .int .i64 p, .slice Am nm cm]), (w.heap.size + 1, [.int .i64 p, .int .i64 q, .slice An nn cn]), (w.heap.size + 2, [.int .i64 m, .int .i64 q, .slice A n c]), (w.heap.size + 3, [.int .i64 0, .int .i64 0, .slice none 0 0]), (HO, [.int .i64 m, .int .i64 q, .slice A2 n c2])] m q A2 c2 l L (fun a b => decide (a < k ∨ (a = k ∧ b < 0))) f wr) (fun i _ => m - (intOf i).toNat)
  case atStart => exact ⟨0, l, Nat.zero_le _, rfl, hG.congr (fun a b h1 h2 => by rfl)⟩
  case round =>
    clear hG
    obtain ⟨i, L, hi, rfl, hG⟩ := hrel
    have D0 : Blk wr (w.heap.size) [.int .i64 m, .int .i64 p, .slice Am nm cm] := hG.bx _ (.head _)
    have D1 : Blk wr (w.heap.size + 1) [.int .i64 p, .int .i64 q, .slice An nn cn] := hG.bx _ (.tail _ (.head _))
    have D2 : Blk wr (w.heap.size + 2) [.int .i64 m, .int .i64 q, .slice A n c] := hG.bx _ (.tail _ (.tail _ (.head _)))
    have DZ : Blk wr (w.heap.size + 3) [.int .i64 0, .int .i64 0, .slice none 0 0] := hG.bx _ (.tail _ (.tail _ (.tail _ (.head _))))
    have DO : Blk wr HO [.int .i64 m, .int .i64 q, .slice A2 n c2] := hG.bx _ (.tail _ (.tail _ (.tail _ (.tail _ (.head _)))))
    obtain ⟨d0_0, d0_1, d0_2, d0_f0, d0_f1, d0_f2⟩ := Mbx.cells D0
    obtain ⟨d1_0, d1_1, d1_2, d1_f0, d1_f1, d1_f2⟩ := Mbx.cells D1
    obtain ⟨d2_0, d2_1, d2_2, d2_f0, d2_f1, d2_f2⟩ := Mbx.cells D2
    obtain ⟨dO_0, dO_1, dO_2, dO_f0, dO_f1, dO_f2⟩ := Mbx.cells DO
    obtain ⟨dz_0, dz_1, dz_2, dz_f0, dz_f1, dz_f2⟩ := Mbx.cells DZ
    by_cases hlt : i < m
    · have i0 : (0 : Int) ≤ i := by omega
      have i1 : (i : Int) < m := by omega
      go_wp2_with fail
      clear d0_0 d0_1 d0_2 d0_f0 d0_f1 d0_f2
      clear d1_0 d1_1 d1_2 d1_f0 d1_f1 d1_f2
      clear d2_0 d2_1 d2_2 d2_f0 d2_f1 d2_f2
      clear dO_0 dO_1 dO_2 dO_f0 dO_f1 dO_f2
      clear dz_0 dz_1 dz_2 dz_f0 dz_f1 dz_f2
      clear DO DZ D0 D1 D2
      go_loopw [13] (fun j wr => ∃ (jj : Nat) (L : List Int), jj ≤ q ∧ j = .int .i64 jj ∧ Gs w (w.heap.size + 4) [(w.heap.size, [.int .i64 m, .int .i64 p, .slice Am nm cm]), (w.heap.size + 1, [.int .i64 p, .int .i64 q, .slice An nn cn]), (w.heap.size + 2, [.int .i64 m, .int .i64 q, .slice A n c]), (w.heap.size + 3, [.int .i64 0, .int .i64 0, .slice none 0 0]), (HO, [.int .i64 m, .int .i64 q, .slice A2 n c2])] m q A2 c2 l L (fun a b => decide (a < i ∨ (a = i ∧ b < jj))) f wr) (fun j _ => q - (intOf j).toNat)
      case atStart => exact ⟨0, L, by omega, by go_num, hG⟩
      case round =>
        clear hG
        obtain ⟨j, L, hj, rfl, hG⟩ := hrel
        have D0 : Blk wr (w.heap.size) [.int .i64 m, .int .i64 p, .slice Am nm cm] := hG.bx _ (.head _)
        have D1 : Blk wr (w.heap.size + 1) [.int .i64 p, .int .i64 q, .slice An nn cn] := hG.bx _ (.tail _ (.head _))
        have D2 : Blk wr (w.heap.size + 2) [.int .i64 m, .int .i64 q, .slice A n c] := hG.bx _ (.tail _ (.tail _ (.head _)))
        have DZ : Blk wr (w.heap.size + 3) [.int .i64 0, .int .i64 0, .slice none 0 0] := hG.bx _ (.tail _ (.tail _ (.tail _ (.head _))))
        have DO : Blk wr HO [.int .i64 m, .int .i64 q, .slice A2 n c2] := hG.bx _ (.tail _ (.tail _ (.tail _ (.tail _ (.head _)))))
        obtain ⟨d0_0, d0_1, d0_2, d0_f0, d0_f1, d0_f2⟩ := Mbx.cells D0
        obtain ⟨d1_0, d1_1, d1_2, d1_f0, d1_f1, d1_f2⟩ := Mbx.cells D1
        obtain ⟨d2_0, d2_1, d2_2, d2_f0, d2_f1, d2_f2⟩ := Mbx.cells D2
        obtain ⟨dO_0, dO_1, dO_2, dO_f0, dO_f1, dO_f2⟩ := Mbx.cells DO
        obtain ⟨dz_0, dz_1, dz_2, dz_f0, dz_f1, dz_f2⟩ := Mbx.cells DZ
        by_cases hjt : j < q
        · have j0 : (0 : Int) ≤ j := by omega
          have j1 : (j : Int) < q := by omega
          have hjq : j < q := by omega
          have hKl := ix_lt hlt hjq
          rw [← hG.mr.len] at hKl
          have hX2 : i * q ≤ 512 * 512 := Nat.mul_le_mul (by omega) hq
          obtain ⟨X, hX⟩ : ∃ X, i * q = X := ⟨_, rfl⟩
          have hXi : (i : Int) * (q : Int) = (X : Int) := by exact_mod_cast hX
          obtain ⟨Kp, hKp⟩ : ∃ Kp, X + j = Kp := ⟨_, rfl⟩
          have hKi : (X : Int) + (j : Int) = (Kp : Int) := by exact_mod_cast hKp
          have HK := Lib.hid (show i * q + j = Kp by rw [hX, hKp])
          rw [hX, hKp] at hKl
          rw [hX] at hX2
          have hKn : Kp < n := by rw [HN.out, ← hG.mr.len]; exact hKl
          obtain ⟨g5, hA5, _, _⟩ := hG.own.at_ hKl
          subst hA5
          have k0 : (0 : Int) ≤ Kp := by omega
          have k1 : (Kp : Int) < n := by omega
          have v1 : IntKind.i64.wrap (X : Int) = X := by rw [IntKind.wrap_i64]; omega
          have v2 : IntKind.i64.wrap (Kp : Int) = Kp := by rw [IntKind.wrap_i64]; omega
          clear hX hKp
          go_wp2_with fail
          clear d0_0 d0_1 d0_2 d0_f0 d0_f1 d0_f2
          clear d1_0 d1_1 d1_2 d1_f0 d1_f1 d1_f2
          clear d2_0 d2_1 d2_2 d2_f0 d2_f1 d2_f2
          clear dO_0 dO_1 dO_2 dO_f0 dO_f1 dO_f2
          clear dz_0 dz_1 dz_2 dz_f0 dz_f1 dz_f2
          clear DO DZ D0 D1 D2
          replace hG := hG.on (Below.refl _ _).drew
          have bz := Below.refl wr.drew.heap.size wr.drew
          refine wp_region_held_drew (S := fun w9 : World => Mbx w9 w.heap.size m p Am nm cm ∧ Mbx w9 (w.heap.size + 1) p q An nn cn ∧ Mbx w9 (w.heap.size + 2) m q A n c ∧ Mbx w9 HO m q (some ⟨g5, 0, none⟩) n c2) (by kernel_rfl) ⟨hG.bx _ (.head _), hG.bx _ (.tail _ (.head _)), hG.bx _ (.tail _ (.tail _ (.head _))), hG.bx _ (.tail _ (.tail _ (.tail _ (.tail _ (.head _)))))⟩ (fun hS => ?_)
          generalize wr.drew = wd at hS hG  bz ⊢
          refine wpAnyH_take (i := 0) (v := ?v0_26) rfl (by kernel_rfl) (by kernel_rfl) (by kernel_rfl) (fun _ _ _ h => h) (Or.inl ⟨by rfl, ?hy0_26⟩) (by assumption) ?rest0_26
          case hy0_26 => (intro w9 hSw; clear hSw; go_simp; try with_reducible rfl)
          try simp only [Act.put, List.setIfInBounds_toArray, List.set_cons_zero, List.set_cons_succ, List.getElem_toArray, List.getElem_cons_zero, List.getElem_cons_succ]
          refine wpAnyH_take (i := 1) (v := ?v1_27) rfl (by kernel_rfl) (by kernel_rfl) (by kernel_rfl) (fun _ _ _ h => h) (Or.inl ⟨by rfl, ?hy1_27⟩) (by assumption) ?rest1_27
          case hy1_27 => (intro w9 hSw; obtain ⟨m0, m1, m2, m3⟩ := hSw; obtain ⟨q0_0, q0_1, q0_2, q0_3, q0_4, q0_5⟩ := Mbx.cells m0; obtain ⟨q1_0, q1_1, q1_2, q1_3, q1_4, q1_5⟩ := Mbx.cells m1; obtain ⟨q2_0, q2_1, q2_2, q2_3, q2_4, q2_5⟩ := Mbx.cells m2; obtain ⟨q3_0, q3_1, q3_2, q3_3, q3_4, q3_5⟩ := Mbx.cells m3; go_simp; try with_reducible rfl)
          try simp only [Act.put, List.setIfInBounds_toArray, List.set_cons_zero, List.set_cons_succ, List.getElem_toArray, List.getElem_cons_zero, List.getElem_cons_succ]
          refine wpAnyH_take (i := 2) (v := ?v2_28) rfl (by kernel_rfl) (by kernel_rfl) (by kernel_rfl) (fun _ _ _ h => h) (Or.inl ⟨by rfl, ?hy2_28⟩) (by assumption) ?rest2_28
          case hy2_28 => (intro w9 hSw; clear hSw; go_simp; try with_reducible rfl)
          try simp only [Act.put, List.setIfInBounds_toArray, List.set_cons_zero, List.set_cons_succ, List.getElem_toArray, List.getElem_cons_zero, List.getElem_cons_succ]
          refine wpAnyH_take (i := 3) (v := ?v3_29) rfl (by kernel_rfl) (by kernel_rfl) (by kernel_rfl) (fun _ _ _ h => h) (Or.inl ⟨by rfl, ?hy3_29⟩) (by assumption) ?rest3_29
          case hy3_29 => (intro w9 hSw; clear hSw; go_simp; try with_reducible rfl)
          try simp only [Act.put, List.setIfInBounds_toArray, List.set_cons_zero, List.set_cons_succ, List.getElem_toArray, List.getElem_cons_zero, List.getElem_cons_succ]
          refine wpAnyH_take (i := 4) (v := ?v4_30) rfl (by kernel_rfl) (by kernel_rfl) (by kernel_rfl) (fun _ _ _ h => h) (Or.inl ⟨by rfl, ?hy4_30⟩) (by assumption) ?rest4_30
          case hy4_30 => (intro w9 hSw; obtain ⟨m0, m1, m2, m3⟩ := hSw; obtain ⟨q0_0, q0_1, q0_2, q0_3, q0_4, q0_5⟩ := Mbx.cells m0; obtain ⟨q1_0, q1_1, q1_2, q1_3, q1_4, q1_5⟩ := Mbx.cells m1; obtain ⟨q2_0, q2_1, q2_2, q2_3, q2_4, q2_5⟩ := Mbx.cells m2; obtain ⟨q3_0, q3_1, q3_2, q3_3, q3_4, q3_5⟩ := Mbx.cells m3; go_simp; try with_reducible rfl)
          try simp only [Act.put, List.setIfInBounds_toArray, List.set_cons_zero, List.set_cons_succ, List.getElem_toArray, List.getElem_cons_zero, List.getElem_cons_succ]
          refine wpAnyH_take (i := 5) (v := ?v5_31) rfl (by kernel_rfl) (by kernel_rfl) (by kernel_rfl) (fun _ _ _ h => h) (Or.inl ⟨by rfl, ?hy5_31⟩) (by assumption) ?rest5_31
          case hy5_31 => (intro w9 hSw; clear hSw; go_simp; try with_reducible rfl)
          try simp only [Act.put, List.setIfInBounds_toArray, List.set_cons_zero, List.set_cons_succ, List.getElem_toArray, List.getElem_cons_zero, List.getElem_cons_succ]
          refine wpAnyH_take (i := 6) (v := ?v6_32) rfl (by kernel_rfl) (by kernel_rfl) (by kernel_rfl) (fun _ _ _ h => h) (Or.inl ⟨by rfl, ?hy6_32⟩) (by assumption) ?rest6_32
          case hy6_32 => (intro w9 hSw; clear hSw; go_simp; try with_reducible rfl)
          try simp only [Act.put, List.setIfInBounds_toArray, List.set_cons_zero, List.set_cons_succ, List.getElem_toArray, List.getElem_cons_zero, List.getElem_cons_succ]
          refine wpAnyH_take (i := 7) (v := ?v7_33) rfl (by kernel_rfl) (by kernel_rfl) (by kernel_rfl) (fun _ _ _ h => h) (Or.inl ⟨by rfl, ?hy7_33⟩) (by assumption) ?rest7_33
          case hy7_33 => (intro w9 hSw; clear hSw; go_simp; try with_reducible rfl)
          try simp only [Act.put, List.setIfInBounds_toArray, List.set_cons_zero, List.set_cons_succ, List.getElem_toArray, List.getElem_cons_zero, List.getElem_cons_succ]
          refine wpAnyH_take (i := 8) (v := ?v8_34) rfl (by kernel_rfl) (by kernel_rfl) (by kernel_rfl) (fun _ _ _ h => h) (Or.inl ⟨by rfl, ?hy8_34⟩) (by assumption) ?rest8_34
          case hy8_34 => (intro w9 hSw; clear hSw; go_simp; try with_reducible rfl)
          try simp only [Act.put, List.setIfInBounds_toArray, List.set_cons_zero, List.set_cons_succ, List.getElem_toArray, List.getElem_cons_zero, List.getElem_cons_succ]
          refine wpAnyH_take (i := 9) (v := ?v9_35) rfl (by kernel_rfl) (by kernel_rfl) (by kernel_rfl) (fun _ _ _ h => h) (Or.inl ⟨by rfl, ?hy9_35⟩) (by assumption) ?rest9_35
          case hy9_35 => (intro w9 hSw; obtain ⟨m0, m1, m2, m3⟩ := hSw; obtain ⟨q0_0, q0_1, q0_2, q0_3, q0_4, q0_5⟩ := Mbx.cells m0; obtain ⟨q1_0, q1_1, q1_2, q1_3, q1_4, q1_5⟩ := Mbx.cells m1; obtain ⟨q2_0, q2_1, q2_2, q2_3, q2_4, q2_5⟩ := Mbx.cells m2; obtain ⟨q3_0, q3_1, q3_2, q3_3, q3_4, q3_5⟩ := Mbx.cells m3; go_simp; try with_reducible rfl)
          try simp only [Act.put, List.setIfInBounds_toArray, List.set_cons_zero, List.set_cons_succ, List.getElem_toArray, List.getElem_cons_zero, List.getElem_cons_succ]
          refine wpAnyH_take (i := 10) (v := ?v10_36) rfl (by kernel_rfl) (by kernel_rfl) (by kernel_rfl) (fun _ _ _ h => h) (Or.inl ⟨by rfl, ?hy10_36⟩) (by assumption) ?rest10_36
          case hy10_36 => (intro w9 hSw; clear hSw; go_simp; try with_reducible rfl)
          try simp only [Act.put, List.setIfInBounds_toArray, List.set_cons_zero, List.set_cons_succ, List.getElem_toArray, List.getElem_cons_zero, List.getElem_cons_succ]
          refine wpAnyH_take (i := 11) (v := ?v11_37) rfl (by kernel_rfl) (by kernel_rfl) (by kernel_rfl) (fun _ _ _ h => h) (Or.inl ⟨by rfl, ?hy11_37⟩) (by assumption) ?rest11_37
          case hy11_37 => (intro w9 hSw; clear hSw; go_simp; try with_reducible rfl)
          try simp only [Act.put, List.setIfInBounds_toArray, List.set_cons_zero, List.set_cons_succ, List.getElem_toArray, List.getElem_cons_zero, List.getElem_cons_succ]
          refine wpAnyH_take (i := 13) (v := ?v13_38) rfl (by kernel_rfl) (by kernel_rfl) (by kernel_rfl) (fun _ _ _ h => h) (Or.inl ⟨by rfl, ?hy13_38⟩) (by assumption) ?rest13_38
          case hy13_38 => (intro w9 hSw; clear hSw; go_simp; try with_reducible rfl)
          try simp only [Act.put, List.setIfInBounds_toArray, List.set_cons_zero, List.set_cons_succ, List.getElem_toArray, List.getElem_cons_zero, List.getElem_cons_succ]
          refine wpAnyH_take (i := 14) (v := ?v14_39) rfl (by kernel_rfl) (by kernel_rfl) (by kernel_rfl) (fun _ _ _ h => h) (Or.inl ⟨by rfl, ?hy14_39⟩) (by assumption) ?rest14_39
          case hy14_39 => (intro w9 hSw; obtain ⟨m0, m1, m2, m3⟩ := hSw; obtain ⟨q0_0, q0_1, q0_2, q0_3, q0_4, q0_5⟩ := Mbx.cells m0; obtain ⟨q1_0, q1_1, q1_2, q1_3, q1_4, q1_5⟩ := Mbx.cells m1; obtain ⟨q2_0, q2_1, q2_2, q2_3, q2_4, q2_5⟩ := Mbx.cells m2; obtain ⟨q3_0, q3_1, q3_2, q3_3, q3_4, q3_5⟩ := Mbx.cells m3; go_simp; try with_reducible rfl)
          try simp only [Act.put, List.setIfInBounds_toArray, List.set_cons_zero, List.set_cons_succ, List.getElem_toArray, List.getElem_cons_zero, List.getElem_cons_succ]
          refine wpAnyH_take (i := 15) (v := ?v15_40) rfl (by kernel_rfl) (by kernel_rfl) (by kernel_rfl) (fun _ _ _ h => h) (Or.inl ⟨by rfl, ?hy15_40⟩) (by assumption) ?rest15_40
          case hy15_40 => (intro w9 hSw; clear hSw; go_simp; try with_reducible rfl)
          try simp only [Act.put, List.setIfInBounds_toArray, List.set_cons_zero, List.set_cons_succ, List.getElem_toArray, List.getElem_cons_zero, List.getElem_cons_succ]
          refine wpAnyH_take (i := 17) (v := ?v17_41) rfl (by kernel_rfl) (by kernel_rfl) (by kernel_rfl) (fun _ _ _ h => h) (Or.inl ⟨by rfl, ?hy17_41⟩) (by assumption) ?rest17_41
          case hy17_41 => (intro w9 hSw; obtain ⟨m0, m1, m2, m3⟩ := hSw; obtain ⟨q0_0, q0_1, q0_2, q0_3, q0_4, q0_5⟩ := Mbx.cells m0; obtain ⟨q1_0, q1_1, q1_2, q1_3, q1_4, q1_5⟩ := Mbx.cells m1; obtain ⟨q2_0, q2_1, q2_2, q2_3, q2_4, q2_5⟩ := Mbx.cells m2; obtain ⟨q3_0, q3_1, q3_2, q3_3, q3_4, q3_5⟩ := Mbx.cells m3; go_simp; try with_reducible rfl)
          try simp only [Act.put, List.setIfInBounds_toArray, List.set_cons_zero, List.set_cons_succ, List.getElem_toArray, List.getElem_cons_zero, List.getElem_cons_succ]
          refine wpAnyH_take (i := 18) (v := ?v18_42) rfl (by kernel_rfl) (by kernel_rfl) (by kernel_rfl) (fun _ _ _ h => h) (Or.inl ⟨by rfl, ?hy18_42⟩) (by assumption) ?rest18_42
          case hy18_42 => (intro w9 hSw; clear hSw; go_simp; try with_reducible rfl)
          try simp only [Act.put, List.setIfInBounds_toArray, List.set_cons_zero, List.set_cons_succ, List.getElem_toArray, List.getElem_cons_zero, List.getElem_cons_succ]
          refine wpAnyH_ready (rs := [12]) (by kernel_rfl) (by simp) ?_
          refine AllReadyH.cons rfl (fun K hK => ?_) AllReadyH.nil
          go_simp
          with_reducible refine (rAt_any (HH.out.on hG.bw) HN.out hm hq hlt hjq).mono ?_
          rintro e w3 ⟨rfl, hb⟩
          replace hG := hG.on hb
          replace bz := bz.trans (hb.mono bz.size)
          clear hb
          obtain ⟨lz, uz⟩ := HH.out.2.2.at_ (i * q + j)
          have bZ : (D l (i * q + j)).toNat ≤ 18446744073709551615 := by omega
          have HZ : Hid (af (D l (i * q + j)).toNat = ma l q i j) := Lib.hid rfl
          generalize (D l (i * q + j)).toNat = Z9 at *
          clear lz uz
          refine hK.out _ _ ⟨hG.bx _ (.head _), hG.bx _ (.tail _ (.head _)), hG.bx _ (.tail _ (.tail _ (.head _))), hG.bx _ (.tail _ (.tail _ (.tail _ (.tail _ (.head _)))))⟩ (fun hH => ?_)
          clear hK K hS
          have hS := hH
          clear hH
          try simp only [Act.put, List.setIfInBounds_toArray, List.set_cons_zero, List.set_cons_succ, List.getElem_toArray, List.getElem_cons_zero, List.getElem_cons_succ]
          refine wpAnyH_ready (rs := [16]) (by kernel_rfl) (by simp) ?_
          refine AllReadyH.cons rfl (fun K hK => ?_) AllReadyH.nil
          go_simp
          with_reducible refine (rRow_any (HM.out.on hG.bw) HNM.out hm hp hlt).mono ?_
          rintro e w4 ⟨A5, c5, rfl, hR, hb⟩
          replace hG := hG.on hb
          replace bz := bz.trans (hb.mono bz.size)
          clear hb
          refine hK.out _ _ ⟨hG.bx _ (.head _), hG.bx _ (.tail _ (.head _)), hG.bx _ (.tail _ (.tail _ (.head _))), hG.bx _ (.tail _ (.tail _ (.tail _ (.tail _ (.head _)))))⟩ (fun hH => ?_)
          clear hK K hS
          have hS := hH
          clear hH
          try simp only [Act.put, List.setIfInBounds_toArray, List.set_cons_zero, List.set_cons_succ, List.getElem_toArray, List.getElem_cons_zero, List.getElem_cons_succ]
          refine wpAnyH_ready (rs := [19]) (by kernel_rfl) (by simp) ?_
          refine AllReadyH.cons rfl (fun K hK => ?_) AllReadyH.nil
          go_simp
          with_reducible refine (rCol_any (HL.out.on hG.bw) HNL.out hp hq hjq).mono ?_
          rintro e w5 ⟨A6, c6, L6, rfl, hI, ho6, hb⟩
          replace hG := hG.on hb
          replace hR := hR.on hb
          replace bz := bz.trans (hb.mono bz.size)
          clear hb
          have hR6 := hI.fl ho6
          refine hK.out _ _ ⟨hG.bx _ (.head _), hG.bx _ (.tail _ (.head _)), hG.bx _ (.tail _ (.tail _ (.head _))), hG.bx _ (.tail _ (.tail _ (.tail _ (.tail _ (.head _)))))⟩ (fun hH => ?_)
          clear hK K hS
          have hS := hH
          clear hH
          try simp only [Act.put, List.setIfInBounds_toArray, List.set_cons_zero, List.set_cons_succ, List.getElem_toArray, List.getElem_cons_zero, List.getElem_cons_succ]
          refine wpAnyH_ready (rs := [20]) (by kernel_rfl) (by simp) ?_
          refine AllReadyH.cons rfl (fun K hK => ?_) AllReadyH.nil
          go_simp
          with_reducible refine (rDot_any hR hR6 (Nat.le_refl _)).mono ?_
          rintro e w6 ⟨r1, rfl, h1, b1, d1⟩
          replace hG := hG.on d1.below
          replace hR := hR.on d1.below
          replace hR6 := hR6.on d1.below
          replace bz := bz.trans (d1.below.mono bz.size)
          rw [dot_rows hI] at h1
          have H1 := Lib.hid h1
          clear h1 d1 hR hR6 ho6 hI
          refine hK.out _ _ ⟨hG.bx _ (.head _), hG.bx _ (.tail _ (.head _)), hG.bx _ (.tail _ (.tail _ (.head _))), hG.bx _ (.tail _ (.tail _ (.tail _ (.tail _ (.head _)))))⟩ (fun hH => ?_)
          clear hK K hS
          have hS := hH
          clear hH
          try simp only [Act.put, List.setIfInBounds_toArray, List.set_cons_zero, List.set_cons_succ, List.getElem_toArray, List.getElem_cons_zero, List.getElem_cons_succ]
          refine wpAnyH_ready (rs := [21]) (by kernel_rfl) (by simp) ?_
          refine AllReadyH.cons rfl (fun K hK => ?_) AllReadyH.nil
          go_simp
          with_reducible refine (rBoth_any bb bZ ba b1 _).mono ?_
          rintro e w7 ⟨r2, rfl, h2, b2, d2⟩
          replace hG := hG.on d2.below
          replace bz := bz.trans (d2.below.mono bz.size)
          have HR : Hid (af r2 = f i j) := Lib.hid (by rw [h2, H1.out, HZ.out]; exact Hf.out i j)
          clear h2 d2 H1 HZ
          refine hK.out _ _ ⟨hG.bx _ (.head _), hG.bx _ (.tail _ (.head _)), hG.bx _ (.tail _ (.tail _ (.head _))), hG.bx _ (.tail _ (.tail _ (.tail _ (.tail _ (.head _)))))⟩ (fun hH => ?_)
          clear hK K hS
          have hS := hH
          clear hH
          try simp only [Act.put, List.setIfInBounds_toArray, List.set_cons_zero, List.set_cons_succ, List.getElem_toArray, List.getElem_cons_zero, List.getElem_cons_succ]
          refine wpAnyH_take (i := 22) (v := ?v22_43) rfl (by kernel_rfl) (by kernel_rfl) (by kernel_rfl) (fun _ _ _ h => h) (Or.inl ⟨by rfl, ?hy22_43⟩) (by assumption) ?rest22_43
          case hy22_43 => (intro w9 hSw; clear hSw; go_simp; try with_reducible rfl)
          try simp only [Act.put, List.setIfInBounds_toArray, List.set_cons_zero, List.set_cons_succ, List.getElem_toArray, List.getElem_cons_zero, List.getElem_cons_succ]
          obtain ⟨hc5, hf5⟩ := hG.cell hKl
          refine wpAnyH_ready (rs := [23]) (by kernel_rfl) (by simp) ?_
          refine AllReadyH.cons rfl (fun K hK => ?_) AllReadyH.nil
          go_simp
          replace hG := hG.set (Q := fun a b => decide (a < i ∨ (a = i ∧ b < (j + 1)))) HK.out hlt hjq (r := r2) HR.out b2 (fun a b h1 h2 => by simp only [← Bool.decide_or, decide_eq_decide]; omega)
          replace hKl : Kp < (L.set Kp (r2 : Int)).length := by rw [List.length_set]; exact hKl
          clear bz
          have bz := Below.refl w.heap.size w
          refine hK.out _ _ ⟨hG.bx _ (.head _), hG.bx _ (.tail _ (.head _)), hG.bx _ (.tail _ (.tail _ (.head _))), hG.bx _ (.tail _ (.tail _ (.tail _ (.tail _ (.head _)))))⟩ (fun hH => ?_)
          clear hK K hS
          have hS := hH
          clear hH
          try simp only [Act.put, List.setIfInBounds_toArray, List.set_cons_zero, List.set_cons_succ, List.getElem_toArray, List.getElem_cons_zero, List.getElem_cons_succ]
          refine wpAnyH_done (by kernel_rfl) ?_ _
          go_wp2_with fail
          go_roundw
          case rel => exact ⟨j + 1, _, by omega, by go_num, hG⟩
          case measure => simp [intOf]; omega
        · have hG9 := hG.congr (Q := fun a b => decide (a < (i + 1) ∨ (a = (i + 1) ∧ b < 0))) (fun a b h1 h2 => by simp only [decide_eq_decide]; omega)
          go_wp2_with fail
          go_roundw
          case rel => exact ⟨i + 1, L, by omega, by go_num, hG9⟩
          case measure => simp [intOf]; omega
    · obtain rfl : i = m := by omega
      go_wp2_with fail
      refine bodyPost_ret (v := mV i q A2 n c2) (by simp [results, Try.results44, go_sem, *]) rfl ?_
      exact ⟨A2, c2, L, rfl, by rw [HN.out]; exact (hG.mr.congr (fun a b h1 h2 => by simp <;> omega)).is, by first | exact hG.own.less (by omega) | exact (hG.own.grown_ (set3_grown _ _ _ _ _) (fun a e e2 => by injection e2 with e3; exact hG.ne _ (.tail _ (.tail _ (.tail _ (.head _)))) a e e3.symm)).less (by omega), by first | exact hG.bw | exact hG.bw.grown (set3_grown _ _ _ _ _) hG.bw.size (fun k e => by cases e; omega)⟩
set_option maxRecDepth 100000 in
set_option maxHeartbeats 8000000 in
theorem rSyr2k_any {a b p nm cm nn cn : Nat} {Am An : Option Addr} {lm ln : List Int} (ba : a ≤ 18446744073709551615) (bb : b ≤ 18446744073709551615) (h : FL w A n c l) (hn : n = m * q) (hm : m ≤ 512) (hq : q ≤ 512) (hM : FL w Am nm cm lm) (hnm : nm = m * p) (hp : p ≤ 512) (hL : FL w An nn cn ln) (hnn : nn = m * p) (hq1 : q ≤ m) (hq2 : m ≤ q) :
    Calls Try.prog 46 #[.float .f64 a, mV m p Am nm cm, mV m p An nn cn, .float .f64 b, mV m q A n c] w (NewMt w m q n (tg (fun a b => decide (b ≤ a)) (fun i j => bothA (af b) (ma l q i j) (af a) (aop .add (sumA (fun t => aop .mul (ma lm p i t) (ma ln p j t)) p) (sumA (fun t => aop .mul (ma ln p i t) (ma lm p j t)) p))) l q)) := by
  obtain ⟨f, hf⟩ : ∃ f : Nat → Nat → Option Nat, (fun i j => bothA (af b) (ma l q i j) (af a) (aop .add (sumA (fun t => aop .mul (ma lm p i t) (ma ln p j t)) p) (sumA (fun t => aop .mul (ma ln p i t) (ma lm p j t)) p))) = f := ⟨_, rfl⟩
  have Hf := Lib.hid (show ∀ i j, bothA (af b) (ma l q i j) (af a) (aop .add (sumA (fun t => aop .mul (ma lm p i t) (ma ln p j t)) p) (sumA (fun t => aop .mul (ma ln p i t) (ma lm p j t)) p)) = f i j from fun i j => by rw [← hf])
  rw [hf]
  clear hf
  have hn4 : n ≤ 262144 := by rw [hn]; exact Nat.le_trans (Nat.mul_le_mul hm hq) (by omega)
  have HH := Lib.hid h
  have HN := Lib.hid hn
  clear h hn
  have HM := Lib.hid hM
  have HL := Lib.hid hL
  have HNM := Lib.hid hnm
  have HNL := Lib.hid hnn
  clear hM hL hnm hnn
  have D0 := Blk.new w [.int .i64 m, .int .i64 p, .slice Am nm cm] 24
  have D1 := Blk.new (w.alloc (.cells #[.int .i64 m, .int .i64 p, .slice Am nm cm] 24)) [.int .i64 m, .int .i64 p, .slice An nn cn] 24
  replace D0 := D0.alloc (.cells #[.int .i64 m, .int .i64 p, .slice An nn cn] 24)
  simp only [World.size_alloc] at D1
  have D2 := Blk.new ((w.alloc (.cells #[.int .i64 m, .int .i64 p, .slice Am nm cm] 24)).alloc (.cells #[.int .i64 m, .int .i64 p, .slice An nn cn] 24)) [.int .i64 m, .int .i64 q, .slice A n c] 24
  replace D0 := D0.alloc (.cells #[.int .i64 m, .int .i64 q, .slice A n c] 24)
  replace D1 := D1.alloc (.cells #[.int .i64 m, .int .i64 q, .slice A n c] 24)
  simp only [World.size_alloc] at D2
  have D3 := Blk.new (((w.alloc (.cells #[.int .i64 m, .int .i64 p, .slice Am nm cm] 24)).alloc (.cells #[.int .i64 m, .int .i64 p, .slice An nn cn] 24)).alloc (.cells #[.int .i64 m, .int .i64 q, .slice A n c] 24)) [.int .i64 0, .int .i64 0, .slice none 0 0] 24
  replace D0 := D0.alloc (.cells #[.int .i64 0, .int .i64 0, .slice none 0 0] 24)
  replace D1 := D1.alloc (.cells #[.int .i64 0, .int .i64 0, .slice none 0 0] 24)
  replace D2 := D2.alloc (.cells #[.int .i64 0, .int .i64 0, .slice none 0 0] 24)
  simp only [World.size_alloc] at D3
  have bw := ((((Below.refl _ w).alloc (Nat.le_refl _) (.cells #[.int .i64 m, .int .i64 p, .slice Am nm cm] 24)).alloc (by simp <;> omega) (.cells #[.int .i64 m, .int .i64 p, .slice An nn cn] 24)).alloc (by simp <;> omega) (.cells #[.int .i64 m, .int .i64 q, .slice A n c] 24)).alloc (by simp <;> omega) (.cells #[.int .i64 0, .int .i64 0, .slice none 0 0] 24)
  have hsz : ((((w.alloc (.cells #[.int .i64 m, .int .i64 p, .slice Am nm cm] 24)).alloc (.cells #[.int .i64 m, .int .i64 p, .slice An nn cn] 24)).alloc (.cells #[.int .i64 m, .int .i64 q, .slice A n c] 24)).alloc (.cells #[.int .i64 0, .int .i64 0, .slice none 0 0] 24)).heap.size = w.heap.size + 4 := by simp
  obtain ⟨d0_0, d0_1, d0_2, d0_f0, d0_f1, d0_f2⟩ := Mbx.cells D0
  obtain ⟨d1_0, d1_1, d1_2, d1_f0, d1_f1, d1_f2⟩ := Mbx.cells D1
  obtain ⟨d2_0, d2_1, d2_2, d2_f0, d2_f1, d2_f2⟩ := Mbx.cells D2
  have pc := rCopy_any (m := m) (q := q) (HH.out.on bw) hn4
  go_enter Try.func46, Try.ntmps46
  go_wp2_with fail
  with_reducible refine pc.mono ?_
  rintro e w1 ⟨A2, c2, rfl, ho, hb⟩
  clear pc
  clear d0_0 d0_1 d0_2 d0_f0 d0_f1 d0_f2
  clear d1_0 d1_1 d1_2 d1_f0 d1_f1 d1_f2
  clear d2_0 d2_1 d2_2 d2_f0 d2_f1 d2_f2
  have hA2 : ∀ a, A2 = some a → w.heap.size + 4 ≤ a.block ∧ a.block < w1.heap.size := fun a e => by have := ho.gt e; rw [hsz] at this; exact this
  have hs1 := hb.size
  rw [hsz] at hs1
  replace D0 := (D0.on hb).alloc (.cells #[.int .i64 m, .int .i64 q, .slice A2 n c2] 24)
  replace D1 := (D1.on hb).alloc (.cells #[.int .i64 m, .int .i64 q, .slice A2 n c2] 24)
  replace D2 := (D2.on hb).alloc (.cells #[.int .i64 m, .int .i64 q, .slice A2 n c2] 24)
  replace D3 := (D3.on hb).alloc (.cells #[.int .i64 m, .int .i64 q, .slice A2 n c2] 24)
  have DO := Blk.new w1 [.int .i64 m, .int .i64 q, .slice A2 n c2] 24
  replace bw := (bw.trans (hb.mono bw.size)).alloc (by omega) (.cells #[.int .i64 m, .int .i64 q, .slice A2 n c2] 24)
  have hG : Gs w (w.heap.size + 4) [(w.heap.size, [.int .i64 m, .int .i64 p, .slice Am nm cm]), (w.heap.size + 1, [.int .i64 m, .int .i64 p, .slice An nn cn]), (w.heap.size + 2, [.int .i64 m, .int .i64 q, .slice A n c]), (w.heap.size + 3, [.int .i64 0, .int .i64 0, .slice none 0 0]), (w1.heap.size, [.int .i64 m, .int .i64 q, .slice A2 n c2])] m q A2 c2 l l (fun a b => decide ((a < 0 ∨ (a = 0 ∧ b < 0)) ∧ b ≤ a)) f (w1.alloc (.cells #[.int .i64 m, .int .i64 q, .slice A2 n c2] 24)) := {
    mr := Mr.start (by rw [← HN.out]; exact HH.out.1) HH.out.2.2 (fun a b h1 h2 => by simp <;> omega)
    own := ((ho.less (by rw [hsz]; exact Nat.le_refl _)).alloc_ _)
    bx := by intro b hb9; simp only [List.mem_cons, List.mem_nil_iff, or_false] at hb9; rcases hb9 with rfl | rfl | rfl | rfl | rfl
             · exact D0
             · exact D1
             · exact D2
             · exact D3
             · exact DO
    ne := by intro b hb9 a ea; have := hA2 a ea; simp only [List.mem_cons, List.mem_nil_iff, or_false] at hb9; rcases hb9 with rfl | rfl | rfl | rfl | rfl <;> simp <;> omega
    bw := bw
    lo := by omega }
  clear hA2 hs1 hsz bw hb ho D0 D1 D2 D3
  obtain ⟨dO_0, dO_1, dO_2, dO_f0, dO_f1, dO_f2⟩ := Mbx.cells DO
  have D0 : Blk (w1.alloc (.cells #[.int .i64 m, .int .i64 q, .slice A2 n c2] 24)) (w.heap.size) [.int .i64 m, .int .i64 p, .slice Am nm cm] := hG.bx _ (.head _)
  have D1 : Blk (w1.alloc (.cells #[.int .i64 m, .int .i64 q, .slice A2 n c2] 24)) (w.heap.size + 1) [.int .i64 m, .int .i64 p, .slice An nn cn] := hG.bx _ (.tail _ (.head _))
  have D2 : Blk (w1.alloc (.cells #[.int .i64 m, .int .i64 q, .slice A2 n c2] 24)) (w.heap.size + 2) [.int .i64 m, .int .i64 q, .slice A n c] := hG.bx _ (.tail _ (.tail _ (.head _)))
  obtain ⟨d0_0, d0_1, d0_2, d0_f0, d0_f1, d0_f2⟩ := Mbx.cells D0
  obtain ⟨d1_0, d1_1, d1_2, d1_f0, d1_f1, d1_f2⟩ := Mbx.cells D1
  obtain ⟨d2_0, d2_1, d2_2, d2_f0, d2_f1, d2_f2⟩ := Mbx.cells D2
  go_wp2_with fail
  obtain ⟨HO, hHO⟩ : ∃ HO, w1.heap.size = HO := ⟨_, rfl⟩
  clear d0_0 d0_1 d0_2 d0_f0 d0_f1 d0_f2
  clear d1_0 d1_1 d1_2 d1_f0 d1_f1 d1_f2
  clear d2_0 d2_1 d2_2 d2_f0 d2_f1 d2_f2
  clear dO_0 dO_1 dO_2 dO_f0 dO_f1 dO_f2
  clear DO D0 D1 D2
  simp only [hHO] at hG ⊢
  clear hHO
  go_loopw [12] (fun i wr => ∃ (k : Nat) (L : List Int), k ≤ m ∧ i = .int .i64 k ∧ Gs w (w.heap.size + 4) [(w.heap.size, [.int .i64 m, .int .i64 p, .slice Am nm cm]), (w.heap.size + 1, [.int .i64 m, .int .i64 p, .slice An nn cn]), (w.heap.size + 2, [.int .i64 m, .int .i64 q, .slice A n c]), (w.heap.size + 3, [.int .i64 0, .int .i64 0, .slice none 0 0]), (HO, [.int .i64 m, .int .i64 q, .slice A2 n c2])] m q A2 c2 l L (fun a b => decide ((a < k ∨ (a = k ∧ b < 0)) ∧ b ≤ a)) f wr) (fun i _ => m - (intOf i).toNat)
  case atStart => exact ⟨0, l, Nat.zero_le _, rfl, hG.congr (fun a b h1 h2 => by rfl)⟩
  case round =>
    clear hG
    obtain ⟨i, L, hi, rfl, hG⟩ := hrel
    have D0 : Blk wr (w.heap.size) [.int .i64 m, .int .i64 p, .slice Am nm cm] := hG.bx _ (.head _)
    have D1 : Blk wr (w.heap.size + 1) [.int .i64 m, .int .i64 p, .slice An nn cn] := hG.bx _ (.tail _ (.head _))
    have D2 : Blk wr (w.heap.size + 2) [.int .i64 m, .int .i64 q, .slice A n c] := hG.bx _ (.tail _ (.tail _ (.head _)))
    have DZ : Blk wr (w.heap.size + 3) [.int .i64 0, .int .i64 0, .slice none 0 0] := hG.bx _ (.tail _ (.tail _ (.tail _ (.head _))))
    have DO : Blk wr HO [.int .i64 m, .int .i64 q, .slice A2 n c2] := hG.bx _ (.tail _ (.tail _ (.tail _ (.tail _ (.head _)))))
    obtain ⟨d0_0, d0_1, d0_2, d0_f0, d0_f1, d0_f2⟩ := Mbx.cells D0
    obtain ⟨d1_0, d1_1, d1_2, d1_f0, d1_f1, d1_f2⟩ := Mbx.cells D1
    obtain ⟨d2_0, d2_1, d2_2, d2_f0, d2_f1, d2_f2⟩ := Mbx.cells D2
    obtain ⟨dO_0, dO_1, dO_2, dO_f0, dO_f1, dO_f2⟩ := Mbx.cells DO
    obtain ⟨dz_0, dz_1, dz_2, dz_f0, dz_f1, dz_f2⟩ := Mbx.cells DZ
    by_cases hlt : i < m
    · have i0 : (0 : Int) ≤ i := by omega
      have i1 : (i : Int) < m := by omega
      go_wp2_with fail
      clear d0_0 d0_1 d0_2 d0_f0 d0_f1 d0_f2
      clear d1_0 d1_1 d1_2 d1_f0 d1_f1 d1_f2
      clear d2_0 d2_1 d2_2 d2_f0 d2_f1 d2_f2
      clear dO_0 dO_1 dO_2 dO_f0 dO_f1 dO_f2
      clear dz_0 dz_1 dz_2 dz_f0 dz_f1 dz_f2
      clear DO DZ D0 D1 D2
      go_loopw [13] (fun j wr => ∃ (jj : Nat) (L : List Int), jj ≤ i + 1 ∧ j = .int .i64 jj ∧ Gs w (w.heap.size + 4) [(w.heap.size, [.int .i64 m, .int .i64 p, .slice Am nm cm]), (w.heap.size + 1, [.int .i64 m, .int .i64 p, .slice An nn cn]), (w.heap.size + 2, [.int .i64 m, .int .i64 q, .slice A n c]), (w.heap.size + 3, [.int .i64 0, .int .i64 0, .slice none 0 0]), (HO, [.int .i64 m, .int .i64 q, .slice A2 n c2])] m q A2 c2 l L (fun a b => decide ((a < i ∨ (a = i ∧ b < jj)) ∧ b ≤ a)) f wr) (fun j _ => (i + 1) - (intOf j).toNat)
      case atStart => exact ⟨0, L, by omega, by go_num, hG⟩
      case round =>
        clear hG
        obtain ⟨j, L, hj, rfl, hG⟩ := hrel
        have D0 : Blk wr (w.heap.size) [.int .i64 m, .int .i64 p, .slice Am nm cm] := hG.bx _ (.head _)
        have D1 : Blk wr (w.heap.size + 1) [.int .i64 m, .int .i64 p, .slice An nn cn] := hG.bx _ (.tail _ (.head _))
        have D2 : Blk wr (w.heap.size + 2) [.int .i64 m, .int .i64 q, .slice A n c] := hG.bx _ (.tail _ (.tail _ (.head _)))
        have DZ : Blk wr (w.heap.size + 3) [.int .i64 0, .int .i64 0, .slice none 0 0] := hG.bx _ (.tail _ (.tail _ (.tail _ (.head _))))
        have DO : Blk wr HO [.int .i64 m, .int .i64 q, .slice A2 n c2] := hG.bx _ (.tail _ (.tail _ (.tail _ (.tail _ (.head _)))))
        obtain ⟨d0_0, d0_1, d0_2, d0_f0, d0_f1, d0_f2⟩ := Mbx.cells D0
        obtain ⟨d1_0, d1_1, d1_2, d1_f0, d1_f1, d1_f2⟩ := Mbx.cells D1
        obtain ⟨d2_0, d2_1, d2_2, d2_f0, d2_f1, d2_f2⟩ := Mbx.cells D2
        obtain ⟨dO_0, dO_1, dO_2, dO_f0, dO_f1, dO_f2⟩ := Mbx.cells DO
        obtain ⟨dz_0, dz_1, dz_2, dz_f0, dz_f1, dz_f2⟩ := Mbx.cells DZ
        by_cases hjt : j ≤ i
        · have j0 : (0 : Int) ≤ j := by omega
          have j1 : (j : Int) < m := by omega
          have j2 : (j : Int) ≤ i := by omega
          have hjm : j < m := by omega
          have hjq : j < q := by omega
          have hKl := ix_lt hlt hjq
          rw [← hG.mr.len] at hKl
          have hX2 : i * q ≤ 512 * 512 := Nat.mul_le_mul (by omega) hq
          obtain ⟨X, hX⟩ : ∃ X, i * q = X := ⟨_, rfl⟩
          have hXi : (i : Int) * (q : Int) = (X : Int) := by exact_mod_cast hX
          obtain ⟨Kp, hKp⟩ : ∃ Kp, X + j = Kp := ⟨_, rfl⟩
          have hKi : (X : Int) + (j : Int) = (Kp : Int) := by exact_mod_cast hKp
          have HK := Lib.hid (show i * q + j = Kp by rw [hX, hKp])
          rw [hX, hKp] at hKl
          rw [hX] at hX2
          have hKn : Kp < n := by rw [HN.out, ← hG.mr.len]; exact hKl
          obtain ⟨g5, hA5, _, _⟩ := hG.own.at_ hKl
          subst hA5
          have k0 : (0 : Int) ≤ Kp := by omega
          have k1 : (Kp : Int) < n := by omega
          have v1 : IntKind.i64.wrap (X : Int) = X := by rw [IntKind.wrap_i64]; omega
          have v2 : IntKind.i64.wrap (Kp : Int) = Kp := by rw [IntKind.wrap_i64]; omega
          clear hX hKp
          go_wp2_with fail
          clear d0_0 d0_1 d0_2 d0_f0 d0_f1 d0_f2
          clear d1_0 d1_1 d1_2 d1_f0 d1_f1 d1_f2
          clear d2_0 d2_1 d2_2 d2_f0 d2_f1 d2_f2
          clear dO_0 dO_1 dO_2 dO_f0 dO_f1 dO_f2
          clear dz_0 dz_1 dz_2 dz_f0 dz_f1 dz_f2
          clear DO DZ D0 D1 D2
          replace hG := hG.on (Below.refl _ _).drew
          have bz := Below.refl wr.drew.heap.size wr.drew
          refine wp_region_held_drew (S := fun w9 : World => Mbx w9 w.heap.size m p Am nm cm ∧ Mbx w9 (w.heap.size + 1) m p An nn cn ∧ Mbx w9 (w.heap.size + 2) m q A n c ∧ Mbx w9 HO m q (some ⟨g5, 0, none⟩) n c2) (by kernel_rfl) ⟨hG.bx _ (.head _), hG.bx _ (.tail _ (.head _)), hG.bx _ (.tail _ (.tail _ (.head _))), hG.bx _ (.tail _ (.tail _ (.tail _ (.tail _ (.head _)))))⟩ (fun hS => ?_)
          generalize wr.drew = wd8 at hS hG  bz ⊢
          refine wpAnyH_take (i := 0) (v := ?v0_44) rfl (by kernel_rfl) (by kernel_rfl) (by kernel_rfl) (fun _ _ _ h => h) (Or.inl ⟨by rfl, ?hy0_44⟩) (by assumption) ?rest0_44
          case hy0_44 => (intro w9 hSw; obtain ⟨m0, m1, m2, m3⟩ := hSw; obtain ⟨q0_0, q0_1, q0_2, q0_3, q0_4, q0_5⟩ := Mbx.cells m0; obtain ⟨q1_0, q1_1, q1_2, q1_3, q1_4, q1_5⟩ := Mbx.cells m1; obtain ⟨q2_0, q2_1, q2_2, q2_3, q2_4, q2_5⟩ := Mbx.cells m2; obtain ⟨q3_0, q3_1, q3_2, q3_3, q3_4, q3_5⟩ := Mbx.cells m3; go_simp; try with_reducible rfl)
          try simp only [Act.put, List.setIfInBounds_toArray, List.set_cons_zero, List.set_cons_succ, List.getElem_toArray, List.getElem_cons_zero, List.getElem_cons_succ]
          refine wpAnyH_take (i := 1) (v := ?v1_45) rfl (by kernel_rfl) (by kernel_rfl) (by kernel_rfl) (fun _ _ _ h => h) (Or.inl ⟨by rfl, ?hy1_45⟩) (by assumption) ?rest1_45
          case hy1_45 => (intro w9 hSw; clear hSw; go_simp; try with_reducible rfl)
          try simp only [Act.put, List.setIfInBounds_toArray, List.set_cons_zero, List.set_cons_succ, List.getElem_toArray, List.getElem_cons_zero, List.getElem_cons_succ]
          refine wpAnyH_take (i := 3) (v := ?v3_46) rfl (by kernel_rfl) (by kernel_rfl) (by kernel_rfl) (fun _ _ _ h => h) (Or.inl ⟨by rfl, ?hy3_46⟩) (by assumption) ?rest3_46
          case hy3_46 => (intro w9 hSw; obtain ⟨m0, m1, m2, m3⟩ := hSw; obtain ⟨q0_0, q0_1, q0_2, q0_3, q0_4, q0_5⟩ := Mbx.cells m0; obtain ⟨q1_0, q1_1, q1_2, q1_3, q1_4, q1_5⟩ := Mbx.cells m1; obtain ⟨q2_0, q2_1, q2_2, q2_3, q2_4, q2_5⟩ := Mbx.cells m2; obtain ⟨q3_0, q3_1, q3_2, q3_3, q3_4, q3_5⟩ := Mbx.cells m3; go_simp; try with_reducible rfl)
          try simp only [Act.put, List.setIfInBounds_toArray, List.set_cons_zero, List.set_cons_succ, List.getElem_toArray, List.getElem_cons_zero, List.getElem_cons_succ]
          refine wpAnyH_take (i := 4) (v := ?v4_47) rfl (by kernel_rfl) (by kernel_rfl) (by kernel_rfl) (fun _ _ _ h => h) (Or.inl ⟨by rfl, ?hy4_47⟩) (by assumption) ?rest4_47
          case hy4_47 => (intro w9 hSw; clear hSw; go_simp; try with_reducible rfl)
          try simp only [Act.put, List.setIfInBounds_toArray, List.set_cons_zero, List.set_cons_succ, List.getElem_toArray, List.getElem_cons_zero, List.getElem_cons_succ]
          refine wpAnyH_ready (rs := [2]) (by kernel_rfl) (by simp) ?_
          refine AllReadyH.cons rfl (fun K hK => ?_) AllReadyH.nil
          go_simp
          with_reducible refine (rRow_any (HM.out.on hG.bw) HNM.out hm hp hlt).mono ?_
          rintro e w3 ⟨A5, c5, rfl, hR, hb⟩
          replace hG := hG.on hb
          replace bz := bz.trans (hb.mono bz.size)
          clear hb
          refine hK.out _ _ ⟨hG.bx _ (.head _), hG.bx _ (.tail _ (.head _)), hG.bx _ (.tail _ (.tail _ (.head _))), hG.bx _ (.tail _ (.tail _ (.tail _ (.tail _ (.head _)))))⟩ (fun hH => ?_)
          clear hK K hS
          have hS := hH
          clear hH
          try simp only [Act.put, List.setIfInBounds_toArray, List.set_cons_zero, List.set_cons_succ, List.getElem_toArray, List.getElem_cons_zero, List.getElem_cons_succ]
          refine wpAnyH_ready (rs := [5]) (by kernel_rfl) (by simp) ?_
          refine AllReadyH.cons rfl (fun K hK => ?_) AllReadyH.nil
          go_simp
          with_reducible refine (rRow_any (HL.out.on hG.bw) HNL.out hm hp hjm).mono ?_
          rintro e w4 ⟨A6, c6, rfl, hR6, hb⟩
          replace hG := hG.on hb
          replace hR := hR.on hb
          replace bz := bz.trans (hb.mono bz.size)
          clear hb
          refine hK.out _ _ ⟨hG.bx _ (.head _), hG.bx _ (.tail _ (.head _)), hG.bx _ (.tail _ (.tail _ (.head _))), hG.bx _ (.tail _ (.tail _ (.tail _ (.tail _ (.head _)))))⟩ (fun hH => ?_)
          clear hK K hS
          have hS := hH
          clear hH
          try simp only [Act.put, List.setIfInBounds_toArray, List.set_cons_zero, List.set_cons_succ, List.getElem_toArray, List.getElem_cons_zero, List.getElem_cons_succ]
          refine wpAnyH_ready (rs := [6]) (by kernel_rfl) (by simp) ?_
          refine AllReadyH.cons rfl (fun K hK => ?_) AllReadyH.nil
          go_simp
          with_reducible refine (rDot_any hR hR6 (Nat.le_refl _)).mono ?_
          rintro e w5 ⟨r1, rfl, h1, br1, d1⟩
          replace hG := hG.on d1.below
          replace hR := hR.on d1.below
          replace hR6 := hR6.on d1.below
          replace bz := bz.trans (d1.below.mono bz.size)
          rw [dot_two] at h1
          have Hr1 := Lib.hid h1
          clear h1 d1 hR hR6
          refine hK.out _ _ ⟨hG.bx _ (.head _), hG.bx _ (.tail _ (.head _)), hG.bx _ (.tail _ (.tail _ (.head _))), hG.bx _ (.tail _ (.tail _ (.tail _ (.tail _ (.head _)))))⟩ (fun hH => ?_)
          clear hK K hS
          have hS := hH
          clear hH
          try simp only [Act.put, List.setIfInBounds_toArray, List.set_cons_zero, List.set_cons_succ, List.getElem_toArray, List.getElem_cons_zero, List.getElem_cons_succ]
          refine wpAnyH_take (i := 7) (v := ?v7_48) rfl (by kernel_rfl) (by kernel_rfl) (by kernel_rfl) (fun _ _ _ h => h) (Or.inl ⟨by rfl, ?hy7_48⟩) (by assumption) ?rest7_48
          case hy7_48 => (intro w9 hSw; clear hSw; go_simp; try with_reducible rfl)
          try simp only [Act.put, List.setIfInBounds_toArray, List.set_cons_zero, List.set_cons_succ, List.getElem_toArray, List.getElem_cons_zero, List.getElem_cons_succ]
          refine wpAnyH_done (by kernel_rfl) ?_ _
          go_wp2_with fail
          clear bz hS
          replace hG := hG.on (Below.refl _ _).drew
          have bz := Below.refl w5.drew.heap.size w5.drew
          refine wp_region_held_drew (S := fun w9 : World => Mbx w9 w.heap.size m p Am nm cm ∧ Mbx w9 (w.heap.size + 1) m p An nn cn ∧ Mbx w9 (w.heap.size + 2) m q A n c ∧ Mbx w9 HO m q (some ⟨g5, 0, none⟩) n c2) (by kernel_rfl) ⟨hG.bx _ (.head _), hG.bx _ (.tail _ (.head _)), hG.bx _ (.tail _ (.tail _ (.head _))), hG.bx _ (.tail _ (.tail _ (.tail _ (.tail _ (.head _)))))⟩ (fun hS => ?_)
          generalize w5.drew = wd9 at hS hG  bz ⊢
          refine wpAnyH_take (i := 0) (v := ?v0_49) rfl (by kernel_rfl) (by kernel_rfl) (by kernel_rfl) (fun _ _ _ h => h) (Or.inl ⟨by rfl, ?hy0_49⟩) (by assumption) ?rest0_49
          case hy0_49 => (intro w9 hSw; obtain ⟨m0, m1, m2, m3⟩ := hSw; obtain ⟨q0_0, q0_1, q0_2, q0_3, q0_4, q0_5⟩ := Mbx.cells m0; obtain ⟨q1_0, q1_1, q1_2, q1_3, q1_4, q1_5⟩ := Mbx.cells m1; obtain ⟨q2_0, q2_1, q2_2, q2_3, q2_4, q2_5⟩ := Mbx.cells m2; obtain ⟨q3_0, q3_1, q3_2, q3_3, q3_4, q3_5⟩ := Mbx.cells m3; go_simp; try with_reducible rfl)
          try simp only [Act.put, List.setIfInBounds_toArray, List.set_cons_zero, List.set_cons_succ, List.getElem_toArray, List.getElem_cons_zero, List.getElem_cons_succ]
          refine wpAnyH_take (i := 1) (v := ?v1_50) rfl (by kernel_rfl) (by kernel_rfl) (by kernel_rfl) (fun _ _ _ h => h) (Or.inl ⟨by rfl, ?hy1_50⟩) (by assumption) ?rest1_50
          case hy1_50 => (intro w9 hSw; clear hSw; go_simp; try with_reducible rfl)
          try simp only [Act.put, List.setIfInBounds_toArray, List.set_cons_zero, List.set_cons_succ, List.getElem_toArray, List.getElem_cons_zero, List.getElem_cons_succ]
          refine wpAnyH_take (i := 3) (v := ?v3_51) rfl (by kernel_rfl) (by kernel_rfl) (by kernel_rfl) (fun _ _ _ h => h) (Or.inl ⟨by rfl, ?hy3_51⟩) (by assumption) ?rest3_51
          case hy3_51 => (intro w9 hSw; obtain ⟨m0, m1, m2, m3⟩ := hSw; obtain ⟨q0_0, q0_1, q0_2, q0_3, q0_4, q0_5⟩ := Mbx.cells m0; obtain ⟨q1_0, q1_1, q1_2, q1_3, q1_4, q1_5⟩ := Mbx.cells m1; obtain ⟨q2_0, q2_1, q2_2, q2_3, q2_4, q2_5⟩ := Mbx.cells m2; obtain ⟨q3_0, q3_1, q3_2, q3_3, q3_4, q3_5⟩ := Mbx.cells m3; go_simp; try with_reducible rfl)
          try simp only [Act.put, List.setIfInBounds_toArray, List.set_cons_zero, List.set_cons_succ, List.getElem_toArray, List.getElem_cons_zero, List.getElem_cons_succ]
          refine wpAnyH_take (i := 4) (v := ?v4_52) rfl (by kernel_rfl) (by kernel_rfl) (by kernel_rfl) (fun _ _ _ h => h) (Or.inl ⟨by rfl, ?hy4_52⟩) (by assumption) ?rest4_52
          case hy4_52 => (intro w9 hSw; clear hSw; go_simp; try with_reducible rfl)
          try simp only [Act.put, List.setIfInBounds_toArray, List.set_cons_zero, List.set_cons_succ, List.getElem_toArray, List.getElem_cons_zero, List.getElem_cons_succ]
          refine wpAnyH_ready (rs := [2]) (by kernel_rfl) (by simp) ?_
          refine AllReadyH.cons rfl (fun K hK => ?_) AllReadyH.nil
          go_simp
          with_reducible refine (rRow_any (HL.out.on hG.bw) HNL.out hm hp hlt).mono ?_
          rintro e w6 ⟨A5, c5, rfl, hR, hb⟩
          replace hG := hG.on hb
          replace bz := bz.trans (hb.mono bz.size)
          clear hb
          refine hK.out _ _ ⟨hG.bx _ (.head _), hG.bx _ (.tail _ (.head _)), hG.bx _ (.tail _ (.tail _ (.head _))), hG.bx _ (.tail _ (.tail _ (.tail _ (.tail _ (.head _)))))⟩ (fun hH => ?_)
          clear hK K hS
          have hS := hH
          clear hH
          try simp only [Act.put, List.setIfInBounds_toArray, List.set_cons_zero, List.set_cons_succ, List.getElem_toArray, List.getElem_cons_zero, List.getElem_cons_succ]
          refine wpAnyH_ready (rs := [5]) (by kernel_rfl) (by simp) ?_
          refine AllReadyH.cons rfl (fun K hK => ?_) AllReadyH.nil
          go_simp
          with_reducible refine (rRow_any (HM.out.on hG.bw) HNM.out hm hp hjm).mono ?_
          rintro e w7 ⟨A6, c6, rfl, hR6, hb⟩
          replace hG := hG.on hb
          replace hR := hR.on hb
          replace bz := bz.trans (hb.mono bz.size)
          clear hb
          refine hK.out _ _ ⟨hG.bx _ (.head _), hG.bx _ (.tail _ (.head _)), hG.bx _ (.tail _ (.tail _ (.head _))), hG.bx _ (.tail _ (.tail _ (.tail _ (.tail _ (.head _)))))⟩ (fun hH => ?_)
          clear hK K hS
          have hS := hH
          clear hH
          try simp only [Act.put, List.setIfInBounds_toArray, List.set_cons_zero, List.set_cons_succ, List.getElem_toArray, List.getElem_cons_zero, List.getElem_cons_succ]
          refine wpAnyH_ready (rs := [6]) (by kernel_rfl) (by simp) ?_
          refine AllReadyH.cons rfl (fun K hK => ?_) AllReadyH.nil
          go_simp
          with_reducible refine (rDot_any hR hR6 (Nat.le_refl _)).mono ?_
          rintro e w8 ⟨r2, rfl, h1, br2, d1⟩
          replace hG := hG.on d1.below
          replace hR := hR.on d1.below
          replace hR6 := hR6.on d1.below
          replace bz := bz.trans (d1.below.mono bz.size)
          rw [dot_two] at h1
          have Hr2 := Lib.hid h1
          clear h1 d1 hR hR6
          refine hK.out _ _ ⟨hG.bx _ (.head _), hG.bx _ (.tail _ (.head _)), hG.bx _ (.tail _ (.tail _ (.head _))), hG.bx _ (.tail _ (.tail _ (.tail _ (.tail _ (.head _)))))⟩ (fun hH => ?_)
          clear hK K hS
          have hS := hH
          clear hH
          try simp only [Act.put, List.setIfInBounds_toArray, List.set_cons_zero, List.set_cons_succ, List.getElem_toArray, List.getElem_cons_zero, List.getElem_cons_succ]
          refine wpAnyH_take (i := 7) (v := ?v7_53) rfl (by kernel_rfl) (by kernel_rfl) (by kernel_rfl) (fun _ _ _ h => h) (Or.inl ⟨by rfl, ?hy7_53⟩) (by assumption) ?rest7_53
          case hy7_53 => (intro w9 hSw; clear hSw; go_simp; try with_reducible rfl)
          try simp only [Act.put, List.setIfInBounds_toArray, List.set_cons_zero, List.set_cons_succ, List.getElem_toArray, List.getElem_cons_zero, List.getElem_cons_succ]
          refine wpAnyH_done (by kernel_rfl) ?_ _
          go_wp2_with fail
          clear bz hS
          replace hG := hG.on (Below.refl _ _).drew
          have bz := Below.refl w8.drew.heap.size w8.drew
          refine wp_region_held_drew (S := fun w9 : World => Mbx w9 w.heap.size m p Am nm cm ∧ Mbx w9 (w.heap.size + 1) m p An nn cn ∧ Mbx w9 (w.heap.size + 2) m q A n c ∧ Mbx w9 HO m q (some ⟨g5, 0, none⟩) n c2) (by kernel_rfl) ⟨hG.bx _ (.head _), hG.bx _ (.tail _ (.head _)), hG.bx _ (.tail _ (.tail _ (.head _))), hG.bx _ (.tail _ (.tail _ (.tail _ (.tail _ (.head _)))))⟩ (fun hS => ?_)
          generalize w8.drew = wdA at hS hG  bz ⊢
          refine wpAnyH_take (i := 0) (v := ?v0_54) rfl (by kernel_rfl) (by kernel_rfl) (by kernel_rfl) (fun _ _ _ h => h) (Or.inl ⟨by rfl, ?hy0_54⟩) (by assumption) ?rest0_54
          case hy0_54 => (intro w9 hSw; clear hSw; go_simp; try with_reducible rfl)
          try simp only [Act.put, List.setIfInBounds_toArray, List.set_cons_zero, List.set_cons_succ, List.getElem_toArray, List.getElem_cons_zero, List.getElem_cons_succ]
          refine wpAnyH_take (i := 1) (v := ?v1_55) rfl (by kernel_rfl) (by kernel_rfl) (by kernel_rfl) (fun _ _ _ h => h) (Or.inl ⟨by rfl, ?hy1_55⟩) (by assumption) ?rest1_55
          case hy1_55 => (intro w9 hSw; obtain ⟨m0, m1, m2, m3⟩ := hSw; obtain ⟨q0_0, q0_1, q0_2, q0_3, q0_4, q0_5⟩ := Mbx.cells m0; obtain ⟨q1_0, q1_1, q1_2, q1_3, q1_4, q1_5⟩ := Mbx.cells m1; obtain ⟨q2_0, q2_1, q2_2, q2_3, q2_4, q2_5⟩ := Mbx.cells m2; obtain ⟨q3_0, q3_1, q3_2, q3_3, q3_4, q3_5⟩ := Mbx.cells m3; go_simp; try with_reducible rfl)
          try simp only [Act.put, List.setIfInBounds_toArray, List.set_cons_zero, List.set_cons_succ, List.getElem_toArray, List.getElem_cons_zero, List.getElem_cons_succ]
          refine wpAnyH_take (i := 2) (v := ?v2_56) rfl (by kernel_rfl) (by kernel_rfl) (by kernel_rfl) (fun _ _ _ h => h) (Or.inl ⟨by rfl, ?hy2_56⟩) (by assumption) ?rest2_56
          case hy2_56 => (intro w9 hSw; clear hSw; go_simp; try with_reducible rfl)
          try simp only [Act.put, List.setIfInBounds_toArray, List.set_cons_zero, List.set_cons_succ, List.getElem_toArray, List.getElem_cons_zero, List.getElem_cons_succ]
          refine wpAnyH_take (i := 3) (v := ?v3_57) rfl (by kernel_rfl) (by kernel_rfl) (by kernel_rfl) (fun _ _ _ h => h) (Or.inl ⟨by rfl, ?hy3_57⟩) (by assumption) ?rest3_57
          case hy3_57 => (intro w9 hSw; clear hSw; go_simp; try with_reducible rfl)
          try simp only [Act.put, List.setIfInBounds_toArray, List.set_cons_zero, List.set_cons_succ, List.getElem_toArray, List.getElem_cons_zero, List.getElem_cons_succ]
          refine wpAnyH_take (i := 4) (v := ?v4_58) rfl (by kernel_rfl) (by kernel_rfl) (by kernel_rfl) (fun _ _ _ h => h) (Or.inl ⟨by rfl, ?hy4_58⟩) (by assumption) ?rest4_58
          case hy4_58 => (intro w9 hSw; obtain ⟨m0, m1, m2, m3⟩ := hSw; obtain ⟨q0_0, q0_1, q0_2, q0_3, q0_4, q0_5⟩ := Mbx.cells m0; obtain ⟨q1_0, q1_1, q1_2, q1_3, q1_4, q1_5⟩ := Mbx.cells m1; obtain ⟨q2_0, q2_1, q2_2, q2_3, q2_4, q2_5⟩ := Mbx.cells m2; obtain ⟨q3_0, q3_1, q3_2, q3_3, q3_4, q3_5⟩ := Mbx.cells m3; go_simp; try with_reducible rfl)
          try simp only [Act.put, List.setIfInBounds_toArray, List.set_cons_zero, List.set_cons_succ, List.getElem_toArray, List.getElem_cons_zero, List.getElem_cons_succ]
          refine wpAnyH_take (i := 5) (v := ?v5_59) rfl (by kernel_rfl) (by kernel_rfl) (by kernel_rfl) (fun _ _ _ h => h) (Or.inl ⟨by rfl, ?hy5_59⟩) (by assumption) ?rest5_59
          case hy5_59 => (intro w9 hSw; clear hSw; go_simp; try with_reducible rfl)
          try simp only [Act.put, List.setIfInBounds_toArray, List.set_cons_zero, List.set_cons_succ, List.getElem_toArray, List.getElem_cons_zero, List.getElem_cons_succ]
          refine wpAnyH_take (i := 6) (v := ?v6_60) rfl (by kernel_rfl) (by kernel_rfl) (by kernel_rfl) (fun _ _ _ h => h) (Or.inl ⟨by rfl, ?hy6_60⟩) (by assumption) ?rest6_60
          case hy6_60 => (intro w9 hSw; clear hSw; go_simp; try with_reducible rfl)
          try simp only [Act.put, List.setIfInBounds_toArray, List.set_cons_zero, List.set_cons_succ, List.getElem_toArray, List.getElem_cons_zero, List.getElem_cons_succ]
          refine wpAnyH_take (i := 7) (v := ?v7_61) rfl (by kernel_rfl) (by kernel_rfl) (by kernel_rfl) (fun _ _ _ h => h) (Or.inl ⟨by rfl, ?hy7_61⟩) (by assumption) ?rest7_61
          case hy7_61 => (intro w9 hSw; clear hSw; go_simp; try with_reducible rfl)
          try simp only [Act.put, List.setIfInBounds_toArray, List.set_cons_zero, List.set_cons_succ, List.getElem_toArray, List.getElem_cons_zero, List.getElem_cons_succ]
          refine wpAnyH_take (i := 8) (v := ?v8_62) rfl (by kernel_rfl) (by kernel_rfl) (by kernel_rfl) (fun _ _ _ h => h) (Or.inl ⟨by rfl, ?hy8_62⟩) (by assumption) ?rest8_62
          case hy8_62 => (intro w9 hSw; clear hSw; go_simp; try with_reducible rfl)
          try simp only [Act.put, List.setIfInBounds_toArray, List.set_cons_zero, List.set_cons_succ, List.getElem_toArray, List.getElem_cons_zero, List.getElem_cons_succ]
          refine wpAnyH_take (i := 9) (v := ?v9_63) rfl (by kernel_rfl) (by kernel_rfl) (by kernel_rfl) (fun _ _ _ h => h) (Or.inl ⟨by rfl, ?hy9_63⟩) (by assumption) ?rest9_63
          case hy9_63 => (intro w9 hSw; obtain ⟨m0, m1, m2, m3⟩ := hSw; obtain ⟨q0_0, q0_1, q0_2, q0_3, q0_4, q0_5⟩ := Mbx.cells m0; obtain ⟨q1_0, q1_1, q1_2, q1_3, q1_4, q1_5⟩ := Mbx.cells m1; obtain ⟨q2_0, q2_1, q2_2, q2_3, q2_4, q2_5⟩ := Mbx.cells m2; obtain ⟨q3_0, q3_1, q3_2, q3_3, q3_4, q3_5⟩ := Mbx.cells m3; go_simp; try with_reducible rfl)
          try simp only [Act.put, List.setIfInBounds_toArray, List.set_cons_zero, List.set_cons_succ, List.getElem_toArray, List.getElem_cons_zero, List.getElem_cons_succ]
          refine wpAnyH_take (i := 10) (v := ?v10_64) rfl (by kernel_rfl) (by kernel_rfl) (by kernel_rfl) (fun _ _ _ h => h) (Or.inl ⟨by rfl, ?hy10_64⟩) (by assumption) ?rest10_64
          case hy10_64 => (intro w9 hSw; clear hSw; go_simp; try with_reducible rfl)
          try simp only [Act.put, List.setIfInBounds_toArray, List.set_cons_zero, List.set_cons_succ, List.getElem_toArray, List.getElem_cons_zero, List.getElem_cons_succ]
          refine wpAnyH_take (i := 11) (v := ?v11_65) rfl (by kernel_rfl) (by kernel_rfl) (by kernel_rfl) (fun _ _ _ h => h) (Or.inl ⟨by rfl, ?hy11_65⟩) (by assumption) ?rest11_65
          case hy11_65 => (intro w9 hSw; clear hSw; go_simp; try with_reducible rfl)
          try simp only [Act.put, List.setIfInBounds_toArray, List.set_cons_zero, List.set_cons_succ, List.getElem_toArray, List.getElem_cons_zero, List.getElem_cons_succ]
          refine wpAnyH_take (i := 13) (v := ?v13_66) rfl (by kernel_rfl) (by kernel_rfl) (by kernel_rfl) (fun _ _ _ h => h) (Or.inl ⟨by rfl, ?hy13_66⟩) (by assumption) ?rest13_66
          case hy13_66 => (intro w9 hSw; clear hSw; go_simp; try with_reducible rfl)
          try simp only [Act.put, List.setIfInBounds_toArray, List.set_cons_zero, List.set_cons_succ, List.getElem_toArray, List.getElem_cons_zero, List.getElem_cons_succ]
          refine wpAnyH_take (i := 14) (v := ?v14_67) rfl (by kernel_rfl) (by kernel_rfl) (by kernel_rfl) (fun _ _ _ h => h) (Or.inl ⟨by rfl, ?hy14_67⟩) (by assumption) ?rest14_67
          case hy14_67 => (intro w9 hSw; clear hSw; go_simp; try with_reducible rfl)
          try simp only [Act.put, List.setIfInBounds_toArray, List.set_cons_zero, List.set_cons_succ, List.getElem_toArray, List.getElem_cons_zero, List.getElem_cons_succ]
          refine wpAnyH_take (i := 15) (v := ?v15_68) rfl (by kernel_rfl) (by kernel_rfl) (by kernel_rfl) (fun _ _ _ h => h) (Or.inl ⟨by rfl, ?hy15_68⟩) (by assumption) ?rest15_68
          case hy15_68 => (intro w9 hSw; clear hSw; go_simp; try with_reducible rfl)
          try simp only [Act.put, List.setIfInBounds_toArray, List.set_cons_zero, List.set_cons_succ, List.getElem_toArray, List.getElem_cons_zero, List.getElem_cons_succ]
          refine wpAnyH_ready (rs := [12, 16]) (by kernel_rfl) (by simp) ?_
          refine (AllReadyH.cons rfl (fun K hK => ?_) (AllReadyH.cons rfl (fun K hK => ?_) AllReadyH.nil))
          · go_simp
            with_reducible refine (rAt_any (HH.out.on hG.bw) HN.out hm hq hlt hjq).mono ?_
            rintro e w9 ⟨rfl, hb⟩
            replace hG := hG.on hb
            replace bz := bz.trans (hb.mono bz.size)
            clear hb
            obtain ⟨lz, uz⟩ := HH.out.2.2.at_ (i * q + j)
            have bZ : (D l (i * q + j)).toNat ≤ 18446744073709551615 := by omega
            have HZ : Hid (af (D l (i * q + j)).toNat = ma l q i j) := Lib.hid rfl
            generalize (D l (i * q + j)).toNat = Z9 at *
            clear lz uz
            refine hK.out _ _ ⟨hG.bx _ (.head _), hG.bx _ (.tail _ (.head _)), hG.bx _ (.tail _ (.tail _ (.head _))), hG.bx _ (.tail _ (.tail _ (.tail _ (.tail _ (.head _)))))⟩ (fun hH => ?_)
            clear hK K hS
            have hS := hH
            clear hH
            try simp only [Act.put, List.setIfInBounds_toArray, List.set_cons_zero, List.set_cons_succ, List.getElem_toArray, List.getElem_cons_zero, List.getElem_cons_succ]
            refine wpAnyH_ready (rs := [16]) (by kernel_rfl) (by simp) ?_
            refine AllReadyH.cons rfl (fun K hK => ?_) AllReadyH.nil
            refine step_arith .add (.inl rfl) rfl _ _ _ _ r1 r2 rfl rfl rfl br1 br2 ?_
            intro rA w10 hb hA bA hdr
            have HA := Lib.hid hA
            clear hA hdr
            replace hG := hG.on hb
            replace bz := bz.trans (hb.mono bz.size)
            clear hb
            refine hK.out _ _ ⟨hG.bx _ (.head _), hG.bx _ (.tail _ (.head _)), hG.bx _ (.tail _ (.tail _ (.head _))), hG.bx _ (.tail _ (.tail _ (.tail _ (.tail _ (.head _)))))⟩ (fun hH => ?_)
            clear hK K hS
            have hS := hH
            clear hH
            try simp only [Act.put, List.setIfInBounds_toArray, List.set_cons_zero, List.set_cons_succ, List.getElem_toArray, List.getElem_cons_zero, List.getElem_cons_succ]
            refine wpAnyH_ready (rs := [17]) (by kernel_rfl) (by simp) ?_
            refine AllReadyH.cons rfl (fun K hK => ?_) AllReadyH.nil
            go_simp
            with_reducible refine (rBoth_any bb bZ ba bA _).mono ?_
            rintro e w11 ⟨r3, rfl, h2, b3, d2⟩
            replace hG := hG.on d2.below
            replace bz := bz.trans (d2.below.mono bz.size)
            have HR : Hid (af r3 = f i j) := Lib.hid (by rw [h2, HA.out, Hr1.out, Hr2.out, HZ.out]; exact Hf.out i j)
            clear h2 d2 HA HZ
            refine hK.out _ _ ⟨hG.bx _ (.head _), hG.bx _ (.tail _ (.head _)), hG.bx _ (.tail _ (.tail _ (.head _))), hG.bx _ (.tail _ (.tail _ (.tail _ (.tail _ (.head _)))))⟩ (fun hH => ?_)
            clear hK K hS
            have hS := hH
            clear hH
            try simp only [Act.put, List.setIfInBounds_toArray, List.set_cons_zero, List.set_cons_succ, List.getElem_toArray, List.getElem_cons_zero, List.getElem_cons_succ]
            refine wpAnyH_take (i := 18) (v := ?v18_69) rfl (by kernel_rfl) (by kernel_rfl) (by kernel_rfl) (fun _ _ _ h => h) (Or.inl ⟨by rfl, ?hy18_69⟩) (by assumption) ?rest18_69
            case hy18_69 => (intro w9 hSw; clear hSw; go_simp; try with_reducible rfl)
            try simp only [Act.put, List.setIfInBounds_toArray, List.set_cons_zero, List.set_cons_succ, List.getElem_toArray, List.getElem_cons_zero, List.getElem_cons_succ]
            obtain ⟨hc5, hf5⟩ := hG.cell hKl
            refine wpAnyH_ready (rs := [19]) (by kernel_rfl) (by simp) ?_
            refine AllReadyH.cons rfl (fun K hK => ?_) AllReadyH.nil
            go_simp
            replace hG := hG.set (Q := fun a b => decide ((a < i ∨ (a = i ∧ b < (j + 1))) ∧ b ≤ a)) HK.out hlt hjq (r := r3) HR.out b3 (fun a b h1 h2 => by simp only [← Bool.decide_or, decide_eq_decide]; omega)
            replace hKl : Kp < (L.set Kp (r3 : Int)).length := by rw [List.length_set]; exact hKl
            clear bz
            have bz := Below.refl w.heap.size w
            refine hK.out _ _ ⟨hG.bx _ (.head _), hG.bx _ (.tail _ (.head _)), hG.bx _ (.tail _ (.tail _ (.head _))), hG.bx _ (.tail _ (.tail _ (.tail _ (.tail _ (.head _)))))⟩ (fun hH => ?_)
            clear hK K hS
            have hS := hH
            clear hH
            try simp only [Act.put, List.setIfInBounds_toArray, List.set_cons_zero, List.set_cons_succ, List.getElem_toArray, List.getElem_cons_zero, List.getElem_cons_succ]
            refine wpAnyH_done (by kernel_rfl) ?_ _
            go_wp2_with fail
            go_roundw
            case rel => exact ⟨j + 1, _, by omega, by go_num, hG⟩
            case measure => simp [intOf]; omega
          · refine step_arith .add (.inl rfl) rfl _ _ _ _ r1 r2 rfl rfl rfl br1 br2 ?_
            intro rA w9 hb hA bA hdr
            have HA := Lib.hid hA
            clear hA hdr
            replace hG := hG.on hb
            replace bz := bz.trans (hb.mono bz.size)
            clear hb
            refine hK.out _ _ ⟨hG.bx _ (.head _), hG.bx _ (.tail _ (.head _)), hG.bx _ (.tail _ (.tail _ (.head _))), hG.bx _ (.tail _ (.tail _ (.tail _ (.tail _ (.head _)))))⟩ (fun hH => ?_)
            clear hK K hS
            have hS := hH
            clear hH
            try simp only [Act.put, List.setIfInBounds_toArray, List.set_cons_zero, List.set_cons_succ, List.getElem_toArray, List.getElem_cons_zero, List.getElem_cons_succ]
            refine wpAnyH_ready (rs := [12]) (by kernel_rfl) (by simp) ?_
            refine AllReadyH.cons rfl (fun K hK => ?_) AllReadyH.nil
            go_simp
            with_reducible refine (rAt_any (HH.out.on hG.bw) HN.out hm hq hlt hjq).mono ?_
            rintro e w10 ⟨rfl, hb⟩
            replace hG := hG.on hb
            replace bz := bz.trans (hb.mono bz.size)
            clear hb
            obtain ⟨lz, uz⟩ := HH.out.2.2.at_ (i * q + j)
            have bZ : (D l (i * q + j)).toNat ≤ 18446744073709551615 := by omega
            have HZ : Hid (af (D l (i * q + j)).toNat = ma l q i j) := Lib.hid rfl
            generalize (D l (i * q + j)).toNat = Z9 at *
            clear lz uz
            refine hK.out _ _ ⟨hG.bx _ (.head _), hG.bx _ (.tail _ (.head _)), hG.bx _ (.tail _ (.tail _ (.head _))), hG.bx _ (.tail _ (.tail _ (.tail _ (.tail _ (.head _)))))⟩ (fun hH => ?_)
            clear hK K hS
            have hS := hH
            clear hH
            try simp only [Act.put, List.setIfInBounds_toArray, List.set_cons_zero, List.set_cons_succ, List.getElem_toArray, List.getElem_cons_zero, List.getElem_cons_succ]
            refine wpAnyH_ready (rs := [17]) (by kernel_rfl) (by simp) ?_
            refine AllReadyH.cons rfl (fun K hK => ?_) AllReadyH.nil
            go_simp
            with_reducible refine (rBoth_any bb bZ ba bA _).mono ?_
            rintro e w11 ⟨r3, rfl, h2, b3, d2⟩
            replace hG := hG.on d2.below
            replace bz := bz.trans (d2.below.mono bz.size)
            have HR : Hid (af r3 = f i j) := Lib.hid (by rw [h2, HA.out, Hr1.out, Hr2.out, HZ.out]; exact Hf.out i j)
            clear h2 d2 HA HZ
            refine hK.out _ _ ⟨hG.bx _ (.head _), hG.bx _ (.tail _ (.head _)), hG.bx _ (.tail _ (.tail _ (.head _))), hG.bx _ (.tail _ (.tail _ (.tail _ (.tail _ (.head _)))))⟩ (fun hH => ?_)
            clear hK K hS
            have hS := hH
            clear hH
            try simp only [Act.put, List.setIfInBounds_toArray, List.set_cons_zero, List.set_cons_succ, List.getElem_toArray, List.getElem_cons_zero, List.getElem_cons_succ]
            refine wpAnyH_take (i := 18) (v := ?v18_70) rfl (by kernel_rfl) (by kernel_rfl) (by kernel_rfl) (fun _ _ _ h => h) (Or.inl ⟨by rfl, ?hy18_70⟩) (by assumption) ?rest18_70
            case hy18_70 => (intro w9 hSw; clear hSw; go_simp; try with_reducible rfl)
            try simp only [Act.put, List.setIfInBounds_toArray, List.set_cons_zero, List.set_cons_succ, List.getElem_toArray, List.getElem_cons_zero, List.getElem_cons_succ]
            obtain ⟨hc5, hf5⟩ := hG.cell hKl
            refine wpAnyH_ready (rs := [19]) (by kernel_rfl) (by simp) ?_
            refine AllReadyH.cons rfl (fun K hK => ?_) AllReadyH.nil
            go_simp
            replace hG := hG.set (Q := fun a b => decide ((a < i ∨ (a = i ∧ b < (j + 1))) ∧ b ≤ a)) HK.out hlt hjq (r := r3) HR.out b3 (fun a b h1 h2 => by simp only [← Bool.decide_or, decide_eq_decide]; omega)
            replace hKl : Kp < (L.set Kp (r3 : Int)).length := by rw [List.length_set]; exact hKl
            clear bz
            have bz := Below.refl w.heap.size w
            refine hK.out _ _ ⟨hG.bx _ (.head _), hG.bx _ (.tail _ (.head _)), hG.bx _ (.tail _ (.tail _ (.head _))), hG.bx _ (.tail _ (.tail _ (.tail _ (.tail _ (.head _)))))⟩ (fun hH => ?_)
            clear hK K hS
            have hS := hH
            clear hH
            try simp only [Act.put, List.setIfInBounds_toArray, List.set_cons_zero, List.set_cons_succ, List.getElem_toArray, List.getElem_cons_zero, List.getElem_cons_succ]
            refine wpAnyH_done (by kernel_rfl) ?_ _
            go_wp2_with fail
            go_roundw
            case rel => exact ⟨j + 1, _, by omega, by go_num, hG⟩
            case measure => simp [intOf]; omega
        · have hG9 := hG.congr (Q := fun a b => decide ((a < (i + 1) ∨ (a = (i + 1) ∧ b < 0)) ∧ b ≤ a)) (fun a b h1 h2 => by simp only [decide_eq_decide]; omega)
          go_wp2_with fail
          go_roundw
          case rel => exact ⟨i + 1, L, by omega, by go_num, hG9⟩
          case measure => simp [intOf]; omega
    · obtain rfl : i = m := by omega
      go_wp2_with fail
      refine bodyPost_ret (v := mV i q A2 n c2) (by simp [results, Try.results46, go_sem, *]) rfl ?_
      exact ⟨A2, c2, L, rfl, by rw [HN.out]; exact (hG.mr.congr (fun a b h1 h2 => by simp only [decide_eq_decide]; omega)).is, by first | exact hG.own.less (by omega) | exact (hG.own.grown_ (set3_grown _ _ _ _ _) (fun a e e2 => by injection e2 with e3; exact hG.ne _ (.tail _ (.tail _ (.tail _ (.head _)))) a e e3.symm)).less (by omega), by first | exact hG.bw | exact hG.bw.grown (set3_grown _ _ _ _ _) hG.bw.size (fun k e => by cases e; omega)⟩
end
end Go.Proofs.Ytfelmkkkaphkpaa
