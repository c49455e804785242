/-
  Layer 8, walks: the reference's Lower, Ger, Syr2. (Written by wip/tools/gen_knu.py.)
-/
import Derived.Test.YtfelmkkkaphkpaaKnT
namespace Go.Proofs.Ytfelmkkkaphkpaa
open Go.RowKit Go.Bw Go.Sort Go.Shelf
set_option linter.unusedVariables false
set_option linter.unusedSimpArgs false
attribute [local go_sem] run_store_float

section
variable {w : World} {m q n c : Nat} {A : Option Addr} {l : List Int}
set_option maxRecDepth 100000 in
set_option maxHeartbeats 8000000 in
theorem rGer_any {a nx cx ny cy : Nat} {Ax Ay : Option Addr} {x y : List Int} (ba : a ≤ 18446744073709551615) (h : FL w A n c l) (hn : n = m * q) (hm : m ≤ 512) (hq : q ≤ 512) (hx : FL w Ax nx cx x) (hy : FL w Ay ny cy y) (hxm : m ≤ nx) (hyq : q ≤ ny) :
    Calls Try.prog 40 #[.float .f64 a, .slice Ax nx cx, .slice Ay ny cy, mV m q A n c] w (NewMt w m q n (tg (fun a b => true) (fun i j => aop .add (ma l q i j) (aop .mul (aop .mul (af a) (fa (D x i))) (fa (D y j)))) l q)) := by
  obtain ⟨f, hf⟩ : ∃ f : Nat → Nat → Option Nat, (fun i j => aop .add (ma l q i j) (aop .mul (aop .mul (af a) (fa (D x i))) (fa (D y j)))) = f := ⟨_, rfl⟩
  have Hf := Lib.hid (show ∀ i j, aop .add (ma l q i j) (aop .mul (aop .mul (af a) (fa (D x i))) (fa (D y j))) = f i j from fun i j => by rw [← hf])
  rw [hf]
  clear hf
  have hn4 : n ≤ 262144 := by rw [hn]; exact Nat.le_trans (Nat.mul_le_mul hm hq) (by omega)
  have HH := Lib.hid h
  have HN := Lib.hid hn
  clear h hn
  have HX := Lib.hid hx
  have HY := Lib.hid hy
  have hmx := hx.max
  have hmy := hy.max
  clear hx hy
  have D0 := Blk.new w [.int .i64 m, .int .i64 q, .slice A n c] 24
  have D1 := Blk.new (w.alloc (.cells #[.int .i64 m, .int .i64 q, .slice A n c] 24)) [.int .i64 0, .int .i64 0, .slice none 0 0] 24
  replace D0 := D0.alloc (.cells #[.int .i64 0, .int .i64 0, .slice none 0 0] 24)
  simp only [World.size_alloc] at D1
  have bw := ((Below.refl _ w).alloc (Nat.le_refl _) (.cells #[.int .i64 m, .int .i64 q, .slice A n c] 24)).alloc (by simp <;> omega) (.cells #[.int .i64 0, .int .i64 0, .slice none 0 0] 24)
  have hsz : ((w.alloc (.cells #[.int .i64 m, .int .i64 q, .slice A n c] 24)).alloc (.cells #[.int .i64 0, .int .i64 0, .slice none 0 0] 24)).heap.size = w.heap.size + 2 := by simp
  obtain ⟨d0_0, d0_1, d0_2, d0_f0, d0_f1, d0_f2⟩ := Mbx.cells D0
  have pc := rCopy_any (m := m) (q := q) (HH.out.on bw) hn4
  go_enter Try.func40, Try.ntmps40
  go_wp2_with fail
  with_reducible refine pc.mono ?_
  rintro e w1 ⟨A2, c2, rfl, ho, hb⟩
  clear pc
  clear d0_0 d0_1 d0_2 d0_f0 d0_f1 d0_f2
  have hA2 : ∀ a, A2 = some a → w.heap.size + 2 ≤ a.block ∧ a.block < w1.heap.size := fun a e => by have := ho.gt e; rw [hsz] at this; exact this
  have hs1 := hb.size
  rw [hsz] at hs1
  replace D0 := (D0.on hb).alloc (.cells #[.int .i64 m, .int .i64 q, .slice A2 n c2] 24)
  replace D1 := (D1.on hb).alloc (.cells #[.int .i64 m, .int .i64 q, .slice A2 n c2] 24)
  have DO := Blk.new w1 [.int .i64 m, .int .i64 q, .slice A2 n c2] 24
  replace bw := (bw.trans (hb.mono bw.size)).alloc (by omega) (.cells #[.int .i64 m, .int .i64 q, .slice A2 n c2] 24)
  have hG : Gs w (w.heap.size + 2) [(w.heap.size, [.int .i64 m, .int .i64 q, .slice A n c]), (w.heap.size + 1, [.int .i64 0, .int .i64 0, .slice none 0 0]), (w1.heap.size, [.int .i64 m, .int .i64 q, .slice A2 n c2])] m q A2 c2 l l (fun a b => decide (a < 0 ∨ (a = 0 ∧ b < 0))) f (w1.alloc (.cells #[.int .i64 m, .int .i64 q, .slice A2 n c2] 24)) := {
    mr := Mr.start (by rw [← HN.out]; exact HH.out.1) HH.out.2.2 (fun a b h1 h2 => by simp <;> omega)
    own := ((ho.less (by rw [hsz]; exact Nat.le_refl _)).alloc_ _)
    bx := by intro b hb9; simp only [List.mem_cons, List.mem_nil_iff, or_false] at hb9; rcases hb9 with rfl | rfl | rfl
             · exact D0
             · exact D1
             · exact DO
    ne := by intro b hb9 a ea; have := hA2 a ea; simp only [List.mem_cons, List.mem_nil_iff, or_false] at hb9; rcases hb9 with rfl | rfl | rfl <;> simp <;> omega
    bw := bw
    lo := by omega }
  clear hA2 hs1 hsz bw hb ho D0 D1
  obtain ⟨dO_0, dO_1, dO_2, dO_f0, dO_f1, dO_f2⟩ := Mbx.cells DO
  have D0 : Blk (w1.alloc (.cells #[.int .i64 m, .int .i64 q, .slice A2 n c2] 24)) (w.heap.size) [.int .i64 m, .int .i64 q, .slice A n c] := hG.bx _ (.head _)
  obtain ⟨d0_0, d0_1, d0_2, d0_f0, d0_f1, d0_f2⟩ := Mbx.cells D0
  go_wp2_with fail
  obtain ⟨HO, hHO⟩ : ∃ HO, w1.heap.size = HO := ⟨_, rfl⟩
  clear d0_0 d0_1 d0_2 d0_f0 d0_f1 d0_f2
  clear dO_0 dO_1 dO_2 dO_f0 dO_f1 dO_f2
  clear DO D0
  simp only [hHO] at hG ⊢
  clear hHO
  go_loopw [10] (fun i wr => ∃ (k : Nat) (L : List Int), k ≤ m ∧ i = .int .i64 k ∧ Gs w (w.heap.size + 2) [(w.heap.size, [.int .i64 m, .int .i64 q, .slice A n c]), (w.heap.size + 1, [.int .i64 0, .int .i64 0, .slice none 0 0]), (HO, [.int .i64 m, .int .i64 q, .slice A2 n c2])] m q A2 c2 l L (fun a b => decide (a < k ∨ (a = k ∧ b < 0))) f wr) (fun i _ => m - (intOf i).toNat)
  case atStart => exact ⟨0, l, Nat.zero_le _, rfl, hG.congr (fun a b h1 h2 => by simp)⟩
  case round =>
    clear hG
    obtain ⟨i, L, hi, rfl, hG⟩ := hrel
    have D0 : Blk wr (w.heap.size) [.int .i64 m, .int .i64 q, .slice A n c] := hG.bx _ (.head _)
    have DZ : Blk wr (w.heap.size + 1) [.int .i64 0, .int .i64 0, .slice none 0 0] := hG.bx _ (.tail _ (.head _))
    have DO : Blk wr HO [.int .i64 m, .int .i64 q, .slice A2 n c2] := hG.bx _ (.tail _ (.tail _ (.head _)))
    obtain ⟨d0_0, d0_1, d0_2, d0_f0, d0_f1, d0_f2⟩ := Mbx.cells D0
    obtain ⟨dO_0, dO_1, dO_2, dO_f0, dO_f1, dO_f2⟩ := Mbx.cells DO
    obtain ⟨dz_0, dz_1, dz_2, dz_f0, dz_f1, dz_f2⟩ := Mbx.cells DZ
    by_cases hlt : i < m
    · have i0 : (0 : Int) ≤ i := by omega
      have i1 : (i : Int) < m := by omega
      go_wp2_with fail
      clear d0_0 d0_1 d0_2 d0_f0 d0_f1 d0_f2
      clear dO_0 dO_1 dO_2 dO_f0 dO_f1 dO_f2
      clear dz_0 dz_1 dz_2 dz_f0 dz_f1 dz_f2
      clear DO DZ D0
      go_loopw [11] (fun j wr => ∃ (jj : Nat) (L : List Int), jj ≤ q ∧ j = .int .i64 jj ∧ Gs w (w.heap.size + 2) [(w.heap.size, [.int .i64 m, .int .i64 q, .slice A n c]), (w.heap.size + 1, [.int .i64 0, .int .i64 0, .slice none 0 0]), (HO, [.int .i64 m, .int .i64 q, .slice A2 n c2])] m q A2 c2 l L (fun a b => decide (a < i ∨ (a = i ∧ b < jj))) f wr) (fun j _ => q - (intOf j).toNat)
      case atStart => exact ⟨0, L, by omega, by go_num, hG⟩
      case round =>
        clear hG
        obtain ⟨j, L, hj, rfl, hG⟩ := hrel
        have D0 : Blk wr (w.heap.size) [.int .i64 m, .int .i64 q, .slice A n c] := hG.bx _ (.head _)
        have DZ : Blk wr (w.heap.size + 1) [.int .i64 0, .int .i64 0, .slice none 0 0] := hG.bx _ (.tail _ (.head _))
        have DO : Blk wr HO [.int .i64 m, .int .i64 q, .slice A2 n c2] := hG.bx _ (.tail _ (.tail _ (.head _)))
        obtain ⟨d0_0, d0_1, d0_2, d0_f0, d0_f1, d0_f2⟩ := Mbx.cells D0
        obtain ⟨dO_0, dO_1, dO_2, dO_f0, dO_f1, dO_f2⟩ := Mbx.cells DO
        obtain ⟨dz_0, dz_1, dz_2, dz_f0, dz_f1, dz_f2⟩ := Mbx.cells DZ
        by_cases hjt : j < q
        · have j0 : (0 : Int) ≤ j := by omega
          have j1 : (j : Int) < q := by omega
          have hjq : j < q := by omega
          have hKl := ix_lt hlt hjq
          rw [← hG.mr.len] at hKl
          have hX2 : i * q ≤ 512 * 512 := Nat.mul_le_mul (by omega) hq
          obtain ⟨X, hX⟩ : ∃ X, i * q = X := ⟨_, rfl⟩
          have hXi : (i : Int) * (q : Int) = (X : Int) := by exact_mod_cast hX
          obtain ⟨Kp, hKp⟩ : ∃ Kp, X + j = Kp := ⟨_, rfl⟩
          have hKi : (X : Int) + (j : Int) = (Kp : Int) := by exact_mod_cast hKp
          have HK := Lib.hid (show i * q + j = Kp by rw [hX, hKp])
          rw [hX, hKp] at hKl
          rw [hX] at hX2
          have hKn : Kp < n := by rw [HN.out, ← hG.mr.len]; exact hKl
          obtain ⟨g5, hA5, _, _⟩ := hG.own.at_ hKl
          subst hA5
          have k0 : (0 : Int) ≤ Kp := by omega
          have k1 : (Kp : Int) < n := by omega
          have v1 : IntKind.i64.wrap (X : Int) = X := by rw [IntKind.wrap_i64]; omega
          have v2 : IntKind.i64.wrap (Kp : Int) = Kp := by rw [IntKind.wrap_i64]; omega
          clear hX hKp
          obtain ⟨adx, hAx, hbx, hcx⟩ := (HX.out.on hG.bw).at_ (k := i) (by omega)
          obtain ⟨lx, ux⟩ := HX.out.2.2.at_ i
          obtain ⟨ady, hAy, hby, hcy⟩ := (HY.out.on hG.bw).at_ (k := j) (by omega)
          obtain ⟨ly, uy⟩ := HY.out.2.2.at_ j
          have bX : (D x i).toNat ≤ 18446744073709551615 := by omega
          have bY : (D y j).toNat ≤ 18446744073709551615 := by omega
          obtain ⟨r1, w1, e1, d1, h1, b1⟩ := run_mul (P := Try.prog) 32 (x := a) (y := (D x i).toNat) ba bX wr
          obtain ⟨r2, w2, e2, d2, h2, b2⟩ := run_mul (P := Try.prog) 32 (x := r1) (y := (D y j).toNat) b1 bY w1
          have H2 : Hid (af r2 = aop .mul (aop .mul (af a) (fa (D x i))) (fa (D y j))) := Lib.hid (by rw [h2, h1]; rfl)
          clear h1 h2
          have hc1y : w1.cell? (ady.add j) = some (.float .f64 (D y j).toNat) := (d1.below.cell (by rw [add_block]; exact hby)).trans hcy
          replace hG := hG.on (d1.trans d2).below
          generalize (D x i).toNat = X9 at *
          generalize (D y j).toNat = Y9 at *
          subst hAx hAy
          clear lx ux ly uy hbx hby
          have ix1 : (i : Int) < nx := by omega
          have jy1 : (j : Int) < ny := by omega
          go_wp2_with fail
          clear d0_0 d0_1 d0_2 d0_f0 d0_f1 d0_f2
          clear dO_0 dO_1 dO_2 dO_f0 dO_f1 dO_f2
          clear dz_0 dz_1 dz_2 dz_f0 dz_f1 dz_f2
          clear DO DZ D0
          clear hcx hcy hc1y e1 e2 d1 d2
          replace hG := hG.on (Below.refl _ _).drew
          have bz := Below.refl w2.drew.heap.size w2.drew
          refine wp_region_held_drew (S := fun w9 : World => Mbx w9 w.heap.size m q A n c ∧ Mbx w9 HO m q (some ⟨g5, 0, none⟩) n c2) (by kernel_rfl) ⟨hG.bx _ (.head _), hG.bx _ (.tail _ (.tail _ (.head _)))⟩ (fun hS => ?_)
          generalize w2.drew = wd at hS hG  bz ⊢
          refine wpAnyH_take (i := 0) (v := ?v0_1) rfl (by kernel_rfl) (by kernel_rfl) (by kernel_rfl) (fun _ _ _ h => h) (Or.inl ⟨by rfl, ?hy0_1⟩) (by assumption) ?rest0_1
          case hy0_1 => (intro w9 hSw; clear hSw; go_simp; try with_reducible rfl)
          try simp only [Act.put, List.setIfInBounds_toArray, List.set_cons_zero, List.set_cons_succ, List.getElem_toArray, List.getElem_cons_zero, List.getElem_cons_succ]
          refine wpAnyH_take (i := 1) (v := ?v1_2) rfl (by kernel_rfl) (by kernel_rfl) (by kernel_rfl) (fun _ _ _ h => h) (Or.inl ⟨by rfl, ?hy1_2⟩) (by assumption) ?rest1_2
          case hy1_2 => (intro w9 hSw; obtain ⟨m1, m2⟩ := hSw; obtain ⟨c0, c1, c2, f0, f1, f2⟩ := Mbx.cells m1; obtain ⟨z0, z1, z2, y0, y1, y2⟩ := Mbx.cells m2; go_simp; try with_reducible rfl)
          try simp only [Act.put, List.setIfInBounds_toArray, List.set_cons_zero, List.set_cons_succ, List.getElem_toArray, List.getElem_cons_zero, List.getElem_cons_succ]
          refine wpAnyH_take (i := 2) (v := ?v2_3) rfl (by kernel_rfl) (by kernel_rfl) (by kernel_rfl) (fun _ _ _ h => h) (Or.inl ⟨by rfl, ?hy2_3⟩) (by assumption) ?rest2_3
          case hy2_3 => (intro w9 hSw; clear hSw; go_simp; try with_reducible rfl)
          try simp only [Act.put, List.setIfInBounds_toArray, List.set_cons_zero, List.set_cons_succ, List.getElem_toArray, List.getElem_cons_zero, List.getElem_cons_succ]
          refine wpAnyH_take (i := 3) (v := ?v3_4) rfl (by kernel_rfl) (by kernel_rfl) (by kernel_rfl) (fun _ _ _ h => h) (Or.inl ⟨by rfl, ?hy3_4⟩) (by assumption) ?rest3_4
          case hy3_4 => (intro w9 hSw; clear hSw; go_simp; try with_reducible rfl)
          try simp only [Act.put, List.setIfInBounds_toArray, List.set_cons_zero, List.set_cons_succ, List.getElem_toArray, List.getElem_cons_zero, List.getElem_cons_succ]
          refine wpAnyH_take (i := 4) (v := ?v4_5) rfl (by kernel_rfl) (by kernel_rfl) (by kernel_rfl) (fun _ _ _ h => h) (Or.inl ⟨by rfl, ?hy4_5⟩) (by assumption) ?rest4_5
          case hy4_5 => (intro w9 hSw; obtain ⟨m1, m2⟩ := hSw; obtain ⟨c0, c1, c2, f0, f1, f2⟩ := Mbx.cells m1; obtain ⟨z0, z1, z2, y0, y1, y2⟩ := Mbx.cells m2; go_simp; try with_reducible rfl)
          try simp only [Act.put, List.setIfInBounds_toArray, List.set_cons_zero, List.set_cons_succ, List.getElem_toArray, List.getElem_cons_zero, List.getElem_cons_succ]
          refine wpAnyH_take (i := 5) (v := ?v5_6) rfl (by kernel_rfl) (by kernel_rfl) (by kernel_rfl) (fun _ _ _ h => h) (Or.inl ⟨by rfl, ?hy5_6⟩) (by assumption) ?rest5_6
          case hy5_6 => (intro w9 hSw; clear hSw; go_simp; try with_reducible rfl)
          try simp only [Act.put, List.setIfInBounds_toArray, List.set_cons_zero, List.set_cons_succ, List.getElem_toArray, List.getElem_cons_zero, List.getElem_cons_succ]
          refine wpAnyH_take (i := 6) (v := ?v6_7) rfl (by kernel_rfl) (by kernel_rfl) (by kernel_rfl) (fun _ _ _ h => h) (Or.inl ⟨by rfl, ?hy6_7⟩) (by assumption) ?rest6_7
          case hy6_7 => (intro w9 hSw; clear hSw; go_simp; try with_reducible rfl)
          try simp only [Act.put, List.setIfInBounds_toArray, List.set_cons_zero, List.set_cons_succ, List.getElem_toArray, List.getElem_cons_zero, List.getElem_cons_succ]
          refine wpAnyH_take (i := 7) (v := ?v7_8) rfl (by kernel_rfl) (by kernel_rfl) (by kernel_rfl) (fun _ _ _ h => h) (Or.inl ⟨by rfl, ?hy7_8⟩) (by assumption) ?rest7_8
          case hy7_8 => (intro w9 hSw; clear hSw; go_simp; try with_reducible rfl)
          try simp only [Act.put, List.setIfInBounds_toArray, List.set_cons_zero, List.set_cons_succ, List.getElem_toArray, List.getElem_cons_zero, List.getElem_cons_succ]
          refine wpAnyH_take (i := 8) (v := ?v8_9) rfl (by kernel_rfl) (by kernel_rfl) (by kernel_rfl) (fun _ _ _ h => h) (Or.inl ⟨by rfl, ?hy8_9⟩) (by assumption) ?rest8_9
          case hy8_9 => (intro w9 hSw; obtain ⟨m1, m2⟩ := hSw; obtain ⟨c0, c1, c2, f0, f1, f2⟩ := Mbx.cells m1; obtain ⟨z0, z1, z2, y0, y1, y2⟩ := Mbx.cells m2; go_simp; try with_reducible rfl)
          try simp only [Act.put, List.setIfInBounds_toArray, List.set_cons_zero, List.set_cons_succ, List.getElem_toArray, List.getElem_cons_zero, List.getElem_cons_succ]
          refine wpAnyH_take (i := 9) (v := ?v9_10) rfl (by kernel_rfl) (by kernel_rfl) (by kernel_rfl) (fun _ _ _ h => h) (Or.inl ⟨by rfl, ?hy9_10⟩) (by assumption) ?rest9_10
          case hy9_10 => (intro w9 hSw; clear hSw; go_simp; try with_reducible rfl)
          try simp only [Act.put, List.setIfInBounds_toArray, List.set_cons_zero, List.set_cons_succ, List.getElem_toArray, List.getElem_cons_zero, List.getElem_cons_succ]
          refine wpAnyH_take (i := 10) (v := ?v10_11) rfl (by kernel_rfl) (by kernel_rfl) (by kernel_rfl) (fun _ _ _ h => h) (Or.inl ⟨by rfl, ?hy10_11⟩) (by assumption) ?rest10_11
          case hy10_11 => (intro w9 hSw; clear hSw; go_simp; try with_reducible rfl)
          try simp only [Act.put, List.setIfInBounds_toArray, List.set_cons_zero, List.set_cons_succ, List.getElem_toArray, List.getElem_cons_zero, List.getElem_cons_succ]
          refine wpAnyH_take (i := 12) (v := ?v12_12) rfl (by kernel_rfl) (by kernel_rfl) (by kernel_rfl) (fun _ _ _ h => h) (Or.inl ⟨by rfl, ?hy12_12⟩) (by assumption) ?rest12_12
          case hy12_12 => (intro w9 hSw; clear hSw; go_simp; try with_reducible rfl)
          try simp only [Act.put, List.setIfInBounds_toArray, List.set_cons_zero, List.set_cons_succ, List.getElem_toArray, List.getElem_cons_zero, List.getElem_cons_succ]
          refine wpAnyH_ready (rs := [11]) (by kernel_rfl) (by simp) ?_
          refine AllReadyH.cons rfl (fun K hK => ?_) AllReadyH.nil
          go_simp
          with_reducible refine (rAt_any (HH.out.on hG.bw) HN.out hm hq hlt hjq).mono ?_
          rintro e w3 ⟨rfl, hb⟩
          replace hG := hG.on hb
          replace bz := bz.trans (hb.mono bz.size)
          clear hb
          obtain ⟨lz, uz⟩ := HH.out.2.2.at_ (i * q + j)
          have bZ : (D l (i * q + j)).toNat ≤ 18446744073709551615 := by omega
          have HZ : Hid (af (D l (i * q + j)).toNat = ma l q i j) := Lib.hid rfl
          generalize (D l (i * q + j)).toNat = Z9 at *
          clear lz uz
          refine hK.out _ _ ⟨hG.bx _ (.head _), hG.bx _ (.tail _ (.tail _ (.head _)))⟩ (fun hH => ?_)
          clear hK K hS
          have hS := hH
          clear hH
          try simp only [Act.put, List.setIfInBounds_toArray, List.set_cons_zero, List.set_cons_succ, List.getElem_toArray, List.getElem_cons_zero, List.getElem_cons_succ]
          refine wpAnyH_ready (rs := [13]) (by kernel_rfl) (by simp) ?_
          refine AllReadyH.cons rfl (fun K hK => ?_) AllReadyH.nil
          refine step_arith .add (.inl rfl) rfl _ _ _ _ Z9 r2 rfl rfl rfl bZ b2 ?_
          intro rA w4 hb hA bA hdr
          have HA := Lib.hid hA
          clear hA hdr
          replace hG := hG.on hb
          replace bz := bz.trans (hb.mono bz.size)
          clear hb
          refine hK.out _ _ ⟨hG.bx _ (.head _), hG.bx _ (.tail _ (.tail _ (.head _)))⟩ (fun hH => ?_)
          clear hK K hS
          have hS := hH
          clear hH
          try simp only [Act.put, List.setIfInBounds_toArray, List.set_cons_zero, List.set_cons_succ, List.getElem_toArray, List.getElem_cons_zero, List.getElem_cons_succ]
          refine wpAnyH_take (i := 14) (v := ?v14_13) rfl (by kernel_rfl) (by kernel_rfl) (by kernel_rfl) (fun _ _ _ h => h) (Or.inl ⟨by rfl, ?hy14_13⟩) (by assumption) ?rest14_13
          case hy14_13 => (intro w9 hSw; clear hSw; go_simp; try with_reducible rfl)
          try simp only [Act.put, List.setIfInBounds_toArray, List.set_cons_zero, List.set_cons_succ, List.getElem_toArray, List.getElem_cons_zero, List.getElem_cons_succ]
          obtain ⟨hc5, hf5⟩ := hG.cell hKl
          refine wpAnyH_ready (rs := [15]) (by kernel_rfl) (by simp) ?_
          refine AllReadyH.cons rfl (fun K hK => ?_) AllReadyH.nil
          go_simp
          replace hG := hG.set (Q := fun a b => decide (a < i ∨ (a = i ∧ b < (j + 1)))) HK.out hlt hjq (r := rA) (by rw [HA.out, HZ.out, H2.out]; exact Hf.out i j) bA (fun a b h1 h2 => by simp only [← Bool.decide_or, decide_eq_decide]; omega)
          replace hKl : Kp < (L.set Kp (rA : Int)).length := by rw [List.length_set]; exact hKl
          clear bz
          have bz := Below.refl w.heap.size w
          refine hK.out _ _ ⟨hG.bx _ (.head _), hG.bx _ (.tail _ (.tail _ (.head _)))⟩ (fun hH => ?_)
          clear hK K hS
          have hS := hH
          clear hH
          try simp only [Act.put, List.setIfInBounds_toArray, List.set_cons_zero, List.set_cons_succ, List.getElem_toArray, List.getElem_cons_zero, List.getElem_cons_succ]
          refine wpAnyH_done (by kernel_rfl) ?_ _
          go_wp2_with fail
          go_roundw
          case rel => exact ⟨j + 1, _, by omega, by go_num, hG⟩
          case measure => simp [intOf]; omega
        · have hG9 := hG.congr (Q := fun a b => decide (a < (i + 1) ∨ (a = (i + 1) ∧ b < 0))) (fun a b h1 h2 => by simp only [decide_eq_decide]; omega)
          go_wp2_with fail
          go_roundw
          case rel => exact ⟨i + 1, L, by omega, by go_num, hG9⟩
          case measure => simp [intOf]; omega
    · obtain rfl : i = m := by omega
      go_wp2_with fail
      refine bodyPost_ret (v := mV i q A2 n c2) (by simp [results, Try.results40, go_sem, *]) rfl ?_
      exact ⟨A2, c2, L, rfl, by rw [HN.out]; exact (hG.mr.congr (fun a b h1 h2 => by simp <;> omega)).is, by first | exact hG.own.less (by omega) | exact (hG.own.grown_ (set3_grown _ _ _ _ _) (fun a e e2 => by injection e2 with e3; exact hG.ne _ (.tail _ (.head _)) a e e3.symm)).less (by omega), by first | exact hG.bw | exact hG.bw.grown (set3_grown _ _ _ _ _) hG.bw.size (fun k e => by cases e; omega)⟩
set_option maxRecDepth 100000 in
set_option maxHeartbeats 8000000 in
theorem rLower_any (h : FL w A n c l) (hn : n = m * q) (hm : m ≤ 512) (hq : q ≤ 512) (hq1 : q ≤ m) (hq2 : m ≤ q) :
    Calls Try.prog 38 #[mV m q A n c] w (NewMt w m q n (tg (fun a b => decide (a < b)) (fun i j => ma l q j i) l q)) := by
  obtain ⟨f, hf⟩ : ∃ f : Nat → Nat → Option Nat, (fun i j => ma l q j i) = f := ⟨_, rfl⟩
  have Hf := Lib.hid (show ∀ i j, ma l q j i = f i j from fun i j => by rw [← hf])
  rw [hf]
  clear hf
  have hn4 : n ≤ 262144 := by rw [hn]; exact Nat.le_trans (Nat.mul_le_mul hm hq) (by omega)
  have HH := Lib.hid h
  have HN := Lib.hid hn
  clear h hn
  have D0 := Blk.new w [.int .i64 m, .int .i64 q, .slice A n c] 24
  have D1 := Blk.new (w.alloc (.cells #[.int .i64 m, .int .i64 q, .slice A n c] 24)) [.int .i64 0, .int .i64 0, .slice none 0 0] 24
  replace D0 := D0.alloc (.cells #[.int .i64 0, .int .i64 0, .slice none 0 0] 24)
  simp only [World.size_alloc] at D1
  have bw := ((Below.refl _ w).alloc (Nat.le_refl _) (.cells #[.int .i64 m, .int .i64 q, .slice A n c] 24)).alloc (by simp <;> omega) (.cells #[.int .i64 0, .int .i64 0, .slice none 0 0] 24)
  have hsz : ((w.alloc (.cells #[.int .i64 m, .int .i64 q, .slice A n c] 24)).alloc (.cells #[.int .i64 0, .int .i64 0, .slice none 0 0] 24)).heap.size = w.heap.size + 2 := by simp
  obtain ⟨d0_0, d0_1, d0_2, d0_f0, d0_f1, d0_f2⟩ := Mbx.cells D0
  have pc := rCopy_any (m := m) (q := q) (HH.out.on bw) hn4
  go_enter Try.func38, Try.ntmps38
  go_wp2_with fail
  with_reducible refine pc.mono ?_
  rintro e w1 ⟨A2, c2, rfl, ho, hb⟩
  clear pc
  clear d0_0 d0_1 d0_2 d0_f0 d0_f1 d0_f2
  have hA2 : ∀ a, A2 = some a → w.heap.size + 2 ≤ a.block ∧ a.block < w1.heap.size := fun a e => by have := ho.gt e; rw [hsz] at this; exact this
  have hs1 := hb.size
  rw [hsz] at hs1
  replace D0 := (D0.on hb).alloc (.cells #[.int .i64 m, .int .i64 q, .slice A2 n c2] 24)
  replace D1 := (D1.on hb).alloc (.cells #[.int .i64 m, .int .i64 q, .slice A2 n c2] 24)
  have DO := Blk.new w1 [.int .i64 m, .int .i64 q, .slice A2 n c2] 24
  replace bw := (bw.trans (hb.mono bw.size)).alloc (by omega) (.cells #[.int .i64 m, .int .i64 q, .slice A2 n c2] 24)
  have hG : Gs w (w.heap.size + 2) [(w.heap.size, [.int .i64 m, .int .i64 q, .slice A n c]), (w.heap.size + 1, [.int .i64 0, .int .i64 0, .slice none 0 0]), (w1.heap.size, [.int .i64 m, .int .i64 q, .slice A2 n c2])] m q A2 c2 l l (fun a b => decide ((a < 0 ∨ (a = 0 ∧ b < 0)) ∧ a < b)) f (w1.alloc (.cells #[.int .i64 m, .int .i64 q, .slice A2 n c2] 24)) := {
    mr := Mr.start (by rw [← HN.out]; exact HH.out.1) HH.out.2.2 (fun a b h1 h2 => by simp <;> omega)
    own := ((ho.less (by rw [hsz]; exact Nat.le_refl _)).alloc_ _)
    bx := by intro b hb9; simp only [List.mem_cons, List.mem_nil_iff, or_false] at hb9; rcases hb9 with rfl | rfl | rfl
             · exact D0
             · exact D1
             · exact DO
    ne := by intro b hb9 a ea; have := hA2 a ea; simp only [List.mem_cons, List.mem_nil_iff, or_false] at hb9; rcases hb9 with rfl | rfl | rfl <;> simp <;> omega
    bw := bw
    lo := by omega }
  clear hA2 hs1 hsz bw hb ho D0 D1
  obtain ⟨dO_0, dO_1, dO_2, dO_f0, dO_f1, dO_f2⟩ := Mbx.cells DO
  have D0 : Blk (w1.alloc (.cells #[.int .i64 m, .int .i64 q, .slice A2 n c2] 24)) (w.heap.size) [.int .i64 m, .int .i64 q, .slice A n c] := hG.bx _ (.head _)
  obtain ⟨d0_0, d0_1, d0_2, d0_f0, d0_f1, d0_f2⟩ := Mbx.cells D0
  go_wp2_with fail
  obtain ⟨HO, hHO⟩ : ∃ HO, w1.heap.size = HO := ⟨_, rfl⟩
  clear d0_0 d0_1 d0_2 d0_f0 d0_f1 d0_f2
  clear dO_0 dO_1 dO_2 dO_f0 dO_f1 dO_f2
  clear DO D0
  simp only [hHO] at hG ⊢
  clear hHO
  go_loopw [4] (fun i wr => ∃ (k : Nat) (L : List Int), k ≤ m ∧ i = .int .i64 k ∧ Gs w (w.heap.size + 2) [(w.heap.size, [.int .i64 m, .int .i64 q, .slice A n c]), (w.heap.size + 1, [.int .i64 0, .int .i64 0, .slice none 0 0]), (HO, [.int .i64 m, .int .i64 q, .slice A2 n c2])] m q A2 c2 l L (fun a b => decide ((a < k ∨ (a = k ∧ b < 0)) ∧ a < b)) f wr) (fun i _ => m - (intOf i).toNat)
  case atStart => exact ⟨0, l, Nat.zero_le _, rfl, hG.congr (fun a b h1 h2 => by rfl)⟩
  case round =>
    clear hG
    obtain ⟨i, L, hi, rfl, hG⟩ := hrel
    have D0 : Blk wr (w.heap.size) [.int .i64 m, .int .i64 q, .slice A n c] := hG.bx _ (.head _)
    have DZ : Blk wr (w.heap.size + 1) [.int .i64 0, .int .i64 0, .slice none 0 0] := hG.bx _ (.tail _ (.head _))
    have DO : Blk wr HO [.int .i64 m, .int .i64 q, .slice A2 n c2] := hG.bx _ (.tail _ (.tail _ (.head _)))
    obtain ⟨d0_0, d0_1, d0_2, d0_f0, d0_f1, d0_f2⟩ := Mbx.cells D0
    obtain ⟨dO_0, dO_1, dO_2, dO_f0, dO_f1, dO_f2⟩ := Mbx.cells DO
    obtain ⟨dz_0, dz_1, dz_2, dz_f0, dz_f1, dz_f2⟩ := Mbx.cells DZ
    by_cases hlt : i < m
    · have i0 : (0 : Int) ≤ i := by omega
      have i1 : (i : Int) < m := by omega
      go_wp2_with fail
      clear d0_0 d0_1 d0_2 d0_f0 d0_f1 d0_f2
      clear dO_0 dO_1 dO_2 dO_f0 dO_f1 dO_f2
      clear dz_0 dz_1 dz_2 dz_f0 dz_f1 dz_f2
      clear DO DZ D0
      go_loopw [5] (fun j wr => ∃ (jj : Nat) (L : List Int), (i + 1 ≤ jj ∧ jj ≤ m) ∧ j = .int .i64 jj ∧ Gs w (w.heap.size + 2) [(w.heap.size, [.int .i64 m, .int .i64 q, .slice A n c]), (w.heap.size + 1, [.int .i64 0, .int .i64 0, .slice none 0 0]), (HO, [.int .i64 m, .int .i64 q, .slice A2 n c2])] m q A2 c2 l L (fun a b => decide ((a < i ∨ (a = i ∧ b < jj)) ∧ a < b)) f wr) (fun j _ => m - (intOf j).toNat)
      case atStart => exact ⟨i + 1, L, by omega, by go_num, hG.congr (fun a b h1 h2 => by simp only [decide_eq_decide]; omega)⟩
      case round =>
        clear hG
        obtain ⟨j, L, hj, rfl, hG⟩ := hrel
        have D0 : Blk wr (w.heap.size) [.int .i64 m, .int .i64 q, .slice A n c] := hG.bx _ (.head _)
        have DZ : Blk wr (w.heap.size + 1) [.int .i64 0, .int .i64 0, .slice none 0 0] := hG.bx _ (.tail _ (.head _))
        have DO : Blk wr HO [.int .i64 m, .int .i64 q, .slice A2 n c2] := hG.bx _ (.tail _ (.tail _ (.head _)))
        obtain ⟨d0_0, d0_1, d0_2, d0_f0, d0_f1, d0_f2⟩ := Mbx.cells D0
        obtain ⟨dO_0, dO_1, dO_2, dO_f0, dO_f1, dO_f2⟩ := Mbx.cells DO
        obtain ⟨dz_0, dz_1, dz_2, dz_f0, dz_f1, dz_f2⟩ := Mbx.cells DZ
        by_cases hjt : j < m
        · have j0 : (0 : Int) ≤ j := by omega
          have j1 : (j : Int) < m := by omega
          have hiq : i < q := by omega
          have hjq : j < q := by omega
          have hKl := ix_lt hlt hjq
          rw [← hG.mr.len] at hKl
          have hX2 : i * q ≤ 512 * 512 := Nat.mul_le_mul (by omega) hq
          obtain ⟨X, hX⟩ : ∃ X, i * q = X := ⟨_, rfl⟩
          have hXi : (i : Int) * (q : Int) = (X : Int) := by exact_mod_cast hX
          obtain ⟨Kp, hKp⟩ : ∃ Kp, X + j = Kp := ⟨_, rfl⟩
          have hKi : (X : Int) + (j : Int) = (Kp : Int) := by exact_mod_cast hKp
          have HK := Lib.hid (show i * q + j = Kp by rw [hX, hKp])
          rw [hX, hKp] at hKl
          rw [hX] at hX2
          have hKn : Kp < n := by rw [HN.out, ← hG.mr.len]; exact hKl
          obtain ⟨g5, hA5, _, _⟩ := hG.own.at_ hKl
          subst hA5
          have k0 : (0 : Int) ≤ Kp := by omega
          have k1 : (Kp : Int) < n := by omega
          have v1 : IntKind.i64.wrap (X : Int) = X := by rw [IntKind.wrap_i64]; omega
          have v2 : IntKind.i64.wrap (Kp : Int) = Kp := by rw [IntKind.wrap_i64]; omega
          clear hX hKp
          go_wp2_with fail
          clear d0_0 d0_1 d0_2 d0_f0 d0_f1 d0_f2
          clear dO_0 dO_1 dO_2 dO_f0 dO_f1 dO_f2
          clear dz_0 dz_1 dz_2 dz_f0 dz_f1 dz_f2
          clear DO DZ D0
          replace hG := hG.on (Below.refl _ _).drew
          have bz := Below.refl wr.drew.heap.size wr.drew
          refine wp_region_held_drew (S := fun w9 : World => Mbx w9 w.heap.size m q A n c ∧ Mbx w9 HO m q (some ⟨g5, 0, none⟩) n c2) (by kernel_rfl) ⟨hG.bx _ (.head _), hG.bx _ (.tail _ (.tail _ (.head _)))⟩ (fun hS => ?_)
          generalize wr.drew = wd at hS hG  bz ⊢
          refine wpAnyH_take (i := 0) (v := ?v0_14) rfl (by kernel_rfl) (by kernel_rfl) (by kernel_rfl) (fun _ _ _ h => h) (Or.inl ⟨by rfl, ?hy0_14⟩) (by assumption) ?rest0_14
          case hy0_14 => (intro w9 hSw; clear hSw; go_simp; try with_reducible rfl)
          try simp only [Act.put, List.setIfInBounds_toArray, List.set_cons_zero, List.set_cons_succ, List.getElem_toArray, List.getElem_cons_zero, List.getElem_cons_succ]
          refine wpAnyH_take (i := 1) (v := ?v1_15) rfl (by kernel_rfl) (by kernel_rfl) (by kernel_rfl) (fun _ _ _ h => h) (Or.inl ⟨by rfl, ?hy1_15⟩) (by assumption) ?rest1_15
          case hy1_15 => (intro w9 hSw; obtain ⟨m1, m2⟩ := hSw; obtain ⟨c0, c1, c2, f0, f1, f2⟩ := Mbx.cells m1; obtain ⟨z0, z1, z2, y0, y1, y2⟩ := Mbx.cells m2; go_simp; try with_reducible rfl)
          try simp only [Act.put, List.setIfInBounds_toArray, List.set_cons_zero, List.set_cons_succ, List.getElem_toArray, List.getElem_cons_zero, List.getElem_cons_succ]
          refine wpAnyH_take (i := 2) (v := ?v2_16) rfl (by kernel_rfl) (by kernel_rfl) (by kernel_rfl) (fun _ _ _ h => h) (Or.inl ⟨by rfl, ?hy2_16⟩) (by assumption) ?rest2_16
          case hy2_16 => (intro w9 hSw; clear hSw; go_simp; try with_reducible rfl)
          try simp only [Act.put, List.setIfInBounds_toArray, List.set_cons_zero, List.set_cons_succ, List.getElem_toArray, List.getElem_cons_zero, List.getElem_cons_succ]
          refine wpAnyH_take (i := 3) (v := ?v3_17) rfl (by kernel_rfl) (by kernel_rfl) (by kernel_rfl) (fun _ _ _ h => h) (Or.inl ⟨by rfl, ?hy3_17⟩) (by assumption) ?rest3_17
          case hy3_17 => (intro w9 hSw; clear hSw; go_simp; try with_reducible rfl)
          try simp only [Act.put, List.setIfInBounds_toArray, List.set_cons_zero, List.set_cons_succ, List.getElem_toArray, List.getElem_cons_zero, List.getElem_cons_succ]
          refine wpAnyH_take (i := 4) (v := ?v4_18) rfl (by kernel_rfl) (by kernel_rfl) (by kernel_rfl) (fun _ _ _ h => h) (Or.inl ⟨by rfl, ?hy4_18⟩) (by assumption) ?rest4_18
          case hy4_18 => (intro w9 hSw; obtain ⟨m1, m2⟩ := hSw; obtain ⟨c0, c1, c2, f0, f1, f2⟩ := Mbx.cells m1; obtain ⟨z0, z1, z2, y0, y1, y2⟩ := Mbx.cells m2; go_simp; try with_reducible rfl)
          try simp only [Act.put, List.setIfInBounds_toArray, List.set_cons_zero, List.set_cons_succ, List.getElem_toArray, List.getElem_cons_zero, List.getElem_cons_succ]
          refine wpAnyH_take (i := 5) (v := ?v5_19) rfl (by kernel_rfl) (by kernel_rfl) (by kernel_rfl) (fun _ _ _ h => h) (Or.inl ⟨by rfl, ?hy5_19⟩) (by assumption) ?rest5_19
          case hy5_19 => (intro w9 hSw; clear hSw; go_simp; try with_reducible rfl)
          try simp only [Act.put, List.setIfInBounds_toArray, List.set_cons_zero, List.set_cons_succ, List.getElem_toArray, List.getElem_cons_zero, List.getElem_cons_succ]
          refine wpAnyH_take (i := 6) (v := ?v6_20) rfl (by kernel_rfl) (by kernel_rfl) (by kernel_rfl) (fun _ _ _ h => h) (Or.inl ⟨by rfl, ?hy6_20⟩) (by assumption) ?rest6_20
          case hy6_20 => (intro w9 hSw; clear hSw; go_simp; try with_reducible rfl)
          try simp only [Act.put, List.setIfInBounds_toArray, List.set_cons_zero, List.set_cons_succ, List.getElem_toArray, List.getElem_cons_zero, List.getElem_cons_succ]
          refine wpAnyH_take (i := 7) (v := ?v7_21) rfl (by kernel_rfl) (by kernel_rfl) (by kernel_rfl) (fun _ _ _ h => h) (Or.inl ⟨by rfl, ?hy7_21⟩) (by assumption) ?rest7_21
          case hy7_21 => (intro w9 hSw; clear hSw; go_simp; try with_reducible rfl)
          try simp only [Act.put, List.setIfInBounds_toArray, List.set_cons_zero, List.set_cons_succ, List.getElem_toArray, List.getElem_cons_zero, List.getElem_cons_succ]
          refine wpAnyH_take (i := 8) (v := ?v8_22) rfl (by kernel_rfl) (by kernel_rfl) (by kernel_rfl) (fun _ _ _ h => h) (Or.inl ⟨by rfl, ?hy8_22⟩) (by assumption) ?rest8_22
          case hy8_22 => (intro w9 hSw; obtain ⟨m1, m2⟩ := hSw; obtain ⟨c0, c1, c2, f0, f1, f2⟩ := Mbx.cells m1; obtain ⟨z0, z1, z2, y0, y1, y2⟩ := Mbx.cells m2; go_simp; try with_reducible rfl)
          try simp only [Act.put, List.setIfInBounds_toArray, List.set_cons_zero, List.set_cons_succ, List.getElem_toArray, List.getElem_cons_zero, List.getElem_cons_succ]
          refine wpAnyH_take (i := 9) (v := ?v9_23) rfl (by kernel_rfl) (by kernel_rfl) (by kernel_rfl) (fun _ _ _ h => h) (Or.inl ⟨by rfl, ?hy9_23⟩) (by assumption) ?rest9_23
          case hy9_23 => (intro w9 hSw; clear hSw; go_simp; try with_reducible rfl)
          try simp only [Act.put, List.setIfInBounds_toArray, List.set_cons_zero, List.set_cons_succ, List.getElem_toArray, List.getElem_cons_zero, List.getElem_cons_succ]
          refine wpAnyH_take (i := 10) (v := ?v10_24) rfl (by kernel_rfl) (by kernel_rfl) (by kernel_rfl) (fun _ _ _ h => h) (Or.inl ⟨by rfl, ?hy10_24⟩) (by assumption) ?rest10_24
          case hy10_24 => (intro w9 hSw; clear hSw; go_simp; try with_reducible rfl)
          try simp only [Act.put, List.setIfInBounds_toArray, List.set_cons_zero, List.set_cons_succ, List.getElem_toArray, List.getElem_cons_zero, List.getElem_cons_succ]
          refine wpAnyH_ready (rs := [11]) (by kernel_rfl) (by simp) ?_
          refine AllReadyH.cons rfl (fun K hK => ?_) AllReadyH.nil
          go_simp
          with_reducible refine (rAt_any (HH.out.on hG.bw) HN.out hm hq hjt hiq).mono ?_
          rintro e w3 ⟨rfl, hb⟩
          replace hG := hG.on hb
          replace bz := bz.trans (hb.mono bz.size)
          clear hb
          obtain ⟨lz, uz⟩ := HH.out.2.2.at_ (j * q + i)
          have bZ : (D l (j * q + i)).toNat ≤ 18446744073709551615 := by omega
          have HZ : Hid (af (D l (j * q + i)).toNat = ma l q j i) := Lib.hid rfl
          generalize (D l (j * q + i)).toNat = Z9 at *
          clear lz uz
          refine hK.out _ _ ⟨hG.bx _ (.head _), hG.bx _ (.tail _ (.tail _ (.head _)))⟩ (fun hH => ?_)
          clear hK K hS
          have hS := hH
          clear hH
          try simp only [Act.put, List.setIfInBounds_toArray, List.set_cons_zero, List.set_cons_succ, List.getElem_toArray, List.getElem_cons_zero, List.getElem_cons_succ]
          refine wpAnyH_take (i := 12) (v := ?v12_25) rfl (by kernel_rfl) (by kernel_rfl) (by kernel_rfl) (fun _ _ _ h => h) (Or.inl ⟨by rfl, ?hy12_25⟩) (by assumption) ?rest12_25
          case hy12_25 => (intro w9 hSw; clear hSw; go_simp; try with_reducible rfl)
          try simp only [Act.put, List.setIfInBounds_toArray, List.set_cons_zero, List.set_cons_succ, List.getElem_toArray, List.getElem_cons_zero, List.getElem_cons_succ]
          obtain ⟨hc5, hf5⟩ := hG.cell hKl
          refine wpAnyH_ready (rs := [13]) (by kernel_rfl) (by simp) ?_
          refine AllReadyH.cons rfl (fun K hK => ?_) AllReadyH.nil
          go_simp
          replace hG := hG.set (Q := fun a b => decide ((a < i ∨ (a = i ∧ b < (j + 1))) ∧ a < b)) HK.out hlt hjq (r := Z9) (by rw [HZ.out]; exact Hf.out i j) bZ (fun a b h1 h2 => by simp only [← Bool.decide_or, decide_eq_decide]; omega)
          replace hKl : Kp < (L.set Kp (Z9 : Int)).length := by rw [List.length_set]; exact hKl
          clear bz
          have bz := Below.refl w.heap.size w
          refine hK.out _ _ ⟨hG.bx _ (.head _), hG.bx _ (.tail _ (.tail _ (.head _)))⟩ (fun hH => ?_)
          clear hK K hS
          have hS := hH
          clear hH
          try simp only [Act.put, List.setIfInBounds_toArray, List.set_cons_zero, List.set_cons_succ, List.getElem_toArray, List.getElem_cons_zero, List.getElem_cons_succ]
          refine wpAnyH_done (by kernel_rfl) ?_ _
          go_wp2_with fail
          go_roundw
          case rel => exact ⟨j + 1, _, by omega, by go_num, hG⟩
          case measure => simp [intOf]; omega
        · have hG9 := hG.congr (Q := fun a b => decide ((a < (i + 1) ∨ (a = (i + 1) ∧ b < 0)) ∧ a < b)) (fun a b h1 h2 => by simp only [decide_eq_decide]; omega)
          go_wp2_with fail
          go_roundw
          case rel => exact ⟨i + 1, L, by omega, by go_num, hG9⟩
          case measure => simp [intOf]; omega
    · obtain rfl : i = m := by omega
      go_wp2_with fail
      refine bodyPost_ret (v := mV i q A2 n c2) (by simp [results, Try.results38, go_sem, *]) rfl ?_
      exact ⟨A2, c2, L, rfl, by rw [HN.out]; exact (hG.mr.congr (fun a b h1 h2 => by simp only [decide_eq_decide]; omega)).is, by first | exact hG.own.less (by omega) | exact (hG.own.grown_ (set3_grown _ _ _ _ _) (fun a e e2 => by injection e2 with e3; exact hG.ne _ (.tail _ (.head _)) a e e3.symm)).less (by omega), by first | exact hG.bw | exact hG.bw.grown (set3_grown _ _ _ _ _) hG.bw.size (fun k e => by cases e; omega)⟩
set_option maxRecDepth 100000 in
set_option maxHeartbeats 8000000 in
theorem rSyr2_any {a nx cx ny cy : Nat} {Ax Ay : Option Addr} {x y : List Int} (ba : a ≤ 18446744073709551615) (h : FL w A n c l) (hn : n = m * q) (hm : m ≤ 512) (hq : q ≤ 512) (hx : FL w Ax nx cx x) (hy : FL w Ay ny cy y) (hxm : m ≤ nx) (hym : m ≤ ny) (hq1 : q ≤ m) (hq2 : m ≤ q) :
    Calls Try.prog 42 #[.float .f64 a, .slice Ax nx cx, .slice Ay ny cy, mV m q A n c] w (NewMt w m q n (tg (fun a b => decide (b ≤ a)) (fun i j => aop .add (aop .add (ma l q i j) (aop .mul (aop .mul (af a) (fa (D x i))) (fa (D y j)))) (aop .mul (aop .mul (af a) (fa (D y i))) (fa (D x j)))) l q)) := by
  obtain ⟨f, hf⟩ : ∃ f : Nat → Nat → Option Nat, (fun i j => aop .add (aop .add (ma l q i j) (aop .mul (aop .mul (af a) (fa (D x i))) (fa (D y j)))) (aop .mul (aop .mul (af a) (fa (D y i))) (fa (D x j)))) = f := ⟨_, rfl⟩
  have Hf := Lib.hid (show ∀ i j, aop .add (aop .add (ma l q i j) (aop .mul (aop .mul (af a) (fa (D x i))) (fa (D y j)))) (aop .mul (aop .mul (af a) (fa (D y i))) (fa (D x j))) = f i j from fun i j => by rw [← hf])
  rw [hf]
  clear hf
  have hn4 : n ≤ 262144 := by rw [hn]; exact Nat.le_trans (Nat.mul_le_mul hm hq) (by omega)
  have HH := Lib.hid h
  have HN := Lib.hid hn
  clear h hn
  have HX := Lib.hid hx
  have HY := Lib.hid hy
  have hmx := hx.max
  have hmy := hy.max
  clear hx hy
  have D0 := Blk.new w [.int .i64 m, .int .i64 q, .slice A n c] 24
  have D1 := Blk.new (w.alloc (.cells #[.int .i64 m, .int .i64 q, .slice A n c] 24)) [.int .i64 0, .int .i64 0, .slice none 0 0] 24
  replace D0 := D0.alloc (.cells #[.int .i64 0, .int .i64 0, .slice none 0 0] 24)
  simp only [World.size_alloc] at D1
  have bw := ((Below.refl _ w).alloc (Nat.le_refl _) (.cells #[.int .i64 m, .int .i64 q, .slice A n c] 24)).alloc (by simp <;> omega) (.cells #[.int .i64 0, .int .i64 0, .slice none 0 0] 24)
  have hsz : ((w.alloc (.cells #[.int .i64 m, .int .i64 q, .slice A n c] 24)).alloc (.cells #[.int .i64 0, .int .i64 0, .slice none 0 0] 24)).heap.size = w.heap.size + 2 := by simp
  obtain ⟨d0_0, d0_1, d0_2, d0_f0, d0_f1, d0_f2⟩ := Mbx.cells D0
  have pc := rCopy_any (m := m) (q := q) (HH.out.on bw) hn4
  go_enter Try.func42, Try.ntmps42
  go_wp2_with fail
  with_reducible refine pc.mono ?_
  rintro e w1 ⟨A2, c2, rfl, ho, hb⟩
  clear pc
  clear d0_0 d0_1 d0_2 d0_f0 d0_f1 d0_f2
  have hA2 : ∀ a, A2 = some a → w.heap.size + 2 ≤ a.block ∧ a.block < w1.heap.size := fun a e => by have := ho.gt e; rw [hsz] at this; exact this
  have hs1 := hb.size
  rw [hsz] at hs1
  replace D0 := (D0.on hb).alloc (.cells #[.int .i64 m, .int .i64 q, .slice A2 n c2] 24)
  replace D1 := (D1.on hb).alloc (.cells #[.int .i64 m, .int .i64 q, .slice A2 n c2] 24)
  have DO := Blk.new w1 [.int .i64 m, .int .i64 q, .slice A2 n c2] 24
  replace bw := (bw.trans (hb.mono bw.size)).alloc (by omega) (.cells #[.int .i64 m, .int .i64 q, .slice A2 n c2] 24)
  have hG : Gs w (w.heap.size + 2) [(w.heap.size, [.int .i64 m, .int .i64 q, .slice A n c]), (w.heap.size + 1, [.int .i64 0, .int .i64 0, .slice none 0 0]), (w1.heap.size, [.int .i64 m, .int .i64 q, .slice A2 n c2])] m q A2 c2 l l (fun a b => decide ((a < 0 ∨ (a = 0 ∧ b < 0)) ∧ b ≤ a)) f (w1.alloc (.cells #[.int .i64 m, .int .i64 q, .slice A2 n c2] 24)) := {
    mr := Mr.start (by rw [← HN.out]; exact HH.out.1) HH.out.2.2 (fun a b h1 h2 => by simp <;> omega)
    own := ((ho.less (by rw [hsz]; exact Nat.le_refl _)).alloc_ _)
    bx := by intro b hb9; simp only [List.mem_cons, List.mem_nil_iff, or_false] at hb9; rcases hb9 with rfl | rfl | rfl
             · exact D0
             · exact D1
             · exact DO
    ne := by intro b hb9 a ea; have := hA2 a ea; simp only [List.mem_cons, List.mem_nil_iff, or_false] at hb9; rcases hb9 with rfl | rfl | rfl <;> simp <;> omega
    bw := bw
    lo := by omega }
  clear hA2 hs1 hsz bw hb ho D0 D1
  obtain ⟨dO_0, dO_1, dO_2, dO_f0, dO_f1, dO_f2⟩ := Mbx.cells DO
  have D0 : Blk (w1.alloc (.cells #[.int .i64 m, .int .i64 q, .slice A2 n c2] 24)) (w.heap.size) [.int .i64 m, .int .i64 q, .slice A n c] := hG.bx _ (.head _)
  obtain ⟨d0_0, d0_1, d0_2, d0_f0, d0_f1, d0_f2⟩ := Mbx.cells D0
  go_wp2_with fail
  obtain ⟨HO, hHO⟩ : ∃ HO, w1.heap.size = HO := ⟨_, rfl⟩
  clear d0_0 d0_1 d0_2 d0_f0 d0_f1 d0_f2
  clear dO_0 dO_1 dO_2 dO_f0 dO_f1 dO_f2
  clear DO D0
  simp only [hHO] at hG ⊢
  clear hHO
  go_loopw [10] (fun i wr => ∃ (k : Nat) (L : List Int), k ≤ m ∧ i = .int .i64 k ∧ Gs w (w.heap.size + 2) [(w.heap.size, [.int .i64 m, .int .i64 q, .slice A n c]), (w.heap.size + 1, [.int .i64 0, .int .i64 0, .slice none 0 0]), (HO, [.int .i64 m, .int .i64 q, .slice A2 n c2])] m q A2 c2 l L (fun a b => decide ((a < k ∨ (a = k ∧ b < 0)) ∧ b ≤ a)) f wr) (fun i _ => m - (intOf i).toNat)
  case atStart => exact ⟨0, l, Nat.zero_le _, rfl, hG.congr (fun a b h1 h2 => by rfl)⟩
  case round =>
    clear hG
    obtain ⟨i, L, hi, rfl, hG⟩ := hrel
    have D0 : Blk wr (w.heap.size) [.int .i64 m, .int .i64 q, .slice A n c] := hG.bx _ (.head _)
    have DZ : Blk wr (w.heap.size + 1) [.int .i64 0, .int .i64 0, .slice none 0 0] := hG.bx _ (.tail _ (.head _))
    have DO : Blk wr HO [.int .i64 m, .int .i64 q, .slice A2 n c2] := hG.bx _ (.tail _ (.tail _ (.head _)))
    obtain ⟨d0_0, d0_1, d0_2, d0_f0, d0_f1, d0_f2⟩ := Mbx.cells D0
    obtain ⟨dO_0, dO_1, dO_2, dO_f0, dO_f1, dO_f2⟩ := Mbx.cells DO
    obtain ⟨dz_0, dz_1, dz_2, dz_f0, dz_f1, dz_f2⟩ := Mbx.cells DZ
    by_cases hlt : i < m
    · have i0 : (0 : Int) ≤ i := by omega
      have i1 : (i : Int) < m := by omega
      go_wp2_with fail
      clear d0_0 d0_1 d0_2 d0_f0 d0_f1 d0_f2
      clear dO_0 dO_1 dO_2 dO_f0 dO_f1 dO_f2
      clear dz_0 dz_1 dz_2 dz_f0 dz_f1 dz_f2
      clear DO DZ D0
      go_loopw [11] (fun j wr => ∃ (jj : Nat) (L : List Int), jj ≤ i + 1 ∧ j = .int .i64 jj ∧ Gs w (w.heap.size + 2) [(w.heap.size, [.int .i64 m, .int .i64 q, .slice A n c]), (w.heap.size + 1, [.int .i64 0, .int .i64 0, .slice none 0 0]), (HO, [.int .i64 m, .int .i64 q, .slice A2 n c2])] m q A2 c2 l L (fun a b => decide ((a < i ∨ (a = i ∧ b < jj)) ∧ b ≤ a)) f wr) (fun j _ => (i + 1) - (intOf j).toNat)
      case atStart => exact ⟨0, L, by omega, by go_num, hG⟩
      case round =>
        clear hG
        obtain ⟨j, L, hj, rfl, hG⟩ := hrel
        have D0 : Blk wr (w.heap.size) [.int .i64 m, .int .i64 q, .slice A n c] := hG.bx _ (.head _)
        have DZ : Blk wr (w.heap.size + 1) [.int .i64 0, .int .i64 0, .slice none 0 0] := hG.bx _ (.tail _ (.head _))
        have DO : Blk wr HO [.int .i64 m, .int .i64 q, .slice A2 n c2] := hG.bx _ (.tail _ (.tail _ (.head _)))
        obtain ⟨d0_0, d0_1, d0_2, d0_f0, d0_f1, d0_f2⟩ := Mbx.cells D0
        obtain ⟨dO_0, dO_1, dO_2, dO_f0, dO_f1, dO_f2⟩ := Mbx.cells DO
        obtain ⟨dz_0, dz_1, dz_2, dz_f0, dz_f1, dz_f2⟩ := Mbx.cells DZ
        by_cases hjt : j ≤ i
        · have j0 : (0 : Int) ≤ j := by omega
          have j1 : (j : Int) < m := by omega
          have hjq : j < q := by omega
          have hKl := ix_lt hlt hjq
          rw [← hG.mr.len] at hKl
          have hX2 : i * q ≤ 512 * 512 := Nat.mul_le_mul (by omega) hq
          obtain ⟨X, hX⟩ : ∃ X, i * q = X := ⟨_, rfl⟩
          have hXi : (i : Int) * (q : Int) = (X : Int) := by exact_mod_cast hX
          obtain ⟨Kp, hKp⟩ : ∃ Kp, X + j = Kp := ⟨_, rfl⟩
          have hKi : (X : Int) + (j : Int) = (Kp : Int) := by exact_mod_cast hKp
          have HK := Lib.hid (show i * q + j = Kp by rw [hX, hKp])
          rw [hX, hKp] at hKl
          rw [hX] at hX2
          have hKn : Kp < n := by rw [HN.out, ← hG.mr.len]; exact hKl
          obtain ⟨g5, hA5, _, _⟩ := hG.own.at_ hKl
          subst hA5
          have k0 : (0 : Int) ≤ Kp := by omega
          have k1 : (Kp : Int) < n := by omega
          have v1 : IntKind.i64.wrap (X : Int) = X := by rw [IntKind.wrap_i64]; omega
          have v2 : IntKind.i64.wrap (Kp : Int) = Kp := by rw [IntKind.wrap_i64]; omega
          clear hX hKp
          obtain ⟨adxi, hAxi, hbxi, hcxi⟩ := HX.out.at_ (k := i) (by omega)
          obtain ⟨lxi, uxi⟩ := HX.out.2.2.at_ (i)
          have bxi : (D x (i)).toNat ≤ 18446744073709551615 := by omega
          have HVxi : Hid (fa (D x (i)) = af (D x (i)).toNat) := Lib.hid rfl
          have HCxi := Lib.hid (show ∀ W, Below w.heap.size w W → W.cell? (adxi.add (i)) = some (.float .f64 (D x (i)).toNat) from fun W hW => (hW.cell (by rw [add_block]; exact hbxi)).trans hcxi)
          generalize (D x (i)).toNat = Vxi at *
          clear hbxi hcxi lxi uxi
          obtain ⟨adyj, hAyj, hbyj, hcyj⟩ := HY.out.at_ (k := j) (by omega)
          obtain ⟨lyj, uyj⟩ := HY.out.2.2.at_ (j)
          have byj : (D y (j)).toNat ≤ 18446744073709551615 := by omega
          have HVyj : Hid (fa (D y (j)) = af (D y (j)).toNat) := Lib.hid rfl
          have HCyj := Lib.hid (show ∀ W, Below w.heap.size w W → W.cell? (adyj.add (j)) = some (.float .f64 (D y (j)).toNat) from fun W hW => (hW.cell (by rw [add_block]; exact hbyj)).trans hcyj)
          generalize (D y (j)).toNat = Vyj at *
          clear hbyj hcyj lyj uyj
          obtain ⟨adyi, hAyi, hbyi, hcyi⟩ := HY.out.at_ (k := i) (by omega)
          obtain ⟨lyi, uyi⟩ := HY.out.2.2.at_ (i)
          have byi : (D y (i)).toNat ≤ 18446744073709551615 := by omega
          have HVyi : Hid (fa (D y (i)) = af (D y (i)).toNat) := Lib.hid rfl
          have HCyi := Lib.hid (show ∀ W, Below w.heap.size w W → W.cell? (adyi.add (i)) = some (.float .f64 (D y (i)).toNat) from fun W hW => (hW.cell (by rw [add_block]; exact hbyi)).trans hcyi)
          generalize (D y (i)).toNat = Vyi at *
          clear hbyi hcyi lyi uyi
          obtain ⟨adxj, hAxj, hbxj, hcxj⟩ := HX.out.at_ (k := j) (by omega)
          obtain ⟨lxj, uxj⟩ := HX.out.2.2.at_ (j)
          have bxj : (D x (j)).toNat ≤ 18446744073709551615 := by omega
          have HVxj : Hid (fa (D x (j)) = af (D x (j)).toNat) := Lib.hid rfl
          have HCxj := Lib.hid (show ∀ W, Below w.heap.size w W → W.cell? (adxj.add (j)) = some (.float .f64 (D x (j)).toNat) from fun W hW => (hW.cell (by rw [add_block]; exact hbxj)).trans hcxj)
          generalize (D x (j)).toNat = Vxj at *
          clear hbxj hcxj lxj uxj
          rw [hAxi] at hAxj
          injection hAxj with hAxj
          subst hAxj
          rw [hAyj] at hAyi
          injection hAyi with hAyi
          subst hAyi
          subst hAxi hAyj
          have bw0 := hG.bw
          have s0 := HCxi.out wr bw0
          obtain ⟨r1, w1, e1, d1, h1, b1⟩ := run_mul (P := Try.prog) 32 (x := a) (y := Vxi) ba bxi wr
          have bw1 := bw0.trans (d1.below.mono bw0.size)
          replace hG := hG.on d1.below
          have s1 := HCyj.out w1 bw1
          obtain ⟨r2, w2, e2, d2, h2, b2⟩ := run_mul (P := Try.prog) 32 (x := r1) (y := Vyj) b1 byj w1
          have bw2 := bw1.trans (d2.below.mono bw1.size)
          replace hG := hG.on d2.below
          have s2 := HCyi.out w2 bw2
          obtain ⟨r3, w3, e3, d3, h3, b3⟩ := run_mul (P := Try.prog) 32 (x := a) (y := Vyi) ba byi w2
          have bw3 := bw2.trans (d3.below.mono bw2.size)
          replace hG := hG.on d3.below
          have s3 := HCxj.out w3 bw3
          obtain ⟨r4, w4, e4, d4, h4, b4⟩ := run_mul (P := Try.prog) 32 (x := r3) (y := Vxj) b3 bxj w3
          have bw4 := bw3.trans (d4.below.mono bw3.size)
          replace hG := hG.on d4.below
          have D0w : Blk w4 w.heap.size [.int .i64 m, .int .i64 q, .slice A n c] := hG.bx _ (.head _)
          obtain ⟨k_0, k_1, k_2, k_f0, k_f1, k_f2⟩ := Mbx.cells D0w
          have HV := Lib.hid (show af r2 = aop .mul (aop .mul (af a) (fa (D x i))) (fa (D y j)) ∧ af r4 = aop .mul (aop .mul (af a) (fa (D y i))) (fa (D x j)) from ⟨by rw [h2, h1, HVxi.out, HVyj.out], by rw [h4, h3, HVyi.out, HVxj.out]⟩)
          clear h1 h2 h3 h4 D0w d1 d2 d3 d4 HVxi HVyj HVyi HVxj HCxi HCyj HCyi HCxj
          have jq : j < q := by omega
          have ix1 : (i : Int) < nx := by omega
          have jx1 : (j : Int) < nx := by omega
          have iy1 : (i : Int) < ny := by omega
          have jy1 : (j : Int) < ny := by omega
          have i2 : (j : Int) ≤ i := by omega
          go_wp2_with fail
          with_reducible refine (rAt_any (HH.out.on bw4) HN.out hm hq hlt jq).mono ?_
          rintro e w5 ⟨rfl, hb⟩
          clear k_0 k_1 k_2 k_f0 k_f1 k_f2
          clear d0_0 d0_1 d0_2 d0_f0 d0_f1 d0_f2
          clear dO_0 dO_1 dO_2 dO_f0 dO_f1 dO_f2
          clear dz_0 dz_1 dz_2 dz_f0 dz_f1 dz_f2
          clear DO DZ D0
          replace hG := hG.on hb
          obtain ⟨lz, uz⟩ := HH.out.2.2.at_ (i * q + j)
          have bZ : (D l (i * q + j)).toNat ≤ 18446744073709551615 := by omega
          have HZ : Hid (af (D l (i * q + j)).toNat = ma l q i j) := Lib.hid rfl
          generalize (D l (i * q + j)).toNat = Z9 at *
          clear lz uz hb s0 s1 s2 s3 bw0 bw1 bw2 bw3 bw4 e1 e2 e3 e4
          obtain ⟨r5, w6, e5, d5, h5, b5⟩ := run_add (P := Try.prog) 32 (x := Z9) (y := r2) bZ b2 w5
          obtain ⟨r6, w7, e6, d6, h6, b6⟩ := run_add (P := Try.prog) 32 (x := r5) (y := r4) b5 b4 w6
          have HR : Hid (af r6 = f i j) := Lib.hid (by rw [h6, h5, HZ.out, HV.out.1, HV.out.2]; exact Hf.out i j)
          clear h5 h6 HZ HV
          replace hG := hG.on d5.below
          have D0 : Blk w6 w.heap.size [.int .i64 m, .int .i64 q, .slice A n c] := hG.bx _ (.head _)
          have DO : Blk w6 HO [.int .i64 m, .int .i64 q, .slice (some ⟨g5, 0, none⟩) n c2] := hG.bx _ (.tail _ (.tail _ (.head _)))
          obtain ⟨d0_0, d0_1, d0_2, d0_f0, d0_f1, d0_f2⟩ := Mbx.cells D0
          obtain ⟨dO_0, dO_1, dO_2, dO_f0, dO_f1, dO_f2⟩ := Mbx.cells DO
          replace hG := hG.on d6.below
          obtain ⟨hc5, hf5⟩ := hG.cell hKl
          clear d5 d6
          replace hG := hG.set (Q := fun a b => decide ((a < i ∨ (a = i ∧ b < (j + 1))) ∧ b ≤ a)) HK.out hlt hjq (r := r6) HR.out b6 (fun a b h1 h2 => by simp only [← Bool.decide_or, decide_eq_decide]; omega)
          go_wp2_with fail
          go_roundw
          case rel => exact ⟨j + 1, _, by omega, by go_num, hG⟩
          case measure => simp [intOf]; omega
        · have hG9 := hG.congr (Q := fun a b => decide ((a < (i + 1) ∨ (a = (i + 1) ∧ b < 0)) ∧ b ≤ a)) (fun a b h1 h2 => by simp only [decide_eq_decide]; omega)
          go_wp2_with fail
          go_roundw
          case rel => exact ⟨i + 1, L, by omega, by go_num, hG9⟩
          case measure => simp [intOf]; omega
    · obtain rfl : i = m := by omega
      go_wp2_with fail
      refine bodyPost_ret (v := mV i q A2 n c2) (by simp [results, Try.results42, go_sem, *]) rfl ?_
      exact ⟨A2, c2, L, rfl, by rw [HN.out]; exact (hG.mr.congr (fun a b h1 h2 => by simp only [decide_eq_decide]; omega)).is, by first | exact hG.own.less (by omega) | exact (hG.own.grown_ (set3_grown _ _ _ _ _) (fun a e e2 => by injection e2 with e3; exact hG.ne _ (.tail _ (.head _)) a e e3.symm)).less (by omega), by first | exact hG.bw | exact hG.bw.grown (set3_grown _ _ _ _ _) hG.bw.size (fun k e => by cases e; omega)⟩
end
end Go.Proofs.Ytfelmkkkaphkpaa
