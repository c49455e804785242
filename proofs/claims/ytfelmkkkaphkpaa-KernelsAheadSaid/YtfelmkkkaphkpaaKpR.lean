/-
  what the law KernelsAhead calls
-/
import Derived.Test.YtfelmkkkaphkpaaKnT
import Derived.Test.YtfelmkkkaphkpaaKnW
import Derived.Test.YtfelmkkkaphkpaaKnP
import Derived.Test.YtfelmkkkaphkpaaKnF
import Derived.Test.YtfelmkkkaphkpaaKlA
import Derived.Test.YtfelmkkkaphkpaaRgT
import Derived.Test.YtfelmkkkaphkpaaKRgV
import Derived.OrdersHeld
import Derived.Deep.RegionHeld
import Derived.Below
namespace Go.Proofs.Ytfelmkkkaphkpaa
open Go.RowKit Go.Bw Go.Sort Go.Shelf
set_option linter.unusedVariables false
set_option linter.unusedSimpArgs false
attribute [local go_sem] run_store_float

section
variable {w : World} {m q n c : Nat} {A : Option Addr} {l : List Int}
set_option maxRecDepth 100000 in
set_option maxHeartbeats 8000000 in
theorem rGer_any {a nx cx ny cy : Nat} {Ax Ay : Option Addr} {x y : List Int} (ba : a ≤ 18446744073709551615) (h : FL w A n c l) (hn : n = m * q) (hm : m ≤ 512) (hq : q ≤ 512) (hx : FL w Ax nx cx x) (hy : FL w Ay ny cy y) (hxm : m ≤ nx) (hyq : q ≤ ny) :
    Calls Try.prog 40 #[.float .f64 a, .slice Ax nx cx, .slice Ay ny cy, mV m q A n c] w (NewMt w m q n (tg (fun a b => true) (fun i j => aop .add (ma l q i j) (aop .mul (aop .mul (af a) (fa (D x i))) (fa (D y j)))) l q)) := by
  obtain ⟨f, hf⟩ : ∃ f : Nat → Nat → Option Nat, (fun i j => aop .add (ma l q i j) (aop .mul (aop .mul (af a) (fa (D x i))) (fa (D y j)))) = f := ⟨_, rfl⟩
  have Hf := Lib.hid (show ∀ i j, aop .add (ma l q i j) (aop .mul (aop .mul (af a) (fa (D x i))) (fa (D y j))) = f i j from fun i j => by rw [← hf])
  rw [hf]
  clear hf
  have hn4 : n ≤ 262144 := by rw [hn]; exact Nat.le_trans (Nat.mul_le_mul hm hq) (by omega)
  have HH := Lib.hid h
  have HN := Lib.hid hn
  clear h hn
  have HX := Lib.hid hx
  have HY := Lib.hid hy
  have hmx := hx.max
  have hmy := hy.max
  clear hx hy
  have D0 := Blk.new w [.int .i64 m, .int .i64 q, .slice A n c] 24
  have D1 := Blk.new (w.alloc (.cells #[.int .i64 m, .int .i64 q, .slice A n c] 24)) [.int .i64 0, .int .i64 0, .slice none 0 0] 24
  replace D0 := D0.alloc (.cells #[.int .i64 0, .int .i64 0, .slice none 0 0] 24)
  simp only [World.size_alloc] at D1
  have bw := ((Below.refl _ w).alloc (Nat.le_refl _) (.cells #[.int .i64 m, .int .i64 q, .slice A n c] 24)).alloc (by simp <;> omega) (.cells #[.int .i64 0, .int .i64 0, .slice none 0 0] 24)
  have hsz : ((w.alloc (.cells #[.int .i64 m, .int .i64 q, .slice A n c] 24)).alloc (.cells #[.int .i64 0, .int .i64 0, .slice none 0 0] 24)).heap.size = w.heap.size + 2 := by simp
  obtain ⟨d0_0, d0_1, d0_2, d0_f0, d0_f1, d0_f2⟩ := Mbx.cells D0
  have pc := rCopy_any (m := m) (q := q) (HH.out.on bw) hn4
  go_enter Try.func40, Try.ntmps40
  go_wp2_with fail
  with_reducible refine pc.mono ?_
  rintro e w1 ⟨A2, c2, rfl, ho, hb⟩
  clear pc
  clear d0_0 d0_1 d0_2 d0_f0 d0_f1 d0_f2
  have hA2 : ∀ a, A2 = some a → w.heap.size + 2 ≤ a.block ∧ a.block < w1.heap.size := fun a e => by have := ho.gt e; rw [hsz] at this; exact this
  have hs1 := hb.size
  rw [hsz] at hs1
  replace D0 := (D0.on hb).alloc (.cells #[.int .i64 m, .int .i64 q, .slice A2 n c2] 24)
  replace D1 := (D1.on hb).alloc (.cells #[.int .i64 m, .int .i64 q, .slice A2 n c2] 24)
  have DO := Blk.new w1 [.int .i64 m, .int .i64 q, .slice A2 n c2] 24
  replace bw := (bw.trans (hb.mono bw.size)).alloc (by omega) (.cells #[.int .i64 m, .int .i64 q, .slice A2 n c2] 24)
  have hG : Gs w (w.heap.size + 2) [(w.heap.size, [.int .i64 m, .int .i64 q, .slice A n c]), (w.heap.size + 1, [.int .i64 0, .int .i64 0, .slice none 0 0]), (w1.heap.size, [.int .i64 m, .int .i64 q, .slice A2 n c2])] m q A2 c2 l l (fun a b => decide (a < 0 ∨ (a = 0 ∧ b < 0))) f (w1.alloc (.cells #[.int .i64 m, .int .i64 q, .slice A2 n c2] 24)) := {
    mr := Mr.start (by rw [← HN.out]; exact HH.out.1) HH.out.2.2 (fun a b h1 h2 => by simp <;> omega)
    own := ((ho.less (by rw [hsz]; exact Nat.le_refl _)).alloc_ _)
    bx := by intro b hb9; simp only [List.mem_cons, List.mem_nil_iff, or_false] at hb9; rcases hb9 with rfl | rfl | rfl
             · exact D0
             · exact D1
             · exact DO
    ne := by intro b hb9 a ea; have := hA2 a ea; simp only [List.mem_cons, List.mem_nil_iff, or_false] at hb9; rcases hb9 with rfl | rfl | rfl <;> simp <;> omega
    bw := bw
    lo := by omega }
  clear hA2 hs1 hsz bw hb ho D0 D1
  obtain ⟨dO_0, dO_1, dO_2, dO_f0, dO_f1, dO_f2⟩ := Mbx.cells DO
  have D0 : Blk (w1.alloc (.cells #[.int .i64 m, .int .i64 q, .slice A2 n c2] 24)) (w.heap.size) [.int .i64 m, .int .i64 q, .slice A n c] := hG.bx _ (.head _)
  obtain ⟨d0_0, d0_1, d0_2, d0_f0, d0_f1, d0_f2⟩ := Mbx.cells D0
  go_wp2_with fail
  obtain ⟨HO, hHO⟩ : ∃ HO, w1.heap.size = HO := ⟨_, rfl⟩
  clear d0_0 d0_1 d0_2 d0_f0 d0_f1 d0_f2
  clear dO_0 dO_1 dO_2 dO_f0 dO_f1 dO_f2
  clear DO D0
  simp only [hHO] at hG ⊢
  clear hHO
  go_loopw [10] (fun i wr => ∃ (k : Nat) (L : List Int), k ≤ m ∧ i = .int .i64 k ∧ Gs w (w.heap.size + 2) [(w.heap.size, [.int .i64 m, .int .i64 q, .slice A n c]), (w.heap.size + 1, [.int .i64 0, .int .i64 0, .slice none 0 0]), (HO, [.int .i64 m, .int .i64 q, .slice A2 n c2])] m q A2 c2 l L (fun a b => decide (a < k ∨ (a = k ∧ b < 0))) f wr) (fun i _ => m - (intOf i).toNat)
  case atStart => exact ⟨0, l, Nat.zero_le _, rfl, hG.congr (fun a b h1 h2 => by simp)⟩
  case round =>
    clear hG
    obtain ⟨i, L, hi, rfl, hG⟩ := hrel
    have D0 : Blk wr (w.heap.size) [.int .i64 m, .int .i64 q, .slice A n c] := hG.bx _ (.head _)
    have DZ : Blk wr (w.heap.size + 1) [.int .i64 0, .int .i64 0, .slice none 0 0] := hG.bx _ (.tail _ (.head _))
    have DO : Blk wr HO [.int .i64 m, .int .i64 q, .slice A2 n c2] := hG.bx _ (.tail _ (.tail _ (.head _)))
    obtain ⟨d0_0, d0_1, d0_2, d0_f0, d0_f1, d0_f2⟩ := Mbx.cells D0
    obtain ⟨dO_0, dO_1, dO_2, dO_f0, dO_f1, dO_f2⟩ := Mbx.cells DO
    obtain ⟨dz_0, dz_1, dz_2, dz_f0, dz_f1, dz_f2⟩ := Mbx.cells DZ
    by_cases hlt : i < m
    · have i0 : (0 : Int) ≤ i := by omega
      have i1 : (i : Int) < m := by omega
      go_wp2_with fail
      clear d0_0 d0_1 d0_2 d0_f0 d0_f1 d0_f2
      clear dO_0 dO_1 dO_2 dO_f0 dO_f1 dO_f2
      clear dz_0 dz_1 dz_2 dz_f0 dz_f1 dz_f2
      clear DO DZ D0
      go_loopw [11] (fun j wr => ∃ (jj : Nat) (L : List Int), jj ≤ q ∧ j = .int .i64 jj ∧ Gs w (w.heap.size + 2) [(w.heap.size, [.int .i64 m, .int .i64 q, .slice A n c]), (w.heap.size + 1, [.int .i64 0, .int .i64 0, .slice none 0 0]), (HO, [.int .i64 m, .int .i64 q, .slice A2 n c2])] m q A2 c2 l L (fun a b => decide (a < i ∨ (a = i ∧ b < jj))) f wr) (fun j _ => q - (intOf j).toNat)
      case atStart => exact ⟨0, L, by omega, by go_num, hG⟩
      case round =>
        clear hG
        obtain ⟨j, L, hj, rfl, hG⟩ := hrel
        have D0 : Blk wr (w.heap.size) [.int .i64 m, .int .i64 q, .slice A n c] := hG.bx _ (.head _)
        have DZ : Blk wr (w.heap.size + 1) [.int .i64 0, .int .i64 0, .slice none 0 0] := hG.bx _ (.tail _ (.head _))
        have DO : Blk wr HO [.int .i64 m, .int .i64 q, .slice A2 n c2] := hG.bx _ (.tail _ (.tail _ (.head _)))
        obtain ⟨d0_0, d0_1, d0_2, d0_f0, d0_f1, d0_f2⟩ := Mbx.cells D0
        obtain ⟨dO_0, dO_1, dO_2, dO_f0, dO_f1, dO_f2⟩ := Mbx.cells DO
        obtain ⟨dz_0, dz_1, dz_2, dz_f0, dz_f1, dz_f2⟩ := Mbx.cells DZ
        by_cases hjt : j < q
        · have j0 : (0 : Int) ≤ j := by omega
          have j1 : (j : Int) < q := by omega
          have hjq : j < q := by omega
          have hKl := ix_lt hlt hjq
          rw [← hG.mr.len] at hKl
          have hX2 : i * q ≤ 512 * 512 := Nat.mul_le_mul (by omega) hq
          obtain ⟨X, hX⟩ : ∃ X, i * q = X := ⟨_, rfl⟩
          have hXi : (i : Int) * (q : Int) = (X : Int) := by exact_mod_cast hX
          obtain ⟨Kp, hKp⟩ : ∃ Kp, X + j = Kp := ⟨_, rfl⟩
          have hKi : (X : Int) + (j : Int) = (Kp : Int) := by exact_mod_cast hKp
          have HK := Lib.hid (show i * q + j = Kp by rw [hX, hKp])
          rw [hX, hKp] at hKl
          rw [hX] at hX2
          have hKn : Kp < n := by rw [HN.out, ← hG.mr.len]; exact hKl
          obtain ⟨g5, hA5, _, _⟩ := hG.own.at_ hKl
          subst hA5
          have k0 : (0 : Int) ≤ Kp := by omega
          have k1 : (Kp : Int) < n := by omega
          have v1 : IntKind.i64.wrap (X : Int) = X := by rw [IntKind.wrap_i64]; omega
          have v2 : IntKind.i64.wrap (Kp : Int) = Kp := by rw [IntKind.wrap_i64]; omega
          clear hX hKp
          obtain ⟨adx, hAx, hbx, hcx⟩ := (HX.out.on hG.bw).at_ (k := i) (by omega)
          obtain ⟨lx, ux⟩ := HX.out.2.2.at_ i
          obtain ⟨ady, hAy, hby, hcy⟩ := (HY.out.on hG.bw).at_ (k := j) (by omega)
          obtain ⟨ly, uy⟩ := HY.out.2.2.at_ j
          have bX : (D x i).toNat ≤ 18446744073709551615 := by omega
          have bY : (D y j).toNat ≤ 18446744073709551615 := by omega
          obtain ⟨r1, w1, e1, d1, h1, b1⟩ := run_mul (P := Try.prog) 32 (x := a) (y := (D x i).toNat) ba bX wr
          obtain ⟨r2, w2, e2, d2, h2, b2⟩ := run_mul (P := Try.prog) 32 (x := r1) (y := (D y j).toNat) b1 bY w1
          have H2 : Hid (af r2 = aop .mul (aop .mul (af a) (fa (D x i))) (fa (D y j))) := Lib.hid (by rw [h2, h1]; rfl)
          clear h1 h2
          have hc1y : w1.cell? (ady.add j) = some (.float .f64 (D y j).toNat) := (d1.below.cell (by rw [add_block]; exact hby)).trans hcy
          replace hG := hG.on (d1.trans d2).below
          generalize (D x i).toNat = X9 at *
          generalize (D y j).toNat = Y9 at *
          subst hAx hAy
          clear lx ux ly uy hbx hby
          have ix1 : (i : Int) < nx := by omega
          have jy1 : (j : Int) < ny := by omega
          go_wp2_with fail
          clear d0_0 d0_1 d0_2 d0_f0 d0_f1 d0_f2
          clear dO_0 dO_1 dO_2 dO_f0 dO_f1 dO_f2
          clear dz_0 dz_1 dz_2 dz_f0 dz_f1 dz_f2
          clear DO DZ D0
          clear hcx hcy hc1y e1 e2 d1 d2
          replace hG := hG.on (Below.refl _ _).drew
          have bz := Below.refl w2.drew.heap.size w2.drew
          refine wp_region_held_drew (S := fun w9 : World => Mbx w9 w.heap.size m q A n c ∧ Mbx w9 HO m q (some ⟨g5, 0, none⟩) n c2) (by kernel_rfl) ⟨hG.bx _ (.head _), hG.bx _ (.tail _ (.tail _ (.head _)))⟩ (fun hS => ?_)
          generalize w2.drew = wd at hS hG  bz ⊢
          refine wpAnyH_take (i := 0) (v := ?v0_1) rfl (by kernel_rfl) (by kernel_rfl) (by kernel_rfl) (fun _ _ _ h => h) (Or.inl ⟨by rfl, ?hy0_1⟩) (by assumption) ?rest0_1
          case hy0_1 => (intro w9 hSw; clear hSw; go_simp; try with_reducible rfl)
          try simp only [Act.put, List.setIfInBounds_toArray, List.set_cons_zero, List.set_cons_succ, List.getElem_toArray, List.getElem_cons_zero, List.getElem_cons_succ]
          refine wpAnyH_take (i := 1) (v := ?v1_2) rfl (by kernel_rfl) (by kernel_rfl) (by kernel_rfl) (fun _ _ _ h => h) (Or.inl ⟨by rfl, ?hy1_2⟩) (by assumption) ?rest1_2
          case hy1_2 => (intro w9 hSw; obtain ⟨m1, m2⟩ := hSw; obtain ⟨c0, c1, c2, f0, f1, f2⟩ := Mbx.cells m1; obtain ⟨z0, z1, z2, y0, y1, y2⟩ := Mbx.cells m2; go_simp; try with_reducible rfl)
          try simp only [Act.put, List.setIfInBounds_toArray, List.set_cons_zero, List.set_cons_succ, List.getElem_toArray, List.getElem_cons_zero, List.getElem_cons_succ]
          refine wpAnyH_take (i := 2) (v := ?v2_3) rfl (by kernel_rfl) (by kernel_rfl) (by kernel_rfl) (fun _ _ _ h => h) (Or.inl ⟨by rfl, ?hy2_3⟩) (by assumption) ?rest2_3
          case hy2_3 => (intro w9 hSw; clear hSw; go_simp; try with_reducible rfl)
          try simp only [Act.put, List.setIfInBounds_toArray, List.set_cons_zero, List.set_cons_succ, List.getElem_toArray, List.getElem_cons_zero, List.getElem_cons_succ]
          refine wpAnyH_take (i := 3) (v := ?v3_4) rfl (by kernel_rfl) (by kernel_rfl) (by kernel_rfl) (fun _ _ _ h => h) (Or.inl ⟨by rfl, ?hy3_4⟩) (by assumption) ?rest3_4
          case hy3_4 => (intro w9 hSw; clear hSw; go_simp; try with_reducible rfl)
          try simp only [Act.put, List.setIfInBounds_toArray, List.set_cons_zero, List.set_cons_succ, List.getElem_toArray, List.getElem_cons_zero, List.getElem_cons_succ]
          refine wpAnyH_take (i := 4) (v := ?v4_5) rfl (by kernel_rfl) (by kernel_rfl) (by kernel_rfl) (fun _ _ _ h => h) (Or.inl ⟨by rfl, ?hy4_5⟩) (by assumption) ?rest4_5
          case hy4_5 => (intro w9 hSw; obtain ⟨m1, m2⟩ := hSw; obtain ⟨c0, c1, c2, f0, f1, f2⟩ := Mbx.cells m1; obtain ⟨z0, z1, z2, y0, y1, y2⟩ := Mbx.cells m2; go_simp; try with_reducible rfl)
          try simp only [Act.put, List.setIfInBounds_toArray, List.set_cons_zero, List.set_cons_succ, List.getElem_toArray, List.getElem_cons_zero, List.getElem_cons_succ]
          refine wpAnyH_take (i := 5) (v := ?v5_6) rfl (by kernel_rfl) (by kernel_rfl) (by kernel_rfl) (fun _ _ _ h => h) (Or.inl ⟨by rfl, ?hy5_6⟩) (by assumption) ?rest5_6
          case hy5_6 => (intro w9 hSw; clear hSw; go_simp; try with_reducible rfl)
          try simp only [Act.put, List.setIfInBounds_toArray, List.set_cons_zero, List.set_cons_succ, List.getElem_toArray, List.getElem_cons_zero, List.getElem_cons_succ]
          refine wpAnyH_take (i := 6) (v := ?v6_7) rfl (by kernel_rfl) (by kernel_rfl) (by kernel_rfl) (fun _ _ _ h => h) (Or.inl ⟨by rfl, ?hy6_7⟩) (by assumption) ?rest6_7
          case hy6_7 => (intro w9 hSw; clear hSw; go_simp; try with_reducible rfl)
          try simp only [Act.put, List.setIfInBounds_toArray, List.set_cons_zero, List.set_cons_succ, List.getElem_toArray, List.getElem_cons_zero, List.getElem_cons_succ]
          refine wpAnyH_take (i := 7) (v := ?v7_8) rfl (by kernel_rfl) (by kernel_rfl) (by kernel_rfl) (fun _ _ _ h => h) (Or.inl ⟨by rfl, ?hy7_8⟩) (by assumption) ?rest7_8
          case hy7_8 => (intro w9 hSw; clear hSw; go_simp; try with_reducible rfl)
          try simp only [Act.put, List.setIfInBounds_toArray, List.set_cons_zero, List.set_cons_succ, List.getElem_toArray, List.getElem_cons_zero, List.getElem_cons_succ]
          refine wpAnyH_take (i := 8) (v := ?v8_9) rfl (by kernel_rfl) (by kernel_rfl) (by kernel_rfl) (fun _ _ _ h => h) (Or.inl ⟨by rfl, ?hy8_9⟩) (by assumption) ?rest8_9
          case hy8_9 => (intro w9 hSw; obtain ⟨m1, m2⟩ := hSw; obtain ⟨c0, c1, c2, f0, f1, f2⟩ := Mbx.cells m1; obtain ⟨z0, z1, z2, y0, y1, y2⟩ := Mbx.cells m2; go_simp; try with_reducible rfl)
          try simp only [Act.put, List.setIfInBounds_toArray, List.set_cons_zero, List.set_cons_succ, List.getElem_toArray, List.getElem_cons_zero, List.getElem_cons_succ]
          refine wpAnyH_take (i := 9) (v := ?v9_10) rfl (by kernel_rfl) (by kernel_rfl) (by kernel_rfl) (fun _ _ _ h => h) (Or.inl ⟨by rfl, ?hy9_10⟩) (by assumption) ?rest9_10
          case hy9_10 => (intro w9 hSw; clear hSw; go_simp; try with_reducible rfl)
          try simp only [Act.put, List.setIfInBounds_toArray, List.set_cons_zero, List.set_cons_succ, List.getElem_toArray, List.getElem_cons_zero, List.getElem_cons_succ]
          refine wpAnyH_take (i := 10) (v := ?v10_11) rfl (by kernel_rfl) (by kernel_rfl) (by kernel_rfl) (fun _ _ _ h => h) (Or.inl ⟨by rfl, ?hy10_11⟩) (by assumption) ?rest10_11
          case hy10_11 => (intro w9 hSw; clear hSw; go_simp; try with_reducible rfl)
          try simp only [Act.put, List.setIfInBounds_toArray, List.set_cons_zero, List.set_cons_succ, List.getElem_toArray, List.getElem_cons_zero, List.getElem_cons_succ]
          refine wpAnyH_take (i := 12) (v := ?v12_12) rfl (by kernel_rfl) (by kernel_rfl) (by kernel_rfl) (fun _ _ _ h => h) (Or.inl ⟨by rfl, ?hy12_12⟩) (by assumption) ?rest12_12
          case hy12_12 => (intro w9 hSw; clear hSw; go_simp; try with_reducible rfl)
          try simp only [Act.put, List.setIfInBounds_toArray, List.set_cons_zero, List.set_cons_succ, List.getElem_toArray, List.getElem_cons_zero, List.getElem_cons_succ]
          refine wpAnyH_ready (rs := [11]) (by kernel_rfl) (by simp) ?_
          refine AllReadyH.cons rfl (fun K hK => ?_) AllReadyH.nil
          go_simp
          with_reducible refine (rAt_any (HH.out.on hG.bw) HN.out hm hq hlt hjq).mono ?_
          rintro e w3 ⟨rfl, hb⟩
          replace hG := hG.on hb
          replace bz := bz.trans (hb.mono bz.size)
          clear hb
          obtain ⟨lz, uz⟩ := HH.out.2.2.at_ (i * q + j)
          have bZ : (D l (i * q + j)).toNat ≤ 18446744073709551615 := by omega
          have HZ : Hid (af (D l (i * q + j)).toNat = ma l q i j) := Lib.hid rfl
          generalize (D l (i * q + j)).toNat = Z9 at *
          clear lz uz
          refine hK.out _ _ ⟨hG.bx _ (.head _), hG.bx _ (.tail _ (.tail _ (.head _)))⟩ (fun hH => ?_)
          clear hK K hS
          have hS := hH
          clear hH
          try simp only [Act.put, List.setIfInBounds_toArray, List.set_cons_zero, List.set_cons_succ, List.getElem_toArray, List.getElem_cons_zero, List.getElem_cons_succ]
          refine wpAnyH_ready (rs := [13]) (by kernel_rfl) (by simp) ?_
          refine AllReadyH.cons rfl (fun K hK => ?_) AllReadyH.nil
          refine step_arith .add (.inl rfl) rfl _ _ _ _ Z9 r2 rfl rfl rfl bZ b2 ?_
          intro rA w4 hb hA bA hdr
          have HA := Lib.hid hA
          clear hA hdr
          replace hG := hG.on hb
          replace bz := bz.trans (hb.mono bz.size)
          clear hb
          refine hK.out _ _ ⟨hG.bx _ (.head _), hG.bx _ (.tail _ (.tail _ (.head _)))⟩ (fun hH => ?_)
          clear hK K hS
          have hS := hH
          clear hH
          try simp only [Act.put, List.setIfInBounds_toArray, List.set_cons_zero, List.set_cons_succ, List.getElem_toArray, List.getElem_cons_zero, List.getElem_cons_succ]
          refine wpAnyH_take (i := 14) (v := ?v14_13) rfl (by kernel_rfl) (by kernel_rfl) (by kernel_rfl) (fun _ _ _ h => h) (Or.inl ⟨by rfl, ?hy14_13⟩) (by assumption) ?rest14_13
          case hy14_13 => (intro w9 hSw; clear hSw; go_simp; try with_reducible rfl)
          try simp only [Act.put, List.setIfInBounds_toArray, List.set_cons_zero, List.set_cons_succ, List.getElem_toArray, List.getElem_cons_zero, List.getElem_cons_succ]
          obtain ⟨hc5, hf5⟩ := hG.cell hKl
          refine wpAnyH_ready (rs := [15]) (by kernel_rfl) (by simp) ?_
          refine AllReadyH.cons rfl (fun K hK => ?_) AllReadyH.nil
          go_simp
          replace hG := hG.set (Q := fun a b => decide (a < i ∨ (a = i ∧ b < (j + 1)))) HK.out hlt hjq (r := rA) (by rw [HA.out, HZ.out, H2.out]; exact Hf.out i j) bA (fun a b h1 h2 => by simp only [← Bool.decide_or, decide_eq_decide]; omega)
          replace hKl : Kp < (L.set Kp (rA : Int)).length := by rw [List.length_set]; exact hKl
          clear bz
          have bz := Below.refl w.heap.size w
          refine hK.out _ _ ⟨hG.bx _ (.head _), hG.bx _ (.tail _ (.tail _ (.head _)))⟩ (fun hH => ?_)
          clear hK K hS
          have hS := hH
          clear hH
          try simp only [Act.put, List.setIfInBounds_toArray, List.set_cons_zero, List.set_cons_succ, List.getElem_toArray, List.getElem_cons_zero, List.getElem_cons_succ]
          refine wpAnyH_done (by kernel_rfl) ?_ _
          go_wp2_with fail
          go_roundw
          case rel => exact ⟨j + 1, _, by omega, by go_num, hG⟩
          case measure => simp [intOf]; omega
        · have hG9 := hG.congr (Q := fun a b => decide (a < (i + 1) ∨ (a = (i + 1) ∧ b < 0))) (fun a b h1 h2 => by simp only [decide_eq_decide]; omega)
          go_wp2_with fail
          go_roundw
          case rel => exact ⟨i + 1, L, by omega, by go_num, hG9⟩
          case measure => simp [intOf]; omega
    · obtain rfl : i = m := by omega
      go_wp2_with fail
      refine bodyPost_ret (v := mV i q A2 n c2) (by simp [results, Try.results40, go_sem, *]) rfl ?_
      exact ⟨A2, c2, L, rfl, by rw [HN.out]; exact (hG.mr.congr (fun a b h1 h2 => by simp <;> omega)).is, by first | exact hG.own.less (by omega) | exact (hG.own.grown_ (set3_grown _ _ _ _ _) (fun a e e2 => by injection e2 with e3; exact hG.ne _ (.tail _ (.head _)) a e e3.symm)).less (by omega), by first | exact hG.bw | exact hG.bw.grown (set3_grown _ _ _ _ _) hG.bw.size (fun k e => by cases e; omega)⟩
end
end Go.Proofs.Ytfelmkkkaphkpaa
namespace Go.Proofs.Ytfelmkkkaphkpaa
open Go.RowKit Go.Bw Go.Sort Go.Shelf
set_option linter.unusedVariables false
set_option linter.unusedSimpArgs false
attribute [local go_sem] run_store_float

theorem dot_rows {lm ln L : List Int} {p q i j : Nat} (h : Is L p (fun k => ma ln q k j)) : dotA ((lm.drop (i * p)).take p) L p = sumA (fun t => aop .mul (ma lm p i t) (ma ln q t j)) p := by
  unfold dotA
  exact sumA_congr fun t ht => by rw [D_row ht, h.at_ t ht]
section
variable {w : World} {m q n c : Nat} {A : Option Addr} {l : List Int}
set_option maxRecDepth 100000 in
set_option maxHeartbeats 8000000 in
theorem rGemm_any {a b p nm cm nn cn : Nat} {Am An : Option Addr} {lm ln : List Int} (ba : a ≤ 18446744073709551615) (bb : b ≤ 18446744073709551615) (h : FL w A n c l) (hn : n = m * q) (hm : m ≤ 512) (hq : q ≤ 512) (hM : FL w Am nm cm lm) (hnm : nm = m * p) (hp : p ≤ 512) (hL : FL w An nn cn ln) (hnn : nn = p * q) :
    Calls Try.prog 44 #[.float .f64 a, mV m p Am nm cm, mV p q An nn cn, .float .f64 b, mV m q A n c] w (NewMt w m q n (tg (fun a b => true) (fun i j => bothA (af b) (ma l q i j) (af a) (sumA (fun t => aop .mul (ma lm p i t) (ma ln q t j)) p)) l q)) := by
  obtain ⟨f, hf⟩ : ∃ f : Nat → Nat → Option Nat, (fun i j => bothA (af b) (ma l q i j) (af a) (sumA (fun t => aop .mul (ma lm p i t) (ma ln q t j)) p)) = f := ⟨_, rfl⟩
  have Hf := Lib.hid (show ∀ i j, bothA (af b) (ma l q i j) (af a) (sumA (fun t => aop .mul (ma lm p i t) (ma ln q t j)) p) = f i j from fun i j => by rw [← hf])
  rw [hf]
  clear hf
  have hn4 : n ≤ 262144 := by rw [hn]; exact Nat.le_trans (Nat.mul_le_mul hm hq) (by omega)
  have HH := Lib.hid h
  have HN := Lib.hid hn
  clear h hn
  have HM := Lib.hid hM
  have HL := Lib.hid hL
  have HNM := Lib.hid hnm
  have HNL := Lib.hid hnn
  clear hM hL hnm hnn
  have D0 := Blk.new w [.int .i64 m, .int .i64 p, .slice Am nm cm] 24
  have D1 := Blk.new (w.alloc (.cells #[.int .i64 m, .int .i64 p, .slice Am nm cm] 24)) [.int .i64 p, .int .i64 q, .slice An nn cn] 24
  replace D0 := D0.alloc (.cells #[.int .i64 p, .int .i64 q, .slice An nn cn] 24)
  simp only [World.size_alloc] at D1
  have D2 := Blk.new ((w.alloc (.cells #[.int .i64 m, .int .i64 p, .slice Am nm cm] 24)).alloc (.cells #[.int .i64 p, .int .i64 q, .slice An nn cn] 24)) [.int .i64 m, .int .i64 q, .slice A n c] 24
  replace D0 := D0.alloc (.cells #[.int .i64 m, .int .i64 q, .slice A n c] 24)
  replace D1 := D1.alloc (.cells #[.int .i64 m, .int .i64 q, .slice A n c] 24)
  simp only [World.size_alloc] at D2
  have D3 := Blk.new (((w.alloc (.cells #[.int .i64 m, .int .i64 p, .slice Am nm cm] 24)).alloc (.cells #[.int .i64 p, .int .i64 q, .slice An nn cn] 24)).alloc (.cells #[.int .i64 m, .int .i64 q, .slice A n c] 24)) [.int .i64 0, .int .i64 0, .slice none 0 0] 24
  replace D0 := D0.alloc (.cells #[.int .i64 0, .int .i64 0, .slice none 0 0] 24)
  replace D1 := D1.alloc (.cells #[.int .i64 0, .int .i64 0, .slice none 0 0] 24)
  replace D2 := D2.alloc (.cells #[.int .i64 0, .int .i64 0, .slice none 0 0] 24)
  simp only [World.size_alloc] at D3
  have bw := ((((Below.refl _ w).alloc (Nat.le_refl _) (.cells #[.int .i64 m, .int .i64 p, .slice Am nm cm] 24)).alloc (by simp <;> omega) (.cells #[.int .i64 p, .int .i64 q, .slice An nn cn] 24)).alloc (by simp <;> omega) (.cells #[.int .i64 m, .int .i64 q, .slice A n c] 24)).alloc (by simp <;> omega) (.cells #[.int .i64 0, .int .i64 0, .slice none 0 0] 24)
  have hsz : ((((w.alloc (.cells #[.int .i64 m, .int .i64 p, .slice Am nm cm] 24)).alloc (.cells #[.int .i64 p, .int .i64 q, .slice An nn cn] 24)).alloc (.cells #[.int .i64 m, .int .i64 q, .slice A n c] 24)).alloc (.cells #[.int .i64 0, .int .i64 0, .slice none 0 0] 24)).heap.size = w.heap.size + 4 := by simp
  obtain ⟨d0_0, d0_1, d0_2, d0_f0, d0_f1, d0_f2⟩ := Mbx.cells D0
  obtain ⟨d1_0, d1_1, d1_2, d1_f0, d1_f1, d1_f2⟩ := Mbx.cells D1
  obtain ⟨d2_0, d2_1, d2_2, d2_f0, d2_f1, d2_f2⟩ := Mbx.cells D2
  have pc := rCopy_any (m := m) (q := q) (HH.out.on bw) hn4
  go_enter Try.func44, Try.ntmps44
  go_wp2_with fail
  with_reducible refine pc.mono ?_
  rintro e w1 ⟨A2, c2, rfl, ho, hb⟩
  clear pc
  clear d0_0 d0_1 d0_2 d0_f0 d0_f1 d0_f2
  clear d1_0 d1_1 d1_2 d1_f0 d1_f1 d1_f2
  clear d2_0 d2_1 d2_2 d2_f0 d2_f1 d2_f2
  have hA2 : ∀ a, A2 = some a → w.heap.size + 4 ≤ a.block ∧ a.block < w1.heap.size := fun a e => by have := ho.gt e; rw [hsz] at this; exact this
  have hs1 := hb.size
  rw [hsz] at hs1
  replace D0 := (D0.on hb).alloc (.cells #[.int .i64 m, .int .i64 q, .slice A2 n c2] 24)
  replace D1 := (D1.on hb).alloc (.cells #[.int .i64 m, .int .i64 q, .slice A2 n c2] 24)
  replace D2 := (D2.on hb).alloc (.cells #[.int .i64 m, .int .i64 q, .slice A2 n c2] 24)
  replace D3 := (D3.on hb).alloc (.cells #[.int .i64 m, .int .i64 q, .slice A2 n c2] 24)
  have DO := Blk.new w1 [.int .i64 m, .int .i64 q, .slice A2 n c2] 24
  replace bw := (bw.trans (hb.mono bw.size)).alloc (by omega) (.cells #[.int .i64 m, .int .i64 q, .slice A2 n c2] 24)
  have hG : Gs w (w.heap.size + 4) [(w.heap.size, [.int .i64 m, .int .i64 p, .slice Am nm cm]), (w.heap.size + 1, [.int .i64 p, .int .i64 q, .slice An nn cn]), (w.heap.size + 2, [.int .i64 m, .int .i64 q, .slice A n c]), (w.heap.size + 3, [.int .i64 0, .int .i64 0, .slice none 0 0]), (w1.heap.size, [.int .i64 m, .int .i64 q, .slice A2 n c2])] m q A2 c2 l l (fun a b => decide (a < 0 ∨ (a = 0 ∧ b < 0))) f (w1.alloc (.cells #[.int .i64 m, .int .i64 q, .slice A2 n c2] 24)) := {
    mr := Mr.start (by rw [← HN.out]; exact HH.out.1) HH.out.2.2 (fun a b h1 h2 => by simp <;> omega)
    own := ((ho.less (by rw [hsz]; exact Nat.le_refl _)).alloc_ _)
    bx := by intro b hb9; simp only [List.mem_cons, List.mem_nil_iff, or_false] at hb9; rcases hb9 with rfl | rfl | rfl | rfl | rfl
             · exact D0
             · exact D1
             · exact D2
             · exact D3
             · exact DO
    ne := by intro b hb9 a ea; have := hA2 a ea; simp only [List.mem_cons, List.mem_nil_iff, or_false] at hb9; rcases hb9 with rfl | rfl | rfl | rfl | rfl <;> simp <;> omega
    bw := bw
    lo := by omega }
  clear hA2 hs1 hsz bw hb ho D0 D1 D2 D3
  obtain ⟨dO_0, dO_1, dO_2, dO_f0, dO_f1, dO_f2⟩ := Mbx.cells DO
  have D0 : Blk (w1.alloc (.cells #[.int .i64 m, .int .i64 q, .slice A2 n c2] 24)) (w.heap.size) [.int .i64 m, .int .i64 p, .slice Am nm cm] := hG.bx _ (.head _)
  have D1 : Blk (w1.alloc (.cells #[.int .i64 m, .int .i64 q, .slice A2 n c2] 24)) (w.heap.size + 1) [.int .i64 p, .int .i64 q, .slice An nn cn] := hG.bx _ (.tail _ (.head _))
  have D2 : Blk (w1.alloc (.cells #[.int .i64 m, .int .i64 q, .slice A2 n c2] 24)) (w.heap.size + 2) [.int .i64 m, .int .i64 q, .slice A n c] := hG.bx _ (.tail _ (.tail _ (.head _)))
  obtain ⟨d0_0, d0_1, d0_2, d0_f0, d0_f1, d0_f2⟩ := Mbx.cells D0
  obtain ⟨d1_0, d1_1, d1_2, d1_f0, d1_f1, d1_f2⟩ := Mbx.cells D1
  obtain ⟨d2_0, d2_1, d2_2, d2_f0, d2_f1, d2_f2⟩ := Mbx.cells D2
  go_wp2_with fail
  obtain ⟨HO, hHO⟩ : ∃ HO, w1.heap.size = HO := ⟨_, rfl⟩
  clear d0_0 d0_1 d0_2 d0_f0 d0_f1 d0_f2
  clear d1_0 d1_1 d1_2 d1_f0 d1_f1 d1_f2
  clear d2_0 d2_1 d2_2 d2_f0 d2_f1 d2_f2
  clear dO_0 dO_1 dO_2 dO_f0 dO_f1 dO_f2
  clear DO D0 D1 D2
  simp only [hHO] at hG ⊢
  clear hHO
  go_loopw [12] (fun i wr => ∃ (k : Nat) (L : List Int), k ≤ m ∧ i = .int .i64 k ∧ Gs w (w.heap.size + 4) [(w.heap.size, [.int .i64 m, .int .i64 p, .slice Am nm cm]), (w.heap.size + 1, [.int .i64 p, .int .i64 q, .slice An nn cn]), (w.heap.size + 2, [.int .i64 m, .int .i64 q, .slice A n c]), (w.heap.size + 3, [.int .i64 0, .int .i64 0, .slice none 0 0]), (HO, [.int .i64 m, .int .i64 q, .slice A2 n c2])] m q A2 c2 l L (fun a b => decide (a < k ∨ (a = k ∧ b < 0))) f wr) (fun i _ => m - (intOf i).toNat)
  case atStart => exact ⟨0, l, Nat.zero_le _, rfl, hG.congr (fun a b h1 h2 => by rfl)⟩
  case round =>
    clear hG
    obtain ⟨i, L, hi, rfl, hG⟩ := hrel
    have D0 : Blk wr (w.heap.size) [.int .i64 m, .int .i64 p, .slice Am nm cm] := hG.bx _ (.head _)
    have D1 : Blk wr (w.heap.size + 1) [.int .i64 p, .int .i64 q, .slice An nn cn] := hG.bx _ (.tail _ (.head _))
    have D2 : Blk wr (w.heap.size + 2) [.int .i64 m, .int .i64 q, .slice A n c] := hG.bx _ (.tail _ (.tail _ (.head _)))
    have DZ : Blk wr (w.heap.size + 3) [.int .i64 0, .int .i64 0, .slice none 0 0] := hG.bx _ (.tail _ (.tail _ (.tail _ (.head _))))
    have DO : Blk wr HO [.int .i64 m, .int .i64 q, .slice A2 n c2] := hG.bx _ (.tail _ (.tail _ (.tail _ (.tail _ (.head _)))))
    obtain ⟨d0_0, d0_1, d0_2, d0_f0, d0_f1, d0_f2⟩ := Mbx.cells D0
    obtain ⟨d1_0, d1_1, d1_2, d1_f0, d1_f1, d1_f2⟩ := Mbx.cells D1
    obtain ⟨d2_0, d2_1, d2_2, d2_f0, d2_f1, d2_f2⟩ := Mbx.cells D2
    obtain ⟨dO_0, dO_1, dO_2, dO_f0, dO_f1, dO_f2⟩ := Mbx.cells DO
    obtain ⟨dz_0, dz_1, dz_2, dz_f0, dz_f1, dz_f2⟩ := Mbx.cells DZ
    by_cases hlt : i < m
    · have i0 : (0 : Int) ≤ i := by omega
      have i1 : (i : Int) < m := by omega
      go_wp2_with fail
      clear d0_0 d0_1 d0_2 d0_f0 d0_f1 d0_f2
      clear d1_0 d1_1 d1_2 d1_f0 d1_f1 d1_f2
      clear d2_0 d2_1 d2_2 d2_f0 d2_f1 d2_f2
      clear dO_0 dO_1 dO_2 dO_f0 dO_f1 dO_f2
      clear dz_0 dz_1 dz_2 dz_f0 dz_f1 dz_f2
      clear DO DZ D0 D1 D2
      go_loopw [13] (fun j wr => ∃ (jj : Nat) (L : List Int), jj ≤ q ∧ j = .int .i64 jj ∧ Gs w (w.heap.size + 4) [(w.heap.size, [.int .i64 m, .int .i64 p, .slice Am nm cm]), (w.heap.size + 1, [.int .i64 p, .int .i64 q, .slice An nn cn]), (w.heap.size + 2, [.int .i64 m, .int .i64 q, .slice A n c]), (w.heap.size + 3, [.int .i64 0, .int .i64 0, .slice none 0 0]), (HO, [.int .i64 m, .int .i64 q, .slice A2 n c2])] m q A2 c2 l L (fun a b => decide (a < i ∨ (a = i ∧ b < jj))) f wr) (fun j _ => q - (intOf j).toNat)
      case atStart => exact ⟨0, L, by omega, by go_num, hG⟩
      case round =>
        clear hG
        obtain ⟨j, L, hj, rfl, hG⟩ := hrel
        have D0 : Blk wr (w.heap.size) [.int .i64 m, .int .i64 p, .slice Am nm cm] := hG.bx _ (.head _)
        have D1 : Blk wr (w.heap.size + 1) [.int .i64 p, .int .i64 q, .slice An nn cn] := hG.bx _ (.tail _ (.head _))
        have D2 : Blk wr (w.heap.size + 2) [.int .i64 m, .int .i64 q, .slice A n c] := hG.bx _ (.tail _ (.tail _ (.head _)))
        have DZ : Blk wr (w.heap.size + 3) [.int .i64 0, .int .i64 0, .slice none 0 0] := hG.bx _ (.tail _ (.tail _ (.tail _ (.head _))))
        have DO : Blk wr HO [.int .i64 m, .int .i64 q, .slice A2 n c2] := hG.bx _ (.tail _ (.tail _ (.tail _ (.tail _ (.head _)))))
        obtain ⟨d0_0, d0_1, d0_2, d0_f0, d0_f1, d0_f2⟩ := Mbx.cells D0
        obtain ⟨d1_0, d1_1, d1_2, d1_f0, d1_f1, d1_f2⟩ := Mbx.cells D1
        obtain ⟨d2_0, d2_1, d2_2, d2_f0, d2_f1, d2_f2⟩ := Mbx.cells D2
        obtain ⟨dO_0, dO_1, dO_2, dO_f0, dO_f1, dO_f2⟩ := Mbx.cells DO
        obtain ⟨dz_0, dz_1, dz_2, dz_f0, dz_f1, dz_f2⟩ := Mbx.cells DZ
        by_cases hjt : j < q
        · have j0 : (0 : Int) ≤ j := by omega
          have j1 : (j : Int) < q := by omega
          have hjq : j < q := by omega
          have hKl := ix_lt hlt hjq
          rw [← hG.mr.len] at hKl
          have hX2 : i * q ≤ 512 * 512 := Nat.mul_le_mul (by omega) hq
          obtain ⟨X, hX⟩ : ∃ X, i * q = X := ⟨_, rfl⟩
          have hXi : (i : Int) * (q : Int) = (X : Int) := by exact_mod_cast hX
          obtain ⟨Kp, hKp⟩ : ∃ Kp, X + j = Kp := ⟨_, rfl⟩
          have hKi : (X : Int) + (j : Int) = (Kp : Int) := by exact_mod_cast hKp
          have HK := Lib.hid (show i * q + j = Kp by rw [hX, hKp])
          rw [hX, hKp] at hKl
          rw [hX] at hX2
          have hKn : Kp < n := by rw [HN.out, ← hG.mr.len]; exact hKl
          obtain ⟨g5, hA5, _, _⟩ := hG.own.at_ hKl
          subst hA5
          have k0 : (0 : Int) ≤ Kp := by omega
          have k1 : (Kp : Int) < n := by omega
          have v1 : IntKind.i64.wrap (X : Int) = X := by rw [IntKind.wrap_i64]; omega
          have v2 : IntKind.i64.wrap (Kp : Int) = Kp := by rw [IntKind.wrap_i64]; omega
          clear hX hKp
          go_wp2_with fail
          clear d0_0 d0_1 d0_2 d0_f0 d0_f1 d0_f2
          clear d1_0 d1_1 d1_2 d1_f0 d1_f1 d1_f2
          clear d2_0 d2_1 d2_2 d2_f0 d2_f1 d2_f2
          clear dO_0 dO_1 dO_2 dO_f0 dO_f1 dO_f2
          clear dz_0 dz_1 dz_2 dz_f0 dz_f1 dz_f2
          clear DO DZ D0 D1 D2
          replace hG := hG.on (Below.refl _ _).drew
          have bz := Below.refl wr.drew.heap.size wr.drew
          refine wp_region_held_drew (S := fun w9 : World => Mbx w9 w.heap.size m p Am nm cm ∧ Mbx w9 (w.heap.size + 1) p q An nn cn ∧ Mbx w9 (w.heap.size + 2) m q A n c ∧ Mbx w9 HO m q (some ⟨g5, 0, none⟩) n c2) (by kernel_rfl) ⟨hG.bx _ (.head _), hG.bx _ (.tail _ (.head _)), hG.bx _ (.tail _ (.tail _ (.head _))), hG.bx _ (.tail _ (.tail _ (.tail _ (.tail _ (.head _)))))⟩ (fun hS => ?_)
          generalize wr.drew = wd at hS hG  bz ⊢
          refine wpAnyH_take (i := 0) (v := ?v0_26) rfl (by kernel_rfl) (by kernel_rfl) (by kernel_rfl) (fun _ _ _ h => h) (Or.inl ⟨by rfl, ?hy0_26⟩) (by assumption) ?rest0_26
          case hy0_26 => (intro w9 hSw; clear hSw; go_simp; try with_reducible rfl)
          try simp only [Act.put, List.setIfInBounds_toArray, List.set_cons_zero, List.set_cons_succ, List.getElem_toArray, List.getElem_cons_zero, List.getElem_cons_succ]
          refine wpAnyH_take (i := 1) (v := ?v1_27) rfl (by kernel_rfl) (by kernel_rfl) (by kernel_rfl) (fun _ _ _ h => h) (Or.inl ⟨by rfl, ?hy1_27⟩) (by assumption) ?rest1_27
          case hy1_27 => (intro w9 hSw; obtain ⟨m0, m1, m2, m3⟩ := hSw; obtain ⟨q0_0, q0_1, q0_2, q0_3, q0_4, q0_5⟩ := Mbx.cells m0; obtain ⟨q1_0, q1_1, q1_2, q1_3, q1_4, q1_5⟩ := Mbx.cells m1; obtain ⟨q2_0, q2_1, q2_2, q2_3, q2_4, q2_5⟩ := Mbx.cells m2; obtain ⟨q3_0, q3_1, q3_2, q3_3, q3_4, q3_5⟩ := Mbx.cells m3; go_simp; try with_reducible rfl)
          try simp only [Act.put, List.setIfInBounds_toArray, List.set_cons_zero, List.set_cons_succ, List.getElem_toArray, List.getElem_cons_zero, List.getElem_cons_succ]
          refine wpAnyH_take (i := 2) (v := ?v2_28) rfl (by kernel_rfl) (by kernel_rfl) (by kernel_rfl) (fun _ _ _ h => h) (Or.inl ⟨by rfl, ?hy2_28⟩) (by assumption) ?rest2_28
          case hy2_28 => (intro w9 hSw; clear hSw; go_simp; try with_reducible rfl)
          try simp only [Act.put, List.setIfInBounds_toArray, List.set_cons_zero, List.set_cons_succ, List.getElem_toArray, List.getElem_cons_zero, List.getElem_cons_succ]
          refine wpAnyH_take (i := 3) (v := ?v3_29) rfl (by kernel_rfl) (by kernel_rfl) (by kernel_rfl) (fun _ _ _ h => h) (Or.inl ⟨by rfl, ?hy3_29⟩) (by assumption) ?rest3_29
          case hy3_29 => (intro w9 hSw; clear hSw; go_simp; try with_reducible rfl)
          try simp only [Act.put, List.setIfInBounds_toArray, List.set_cons_zero, List.set_cons_succ, List.getElem_toArray, List.getElem_cons_zero, List.getElem_cons_succ]
          refine wpAnyH_take (i := 4) (v := ?v4_30) rfl (by kernel_rfl) (by kernel_rfl) (by kernel_rfl) (fun _ _ _ h => h) (Or.inl ⟨by rfl, ?hy4_30⟩) (by assumption) ?rest4_30
          case hy4_30 => (intro w9 hSw; obtain ⟨m0, m1, m2, m3⟩ := hSw; obtain ⟨q0_0, q0_1, q0_2, q0_3, q0_4, q0_5⟩ := Mbx.cells m0; obtain ⟨q1_0, q1_1, q1_2, q1_3, q1_4, q1_5⟩ := Mbx.cells m1; obtain ⟨q2_0, q2_1, q2_2, q2_3, q2_4, q2_5⟩ := Mbx.cells m2; obtain ⟨q3_0, q3_1, q3_2, q3_3, q3_4, q3_5⟩ := Mbx.cells m3; go_simp; try with_reducible rfl)
          try simp only [Act.put, List.setIfInBounds_toArray, List.set_cons_zero, List.set_cons_succ, List.getElem_toArray, List.getElem_cons_zero, List.getElem_cons_succ]
          refine wpAnyH_take (i := 5) (v := ?v5_31) rfl (by kernel_rfl) (by kernel_rfl) (by kernel_rfl) (fun _ _ _ h => h) (Or.inl ⟨by rfl, ?hy5_31⟩) (by assumption) ?rest5_31
          case hy5_31 => (intro w9 hSw; clear hSw; go_simp; try with_reducible rfl)
          try simp only [Act.put, List.setIfInBounds_toArray, List.set_cons_zero, List.set_cons_succ, List.getElem_toArray, List.getElem_cons_zero, List.getElem_cons_succ]
          refine wpAnyH_take (i := 6) (v := ?v6_32) rfl (by kernel_rfl) (by kernel_rfl) (by kernel_rfl) (fun _ _ _ h => h) (Or.inl ⟨by rfl, ?hy6_32⟩) (by assumption) ?rest6_32
          case hy6_32 => (intro w9 hSw; clear hSw; go_simp; try with_reducible rfl)
          try simp only [Act.put, List.setIfInBounds_toArray, List.set_cons_zero, List.set_cons_succ, List.getElem_toArray, List.getElem_cons_zero, List.getElem_cons_succ]
          refine wpAnyH_take (i := 7) (v := ?v7_33) rfl (by kernel_rfl) (by kernel_rfl) (by kernel_rfl) (fun _ _ _ h => h) (Or.inl ⟨by rfl, ?hy7_33⟩) (by assumption) ?rest7_33
          case hy7_33 => (intro w9 hSw; clear hSw; go_simp; try with_reducible rfl)
          try simp only [Act.put, List.setIfInBounds_toArray, List.set_cons_zero, List.set_cons_succ, List.getElem_toArray, List.getElem_cons_zero, List.getElem_cons_succ]
          refine wpAnyH_take (i := 8) (v := ?v8_34) rfl (by kernel_rfl) (by kernel_rfl) (by kernel_rfl) (fun _ _ _ h => h) (Or.inl ⟨by rfl, ?hy8_34⟩) (by assumption) ?rest8_34
          case hy8_34 => (intro w9 hSw; clear hSw; go_simp; try with_reducible rfl)
          try simp only [Act.put, List.setIfInBounds_toArray, List.set_cons_zero, List.set_cons_succ, List.getElem_toArray, List.getElem_cons_zero, List.getElem_cons_succ]
          refine wpAnyH_take (i := 9) (v := ?v9_35) rfl (by kernel_rfl) (by kernel_rfl) (by kernel_rfl) (fun _ _ _ h => h) (Or.inl ⟨by rfl, ?hy9_35⟩) (by assumption) ?rest9_35
          case hy9_35 => (intro w9 hSw; obtain ⟨m0, m1, m2, m3⟩ := hSw; obtain ⟨q0_0, q0_1, q0_2, q0_3, q0_4, q0_5⟩ := Mbx.cells m0; obtain ⟨q1_0, q1_1, q1_2, q1_3, q1_4, q1_5⟩ := Mbx.cells m1; obtain ⟨q2_0, q2_1, q2_2, q2_3, q2_4, q2_5⟩ := Mbx.cells m2; obtain ⟨q3_0, q3_1, q3_2, q3_3, q3_4, q3_5⟩ := Mbx.cells m3; go_simp; try with_reducible rfl)
          try simp only [Act.put, List.setIfInBounds_toArray, List.set_cons_zero, List.set_cons_succ, List.getElem_toArray, List.getElem_cons_zero, List.getElem_cons_succ]
          refine wpAnyH_take (i := 10) (v := ?v10_36) rfl (by kernel_rfl) (by kernel_rfl) (by kernel_rfl) (fun _ _ _ h => h) (Or.inl ⟨by rfl, ?hy10_36⟩) (by assumption) ?rest10_36
          case hy10_36 => (intro w9 hSw; clear hSw; go_simp; try with_reducible rfl)
          try simp only [Act.put, List.setIfInBounds_toArray, List.set_cons_zero, List.set_cons_succ, List.getElem_toArray, List.getElem_cons_zero, List.getElem_cons_succ]
          refine wpAnyH_take (i := 11) (v := ?v11_37) rfl (by kernel_rfl) (by kernel_rfl) (by kernel_rfl) (fun _ _ _ h => h) (Or.inl ⟨by rfl, ?hy11_37⟩) (by assumption) ?rest11_37
          case hy11_37 => (intro w9 hSw; clear hSw; go_simp; try with_reducible rfl)
          try simp only [Act.put, List.setIfInBounds_toArray, List.set_cons_zero, List.set_cons_succ, List.getElem_toArray, List.getElem_cons_zero, List.getElem_cons_succ]
          refine wpAnyH_take (i := 13) (v := ?v13_38) rfl (by kernel_rfl) (by kernel_rfl) (by kernel_rfl) (fun _ _ _ h => h) (Or.inl ⟨by rfl, ?hy13_38⟩) (by assumption) ?rest13_38
          case hy13_38 => (intro w9 hSw; clear hSw; go_simp; try with_reducible rfl)
          try simp only [Act.put, List.setIfInBounds_toArray, List.set_cons_zero, List.set_cons_succ, List.getElem_toArray, List.getElem_cons_zero, List.getElem_cons_succ]
          refine wpAnyH_take (i := 14) (v := ?v14_39) rfl (by kernel_rfl) (by kernel_rfl) (by kernel_rfl) (fun _ _ _ h => h) (Or.inl ⟨by rfl, ?hy14_39⟩) (by assumption) ?rest14_39
          case hy14_39 => (intro w9 hSw; obtain ⟨m0, m1, m2, m3⟩ := hSw; obtain ⟨q0_0, q0_1, q0_2, q0_3, q0_4, q0_5⟩ := Mbx.cells m0; obtain ⟨q1_0, q1_1, q1_2, q1_3, q1_4, q1_5⟩ := Mbx.cells m1; obtain ⟨q2_0, q2_1, q2_2, q2_3, q2_4, q2_5⟩ := Mbx.cells m2; obtain ⟨q3_0, q3_1, q3_2, q3_3, q3_4, q3_5⟩ := Mbx.cells m3; go_simp; try with_reducible rfl)
          try simp only [Act.put, List.setIfInBounds_toArray, List.set_cons_zero, List.set_cons_succ, List.getElem_toArray, List.getElem_cons_zero, List.getElem_cons_succ]
          refine wpAnyH_take (i := 15) (v := ?v15_40) rfl (by kernel_rfl) (by kernel_rfl) (by kernel_rfl) (fun _ _ _ h => h) (Or.inl ⟨by rfl, ?hy15_40⟩) (by assumption) ?rest15_40
          case hy15_40 => (intro w9 hSw; clear hSw; go_simp; try with_reducible rfl)
          try simp only [Act.put, List.setIfInBounds_toArray, List.set_cons_zero, List.set_cons_succ, List.getElem_toArray, List.getElem_cons_zero, List.getElem_cons_succ]
          refine wpAnyH_take (i := 17) (v := ?v17_41) rfl (by kernel_rfl) (by kernel_rfl) (by kernel_rfl) (fun _ _ _ h => h) (Or.inl ⟨by rfl, ?hy17_41⟩) (by assumption) ?rest17_41
          case hy17_41 => (intro w9 hSw; obtain ⟨m0, m1, m2, m3⟩ := hSw; obtain ⟨q0_0, q0_1, q0_2, q0_3, q0_4, q0_5⟩ := Mbx.cells m0; obtain ⟨q1_0, q1_1, q1_2, q1_3, q1_4, q1_5⟩ := Mbx.cells m1; obtain ⟨q2_0, q2_1, q2_2, q2_3, q2_4, q2_5⟩ := Mbx.cells m2; obtain ⟨q3_0, q3_1, q3_2, q3_3, q3_4, q3_5⟩ := Mbx.cells m3; go_simp; try with_reducible rfl)
          try simp only [Act.put, List.setIfInBounds_toArray, List.set_cons_zero, List.set_cons_succ, List.getElem_toArray, List.getElem_cons_zero, List.getElem_cons_succ]
          refine wpAnyH_take (i := 18) (v := ?v18_42) rfl (by kernel_rfl) (by kernel_rfl) (by kernel_rfl) (fun _ _ _ h => h) (Or.inl ⟨by rfl, ?hy18_42⟩) (by assumption) ?rest18_42
          case hy18_42 => (intro w9 hSw; clear hSw; go_simp; try with_reducible rfl)
          try simp only [Act.put, List.setIfInBounds_toArray, List.set_cons_zero, List.set_cons_succ, List.getElem_toArray, List.getElem_cons_zero, List.getElem_cons_succ]
          refine wpAnyH_ready (rs := [12]) (by kernel_rfl) (by simp) ?_
          refine AllReadyH.cons rfl (fun K hK => ?_) AllReadyH.nil
          go_simp
          with_reducible refine (rAt_any (HH.out.on hG.bw) HN.out hm hq hlt hjq).mono ?_
          rintro e w3 ⟨rfl, hb⟩
          replace hG := hG.on hb
          replace bz := bz.trans (hb.mono bz.size)
          clear hb
          obtain ⟨lz, uz⟩ := HH.out.2.2.at_ (i * q + j)
          have bZ : (D l (i * q + j)).toNat ≤ 18446744073709551615 := by omega
          have HZ : Hid (af (D l (i * q + j)).toNat = ma l q i j) := Lib.hid rfl
          generalize (D l (i * q + j)).toNat = Z9 at *
          clear lz uz
          refine hK.out _ _ ⟨hG.bx _ (.head _), hG.bx _ (.tail _ (.head _)), hG.bx _ (.tail _ (.tail _ (.head _))), hG.bx _ (.tail _ (.tail _ (.tail _ (.tail _ (.head _)))))⟩ (fun hH => ?_)
          clear hK K hS
          have hS := hH
          clear hH
          try simp only [Act.put, List.setIfInBounds_toArray, List.set_cons_zero, List.set_cons_succ, List.getElem_toArray, List.getElem_cons_zero, List.getElem_cons_succ]
          refine wpAnyH_ready (rs := [16]) (by kernel_rfl) (by simp) ?_
          refine AllReadyH.cons rfl (fun K hK => ?_) AllReadyH.nil
          go_simp
          with_reducible refine (rRow_any (HM.out.on hG.bw) HNM.out hm hp hlt).mono ?_
          rintro e w4 ⟨A5, c5, rfl, hR, hb⟩
          replace hG := hG.on hb
          replace bz := bz.trans (hb.mono bz.size)
          clear hb
          refine hK.out _ _ ⟨hG.bx _ (.head _), hG.bx _ (.tail _ (.head _)), hG.bx _ (.tail _ (.tail _ (.head _))), hG.bx _ (.tail _ (.tail _ (.tail _ (.tail _ (.head _)))))⟩ (fun hH => ?_)
          clear hK K hS
          have hS := hH
          clear hH
          try simp only [Act.put, List.setIfInBounds_toArray, List.set_cons_zero, List.set_cons_succ, List.getElem_toArray, List.getElem_cons_zero, List.getElem_cons_succ]
          refine wpAnyH_ready (rs := [19]) (by kernel_rfl) (by simp) ?_
          refine AllReadyH.cons rfl (fun K hK => ?_) AllReadyH.nil
          go_simp
          with_reducible refine (rCol_any (HL.out.on hG.bw) HNL.out hp hq hjq).mono ?_
          rintro e w5 ⟨A6, c6, L6, rfl, hI, ho6, hb⟩
          replace hG := hG.on hb
          replace hR := hR.on hb
          replace bz := bz.trans (hb.mono bz.size)
          clear hb
          have hR6 := hI.fl ho6
          refine hK.out _ _ ⟨hG.bx _ (.head _), hG.bx _ (.tail _ (.head _)), hG.bx _ (.tail _ (.tail _ (.head _))), hG.bx _ (.tail _ (.tail _ (.tail _ (.tail _ (.head _)))))⟩ (fun hH => ?_)
          clear hK K hS
          have hS := hH
          clear hH
          try simp only [Act.put, List.setIfInBounds_toArray, List.set_cons_zero, List.set_cons_succ, List.getElem_toArray, List.getElem_cons_zero, List.getElem_cons_succ]
          refine wpAnyH_ready (rs := [20]) (by kernel_rfl) (by simp) ?_
          refine AllReadyH.cons rfl (fun K hK => ?_) AllReadyH.nil
          go_simp
          with_reducible refine (rDot_any hR hR6 (Nat.le_refl _)).mono ?_
          rintro e w6 ⟨r1, rfl, h1, b1, d1⟩
          replace hG := hG.on d1.below
          replace hR := hR.on d1.below
          replace hR6 := hR6.on d1.below
          replace bz := bz.trans (d1.below.mono bz.size)
          rw [dot_rows hI] at h1
          have H1 := Lib.hid h1
          clear h1 d1 hR hR6 ho6 hI
          refine hK.out _ _ ⟨hG.bx _ (.head _), hG.bx _ (.tail _ (.head _)), hG.bx _ (.tail _ (.tail _ (.head _))), hG.bx _ (.tail _ (.tail _ (.tail _ (.tail _ (.head _)))))⟩ (fun hH => ?_)
          clear hK K hS
          have hS := hH
          clear hH
          try simp only [Act.put, List.setIfInBounds_toArray, List.set_cons_zero, List.set_cons_succ, List.getElem_toArray, List.getElem_cons_zero, List.getElem_cons_succ]
          refine wpAnyH_ready (rs := [21]) (by kernel_rfl) (by simp) ?_
          refine AllReadyH.cons rfl (fun K hK => ?_) AllReadyH.nil
          go_simp
          with_reducible refine (rBoth_any bb bZ ba b1 _).mono ?_
          rintro e w7 ⟨r2, rfl, h2, b2, d2⟩
          replace hG := hG.on d2.below
          replace bz := bz.trans (d2.below.mono bz.size)
          have HR : Hid (af r2 = f i j) := Lib.hid (by rw [h2, H1.out, HZ.out]; exact Hf.out i j)
          clear h2 d2 H1 HZ
          refine hK.out _ _ ⟨hG.bx _ (.head _), hG.bx _ (.tail _ (.head _)), hG.bx _ (.tail _ (.tail _ (.head _))), hG.bx _ (.tail _ (.tail _ (.tail _ (.tail _ (.head _)))))⟩ (fun hH => ?_)
          clear hK K hS
          have hS := hH
          clear hH
          try simp only [Act.put, List.setIfInBounds_toArray, List.set_cons_zero, List.set_cons_succ, List.getElem_toArray, List.getElem_cons_zero, List.getElem_cons_succ]
          refine wpAnyH_take (i := 22) (v := ?v22_43) rfl (by kernel_rfl) (by kernel_rfl) (by kernel_rfl) (fun _ _ _ h => h) (Or.inl ⟨by rfl, ?hy22_43⟩) (by assumption) ?rest22_43
          case hy22_43 => (intro w9 hSw; clear hSw; go_simp; try with_reducible rfl)
          try simp only [Act.put, List.setIfInBounds_toArray, List.set_cons_zero, List.set_cons_succ, List.getElem_toArray, List.getElem_cons_zero, List.getElem_cons_succ]
          obtain ⟨hc5, hf5⟩ := hG.cell hKl
          refine wpAnyH_ready (rs := [23]) (by kernel_rfl) (by simp) ?_
          refine AllReadyH.cons rfl (fun K hK => ?_) AllReadyH.nil
          go_simp
          replace hG := hG.set (Q := fun a b => decide (a < i ∨ (a = i ∧ b < (j + 1)))) HK.out hlt hjq (r := r2) HR.out b2 (fun a b h1 h2 => by simp only [← Bool.decide_or, decide_eq_decide]; omega)
          replace hKl : Kp < (L.set Kp (r2 : Int)).length := by rw [List.length_set]; exact hKl
          clear bz
          have bz := Below.refl w.heap.size w
          refine hK.out _ _ ⟨hG.bx _ (.head _), hG.bx _ (.tail _ (.head _)), hG.bx _ (.tail _ (.tail _ (.head _))), hG.bx _ (.tail _ (.tail _ (.tail _ (.tail _ (.head _)))))⟩ (fun hH => ?_)
          clear hK K hS
          have hS := hH
          clear hH
          try simp only [Act.put, List.setIfInBounds_toArray, List.set_cons_zero, List.set_cons_succ, List.getElem_toArray, List.getElem_cons_zero, List.getElem_cons_succ]
          refine wpAnyH_done (by kernel_rfl) ?_ _
          go_wp2_with fail
          go_roundw
          case rel => exact ⟨j + 1, _, by omega, by go_num, hG⟩
          case measure => simp [intOf]; omega
        · have hG9 := hG.congr (Q := fun a b => decide (a < (i + 1) ∨ (a = (i + 1) ∧ b < 0))) (fun a b h1 h2 => by simp only [decide_eq_decide]; omega)
          go_wp2_with fail
          go_roundw
          case rel => exact ⟨i + 1, L, by omega, by go_num, hG9⟩
          case measure => simp [intOf]; omega
    · obtain rfl : i = m := by omega
      go_wp2_with fail
      refine bodyPost_ret (v := mV i q A2 n c2) (by simp [results, Try.results44, go_sem, *]) rfl ?_
      exact ⟨A2, c2, L, rfl, by rw [HN.out]; exact (hG.mr.congr (fun a b h1 h2 => by simp <;> omega)).is, by first | exact hG.own.less (by omega) | exact (hG.own.grown_ (set3_grown _ _ _ _ _) (fun a e e2 => by injection e2 with e3; exact hG.ne _ (.tail _ (.tail _ (.tail _ (.head _)))) a e e3.symm)).less (by omega), by first | exact hG.bw | exact hG.bw.grown (set3_grown _ _ _ _ _) hG.bw.size (fun k e => by cases e; omega)⟩
end
end Go.Proofs.Ytfelmkkkaphkpaa
namespace Go.Proofs.Ytfelmkkkaphkpaa
set_option linter.unusedVariables false
set_option linter.unusedSimpArgs false

/-- all rows of n flags -/
def allB : Nat → List (List Bool)
  | 0 => [[]]
  | n + 1 => (allB n).flatMap fun bs => [false :: bs, true :: bs]
theorem mem_allB : ∀ bs : List Bool, bs ∈ allB bs.length
  | [] => List.mem_singleton.2 rfl
  | b :: bs => by
    show b :: bs ∈ (allB bs.length).flatMap fun bs => [false :: bs, true :: bs]
    refine List.mem_flatMap.2 ⟨bs, mem_allB bs, ?_⟩
    cases b <;> simp
section
variable {P : Program} {ops : Array Oper} {Q : Exit → Act → World → Prop} {md : Region.Mode} {S : World → Prop}
/-- what has come up (L) fits the flags: what is ready is among the operations is, and has not come up; where one comes up, its flag is set; ok: the flags that can be -/
def flagsOk (md : Region.Mode) (ops : Array Oper) (is : List Nat) (L : List Bool → Array Bool) (ok : List Bool → Bool) (bs : List Bool) : Bool :=
  !ok bs || bs.all id || (!(Region.ready md ops (L bs)).isEmpty && (Region.ready md ops (L bs)).all fun i => (List.range is.length).any fun k => is[k]? == some i && bs[k]? == some false && (L bs).setIfInBounds i true == L (bs.set k true) && ok (bs.set k true))
theorem count_set : ∀ (bs : List Bool) (k : Nat), bs[k]? = some false → (bs.set k true).count false + 1 = bs.count false
  | [], k, h => by simp at h
  | b :: bs, 0, h => by
    have : b = false := by simpa using h
    subst this
    simp
  | b :: bs, k + 1, h => by
    have ih := count_set bs k (by simpa using h)
    rw [List.set_cons_succ, List.count_cons, List.count_cons]
    omega
theorem count_all : ∀ bs : List Bool, bs.count false = 0 → bs = List.replicate bs.length true
  | [], _ => rfl
  | b :: bs, h => by
    rw [List.count_cons] at h
    cases b
    · simp at h
    · have := count_all bs (by simpa using h)
      rw [List.length_cons, List.replicate_succ, ← this]
/-- a step of the operation k -/
def FreeStep (P : Program) (ops : Array Oper) (Q : Exit → Act → World → Prop) (S : World → Prop) (ok : List Bool → Bool) (is : List Nat) (I : List Bool → Act → World → Prop) (k : Nat) : Prop :=
  ∀ (bs : List Bool) (a : Act) (w : World), bs.length = is.length → bs[k]? = some false → ok (bs.set k true) = true → I bs a w → S w → ∃ i o, is[k]? = some i ∧ ops[i]? = some o ∧
    ∀ K' : Act → World → Prop, Shut (∀ a w, S w → I (bs.set k true) a w → K' a w) → if Region.wanted o (yielded ops a.tmps) = true then Oper.wp P o a w K' Q else K' (a.put o.dst undef) w
theorem wpAnyH_free {is : List Nat} {L : List Bool → Array Bool} (ok : List Bool → Bool) (I : List Bool → Act → World → Prop) {F : Nat}
    (hck : (allB is.length).all (flagsOk md ops is L ok) = true)
    (hstep : ∀ k, k < is.length → FreeStep P ops Q S ok is I k)
    (hend : ∀ a w, I (List.replicate is.length true) a w → S w → wpAnyH P md ops Q S F (L (List.replicate is.length true)) a w) :
    ∀ (n : Nat) (bs : List Bool) (a : Act) (w : World), bs.length = is.length → bs.count false = n → ok bs = true → I bs a w → S w → wpAnyH P md ops Q S (F + n) (L bs) a w
  | 0, bs, a, w, hl, hc, _, hI, hS => by
    have e := count_all bs hc
    rw [hl] at e
    subst e
    exact hend a w hI hS
  | n + 1, bs, a, w, hl, hc, hok, hI, hS => by
    have h1 := List.all_eq_true.1 hck bs (by rw [← hl]; exact mem_allB bs)
    unfold flagsOk at h1
    have hna : bs.all id = false := by
      cases h : bs.all id
      · rfl
      · exfalso
        have h2 := List.all_eq_true.1 h
        have : bs.count false = 0 := List.count_eq_zero.2 (fun hm => by have := h2 _ hm; simp at this)
        omega
    rw [hok, hna, Bool.not_true, Bool.false_or, Bool.false_or] at h1
    obtain ⟨h2, h3⟩ := Bool.and_eq_true_iff.1 h1
    refine wpAnyH_all (rs := Region.ready md ops (L bs)) rfl (by intro e; rw [e] at h2; simp at h2) (fun i hi => ?_)
    obtain ⟨k, hk, h4⟩ := List.any_eq_true.1 (List.all_eq_true.1 h3 i hi)
    obtain ⟨h45, hok2⟩ := Bool.and_eq_true_iff.1 h4
    obtain ⟨h5, h6⟩ := Bool.and_eq_true_iff.1 h45
    obtain ⟨h7, h8⟩ := Bool.and_eq_true_iff.1 h5
    have hki := eq_of_beq h7
    have hkb := eq_of_beq h8
    have hLs := eq_of_beq h6
    obtain ⟨i2, o, e2, ho, hgo⟩ := hstep k (List.mem_range.1 hk) bs a w hl hkb hok2 hI hS
    rw [hki] at e2
    cases e2
    refine wpOp_step ho (fun K' hK => hgo K' (fun a' w' hS' hI' => hK a' w' ⟨hS', ?_⟩))
    have := wpAnyH_free ok I hck hstep hend n (bs.set k true) a' w' (by rw [List.length_set]; exact hl) (by have := count_set bs k hkb; omega) hok2 hI' hS'
    rw [hLs]
    exact this
/-- over a frame that stays, but for what comes up -/
theorem wpAnyH_freeT {is : List Nat} {L : List Bool → Array Bool} (ok : List Bool → Bool) (I : Array Value → List Bool → Act → World → Prop) {F : Nat} {T : Array Value} {w : World}
    (hck : (allB is.length).all (flagsOk md ops is L ok) = true)
    (hstep : ∀ k, k < is.length → FreeStep P ops Q S ok is (I T) k)
    (hend : ∀ a w, I T (List.replicate is.length true) a w → S w → wpAnyH P md ops Q S F (L (List.replicate is.length true)) a w)
    (n : Nat) (bs : List Bool) (hl : bs.length = is.length) (hc : bs.count false = n) (hok : ok bs = true) (hI : I T bs { tmps := T, defers := [] } w) (hS : S w) : wpAnyH P md ops Q S (F + n) (L bs) { tmps := T, defers := [] } w :=
  wpAnyH_free ok (I T) hck hstep hend n bs _ w hl hc hok hI hS
end
end Go.Proofs.Ytfelmkkkaphkpaa
namespace Go.Proofs.Ytfelmkkkaphkpaa
set_option linter.unusedVariables false
set_option linter.unusedSimpArgs false

/-- f, but x at k -/
def upN (f : Nat → Nat) (k x i : Nat) : Nat := if i = k then x else f i
/-- what has come up (flags bs) lies in blocks from z on, the k-th in those from lo k to hi k, no two in one -/
structure Pol (z : Nat) (W : World) (bs : List Bool) (lo hi : Nat → Nat) : Prop where
  rng : ∀ k : Nat, bs[k]? = some true → z ≤ lo k ∧ lo k ≤ hi k ∧ hi k ≤ W.heap.size
  ap : ∀ j k : Nat, j ≠ k → bs[j]? = some true → bs[k]? = some true → hi j ≤ lo k ∨ hi k ≤ lo j
section
variable {z : Nat} {W W' : World} {bs : List Bool} {lo hi : Nat → Nat}
theorem Pol.start (hf : ∀ k : Nat, bs[k]? ≠ some true) : Pol z W bs lo hi := ⟨fun k h => absurd h (hf k), fun j k _ h => absurd h (hf j)⟩
theorem Pol.step (h : Pol z W bs lo hi) (k : Nat) (hs : W.heap.size ≤ W'.heap.size) (hz : z ≤ W.heap.size) : Pol z W' (bs.set k true) (upN lo k W.heap.size) (upN hi k W'.heap.size) := by
  have hb : ∀ j : Nat, j ≠ k → (bs.set k true)[j]? = some true → bs[j]? = some true := fun j e hj => by rwa [List.getElem?_set_ne (fun e2 => e e2.symm)] at hj
  refine ⟨fun j hj => ?_, fun i j hij hi2 hj2 => ?_⟩
  · unfold upN
    by_cases e : j = k
    · rw [if_pos e, if_pos e]; omega
    · rw [if_neg e, if_neg e]
      have := h.rng j (hb j e hj)
      omega
  · unfold upN
    by_cases e1 : i = k
    · rw [if_pos e1, if_pos e1, if_neg (fun e => hij (e1.trans e.symm)), if_neg (fun e => hij (e1.trans e.symm))]
      have := h.rng j (hb j (fun e => hij (e1.trans e.symm)) hj2)
      omega
    · rw [if_neg e1, if_neg e1]
      by_cases e2 : j = k
      · rw [if_pos e2, if_pos e2]
        have := h.rng i (hb i e1 hi2)
        omega
      · rw [if_neg e2, if_neg e2]
        exact h.ap i j hij (hb i e1 hi2) (hb j e2 hj2)
end
theorem bools8 : ∀ bs : List Bool, bs.length = 8 → ∃ b0 b1 b2 b3 b4 b5 b6 b7, bs = [b0, b1, b2, b3, b4, b5, b6, b7]
  | [b0, b1, b2, b3, b4, b5, b6, b7], _ => ⟨b0, b1, b2, b3, b4, b5, b6, b7, rfl⟩
end Go.Proofs.Ytfelmkkkaphkpaa
namespace Go.Proofs.Ytfelmkkkaphkpaa
open Go.RowKit Go.Bw Go.Sort Go.Shelf
set_option linter.unusedVariables false
set_option linter.unusedSimpArgs false

/-- a view of a store of its own, in blocks from lo to hi -/
def OvI (W : World) (lo hi : Nat) (R C : Int) (F : List Int) (v : Value) : Prop := ∃ V s g cap c l, v = Vu.V V ∧ Ov W lo V s g cap c l R C F ∧ s < hi ∧ g < hi
theorem OvI.on {W W' : World} {lo hi : Nat} {R C : Int} {F : List Int} {v : Value} (h : OvI W lo hi R C F v) (hb : Below W.heap.size W W') : OvI W' lo hi R C F v := by
  obtain ⟨V, s, g, cap, c, l, e, hV, h1, h2⟩ := h
  exact ⟨V, s, g, cap, c, l, e, hV.on hb, h1, h2⟩
/-- a box for a view -/
def CV (W : World) (lo hi : Nat) (v : Value) : Prop := v = .pointer (some ⟨lo, 0, none⟩) ∧ Vbx W lo Vu.zero ∧ lo < hi
theorem CV.on {W W' : World} {lo hi : Nat} {v : Value} (h : CV W lo hi v) (hb : Below W.heap.size W W') : CV W' lo hi v := ⟨h.1, h.2.1.on hb, h.2.2⟩
end Go.Proofs.Ytfelmkkkaphkpaa
namespace Go.Proofs.Ytfelmkkkaphkpaa
open Go.RowKit Go.Bw Go.Sort Go.Shelf
set_option linter.unusedVariables false
set_option linter.unusedSimpArgs false

/-- two views share a place -/
theorem svShares {w : World} {x y : Vu} {X Y : List Int} (hx : Sv w x X) (hy : Sv w y Y) : Calls Try.prog 75 #[x.V, y.V] w (Ans w (.bool (shB x y))) := by
  have ps : ∀ {z : Vu} {Z : List Int}, Sv w z Z → PS w z.p := fun {z Z} h a e => by
    obtain ⟨s, c, n, B, g, cap, K, l, h1, h2, h3⟩ := h
    rcases h1.p with h4 | h4
    · rw [h4] at e; cases e
    · rw [h4] at e
      cases e
      exact ⟨s, _, rfl, (h2 (by rw [h4]; simp)).1.box⟩
  have p1 := ps hx
  have p2 := ps hy
  obtain ⟨K2, hb⟩ := hy.bd
  obtain ⟨s, c, n, B, g, cap, K, l, h1, h2, h3⟩ := hx
  exact Shares_any h1 h2 hb p1 p2
section
variable {w : World} {u x y : Vu} {U X Y : List Int} {a b : Nat} {up unit : Bool}
set_option maxRecDepth 100000 in
set_option maxHeartbeats 8000000 in
theorem Swap_no0 (hx : Sv w x X) (hy : Sv w y Y) {E : Int} (h0 : (szd x y.R y.C) = false) (he : refE ((szd x y.R y.C) && (!(shB x y))) [x, y] = E) (hn : E ≠ 0) : Calls Try.prog 33 #[x.V, y.V] w (Ans w (.int .i64 E)) := by
  have hft : ((szd x y.R y.C) && (!(shB x y))) = false := by simp [h0]
  rw [hft] at he
  clear hft
  have HSx := Lib.hid hx
  have HSy := Lib.hid hy
  have hne : (E != 0) = true := by simpa using hn
  have HE := Lib.hid he
  have p2 := fun (W : World) (bz : Below w.heap.size w W) => sized_is x y.R y.C W
  simp only [h0] at p2
  clear he hn hx hy h0
  have Dx := Blk.new w x.L 30
  have Dy := Blk.new (w.alloc (.cells x.L.toArray 30)) y.L 30
  replace Dx := Dx.alloc (.cells y.L.toArray 30)
  simp only [World.size_alloc] at Dy
  have bz := ((Below.refl _ w).alloc (Nat.le_refl _) (.cells x.L.toArray 30)).alloc (by simp <;> omega) (.cells y.L.toArray 30)
  have hsz0 : ((w.alloc (.cells x.L.toArray 30)).alloc (.cells y.L.toArray 30)).heap.size = w.heap.size + 2 := by simp
  go_enter Try.func33, Try.ntmps33
  go_wp2_with fail
  replace Dx := Dx.drew
  replace Dy := Dy.drew
  replace bz := bz.drew
  refine wp_region_held_drew (S := fun w9 : World => Vbx w9 w.heap.size x ∧ Vbx w9 (w.heap.size + 1) y) (by kernel_rfl) ⟨Dx, Dy⟩ (fun hS => ?_)
  generalize ((w.alloc (.cells x.L.toArray 30)).alloc (.cells y.L.toArray 30)).drew = wd at hS Dx Dy  bz ⊢
  refine wpAnyH_take (i := 0) (v := ?v0_107) rfl (by kernel_rfl) (by kernel_rfl) (by kernel_rfl) (fun _ _ _ h => h) (Or.inl ⟨by rfl, ?hy0_107⟩) (by assumption) ?rest0_107
  case hy0_107 => (intro w9 hSw; obtain ⟨m0, m1⟩ := hSw; refine (ld_v (by rfl) (by kernel_rfl) m0).trans ?_; with_reducible rfl)
  try simp only [Act.put, List.setIfInBounds_toArray, List.set_cons_zero, List.set_cons_succ, List.getElem_toArray, List.getElem_cons_zero, List.getElem_cons_succ]
  refine wpAnyH_take (i := 1) (v := ?v1_108) rfl (by kernel_rfl) (by kernel_rfl) (by kernel_rfl) (fun _ _ _ h => h) (Or.inl ⟨by rfl, ?hy1_108⟩) (by assumption) ?rest1_108
  case hy1_108 => (intro w9 hSw; obtain ⟨m0, m1⟩ := hSw; refine (ld_v (by rfl) (by kernel_rfl) m1).trans ?_; with_reducible rfl)
  try simp only [Act.put, List.setIfInBounds_toArray, List.set_cons_zero, List.set_cons_succ, List.getElem_toArray, List.getElem_cons_zero, List.getElem_cons_succ]
  refine wpAnyH_take (i := 3) (v := ?v3_109) rfl (by kernel_rfl) (by kernel_rfl) (by kernel_rfl) (fun _ _ _ h => h) (Or.inl ⟨by rfl, ?hy3_109⟩) (by assumption) ?rest3_109
  case hy3_109 => (intro w9 hSw; obtain ⟨m0, m1⟩ := hSw; refine (ld_v (by rfl) (by kernel_rfl) m1).trans ?_; with_reducible rfl)
  try simp only [Act.put, List.setIfInBounds_toArray, List.set_cons_zero, List.set_cons_succ, List.getElem_toArray, List.getElem_cons_zero, List.getElem_cons_succ]
  refine wpAnyH_ready (rs := [2]) (by kernel_rfl) (by simp) ?_
  refine AllReadyH.cons rfl (fun K hK => ?_) AllReadyH.nil
  go_simp
  with_reducible refine (Rows_any y _).mono ?_
  rintro e w1 ⟨rfl, hb⟩
  replace Dx := Dx.on hb
  replace Dy := Dy.on hb
  replace bz := bz.trans (hb.mono bz.size)
  clear hb
  refine hK.out _ _ ⟨Dx, Dy⟩ (fun hH => ?_)
  clear hK K hS
  have hS := hH
  clear hH
  try simp only [Act.put, List.setIfInBounds_toArray, List.set_cons_zero, List.set_cons_succ, List.getElem_toArray, List.getElem_cons_zero, List.getElem_cons_succ]
  refine wpAnyH_ready (rs := [4]) (by kernel_rfl) (by simp) ?_
  refine AllReadyH.cons rfl (fun K hK => ?_) AllReadyH.nil
  go_simp
  with_reducible refine (Cols_any y _).mono ?_
  rintro e w2 ⟨rfl, hb⟩
  replace Dx := Dx.on hb
  replace Dy := Dy.on hb
  replace bz := bz.trans (hb.mono bz.size)
  clear hb
  refine hK.out _ _ ⟨Dx, Dy⟩ (fun hH => ?_)
  clear hK K hS
  have hS := hH
  clear hH
  try simp only [Act.put, List.setIfInBounds_toArray, List.set_cons_zero, List.set_cons_succ, List.getElem_toArray, List.getElem_cons_zero, List.getElem_cons_succ]
  refine wpAnyH_ready (rs := [5]) (by kernel_rfl) (by simp) ?_
  refine AllReadyH.cons rfl (fun K hK => ?_) AllReadyH.nil
  go_simp
  with_reducible refine (p2 _ bz).mono ?_
  rintro e w3 ⟨rfl, hb⟩
  replace Dx := Dx.on hb
  replace Dy := Dy.on hb
  replace bz := bz.trans (hb.mono bz.size)
  clear hb
  refine hK.out _ _ ⟨Dx, Dy⟩ (fun hH => ?_)
  clear hK K hS
  have hS := hH
  clear hH
  try simp only [Act.put, List.setIfInBounds_toArray, List.set_cons_zero, List.set_cons_succ, List.getElem_toArray, List.getElem_cons_zero, List.getElem_cons_succ]
  refine wpAnyH_take (i := 6) (v := ?v6_110) rfl (by kernel_rfl) (by kernel_rfl) (by kernel_rfl) (fun _ _ _ h => h) (Or.inl ⟨by rfl, ?hy6_110⟩) (by assumption) ?rest6_110
  case hy6_110 => (intro w9 hSw; clear hSw; go_simp; try with_reducible rfl)
  try simp only [Act.put, List.setIfInBounds_toArray, List.set_cons_zero, List.set_cons_succ, List.getElem_toArray, List.getElem_cons_zero, List.getElem_cons_succ]
  refine wpAnyH_take (i := 7) (v := undef) rfl (by kernel_rfl) (by kernel_rfl) (by kernel_rfl) (fun _ _ _ h => h) (Or.inr ⟨by rfl, rfl⟩) (by assumption) ?_
  try simp only [Act.put, List.setIfInBounds_toArray, List.set_cons_zero, List.set_cons_succ, List.getElem_toArray, List.getElem_cons_zero, List.getElem_cons_succ]
  refine wpAnyH_take (i := 8) (v := undef) rfl (by kernel_rfl) (by kernel_rfl) (by kernel_rfl) (fun _ _ _ h => h) (Or.inr ⟨by rfl, rfl⟩) (by assumption) ?_
  try simp only [Act.put, List.setIfInBounds_toArray, List.set_cons_zero, List.set_cons_succ, List.getElem_toArray, List.getElem_cons_zero, List.getElem_cons_succ]
  refine wpAnyH_take (i := 9) (v := undef) rfl (by kernel_rfl) (by kernel_rfl) (by kernel_rfl) (fun _ _ _ h => h) (Or.inr ⟨by rfl, rfl⟩) (by assumption) ?_
  try simp only [Act.put, List.setIfInBounds_toArray, List.set_cons_zero, List.set_cons_succ, List.getElem_toArray, List.getElem_cons_zero, List.getElem_cons_succ]
  refine wpAnyH_take (i := 10) (v := undef) rfl (by kernel_rfl) (by kernel_rfl) (by kernel_rfl) (fun _ _ _ h => h) (Or.inr ⟨by rfl, rfl⟩) (by assumption) ?_
  try simp only [Act.put, List.setIfInBounds_toArray, List.set_cons_zero, List.set_cons_succ, List.getElem_toArray, List.getElem_cons_zero, List.getElem_cons_succ]
  refine wpAnyH_take (i := 11) (v := ?v11_111) rfl (by kernel_rfl) (by kernel_rfl) (by kernel_rfl) (fun _ _ _ h => h) (Or.inl ⟨by rfl, ?hy11_111⟩) (by assumption) ?rest11_111
  case hy11_111 => (intro w9 hSw; clear hSw; go_simp; try with_reducible rfl)
  try simp only [Act.put, List.setIfInBounds_toArray, List.set_cons_zero, List.set_cons_succ, List.getElem_toArray, List.getElem_cons_zero, List.getElem_cons_succ]
  refine wpAnyH_take (i := 12) (v := ?v12_112) rfl (by kernel_rfl) (by kernel_rfl) (by kernel_rfl) (fun _ _ _ h => h) (Or.inl ⟨by rfl, ?hy12_112⟩) (by assumption) ?rest12_112
  case hy12_112 => (intro w9 hSw; clear hSw; go_simp; try with_reducible rfl)
  try simp only [Act.put, List.setIfInBounds_toArray, List.set_cons_zero, List.set_cons_succ, List.getElem_toArray, List.getElem_cons_zero, List.getElem_cons_succ]
  refine wpAnyH_done (by kernel_rfl) ?_ _
  obtain ⟨v0_0, v0_1, v0_2, v0_3, v0_4, v0_5, v0_6, v0_7, v0_8⟩ := Vbx.cells Dx
  obtain ⟨v1_0, v1_1, v1_2, v1_3, v1_4, v1_5, v1_6, v1_7, v1_8⟩ := Vbx.cells Dy
  have hL : VLs (w3.alloc (.cells #[.pointer x.p, .int .i64 x.f0, .int .i64 x.f1, .int .i64 x.d0, .int .i64 x.d1, .int .i64 x.r0, .int .i64 x.r1, .int .i64 x.R, .int .i64 x.C, .pointer y.p, .int .i64 y.f0, .int .i64 y.f1, .int .i64 y.d0, .int .i64 y.d1, .int .i64 y.r0, .int .i64 y.r1, .int .i64 y.R, .int .i64 y.C] 30)) ⟨w3.heap.size, 0, none⟩ [x, y] := VLs.of (Blk.new w3 ([x, y].flatMap Vu.L) 30)
  replace Dx := Dx.on ((Below.refl _ _).alloc (Nat.le_refl _) ((.cells #[.pointer x.p, .int .i64 x.f0, .int .i64 x.f1, .int .i64 x.d0, .int .i64 x.d1, .int .i64 x.r0, .int .i64 x.r1, .int .i64 x.R, .int .i64 x.C, .pointer y.p, .int .i64 y.f0, .int .i64 y.f1, .int .i64 y.d0, .int .i64 y.d1, .int .i64 y.r0, .int .i64 y.r1, .int .i64 y.R, .int .i64 y.C] 30)))
  replace Dy := Dy.on ((Below.refl _ _).alloc (Nat.le_refl _) ((.cells #[.pointer x.p, .int .i64 x.f0, .int .i64 x.f1, .int .i64 x.d0, .int .i64 x.d1, .int .i64 x.r0, .int .i64 x.r1, .int .i64 x.R, .int .i64 x.C, .pointer y.p, .int .i64 y.f0, .int .i64 y.f1, .int .i64 y.d0, .int .i64 y.d1, .int .i64 y.r0, .int .i64 y.r1, .int .i64 y.R, .int .i64 y.C] 30)))
  replace bz := bz.alloc bz.size ((.cells #[.pointer x.p, .int .i64 x.f0, .int .i64 x.f1, .int .i64 x.d0, .int .i64 x.d1, .int .i64 x.r0, .int .i64 x.r1, .int .i64 x.R, .int .i64 x.C, .pointer y.p, .int .i64 y.f0, .int .i64 y.f1, .int .i64 y.d0, .int .i64 y.d1, .int .i64 y.r0, .int .i64 y.r1, .int .i64 y.R, .int .i64 y.C] 30))
  go_wp2_with fail
  with_reducible refine (refused_is false (vs := [x, y]) (n := 2) rfl (by omega) hL (by intro z hz; simp only [List.mem_cons, List.mem_nil_iff, or_false] at hz; rcases hz with rfl | rfl; exact ⟨_, HSx.out.on bz⟩; exact ⟨_, HSy.out.on bz⟩)).mono ?_
  rintro e w4 ⟨rfl, hb⟩
  clear v0_0 v0_1 v0_2 v0_3 v0_4 v0_5 v0_6 v0_7 v0_8 v1_0 v1_1 v1_2 v1_3 v1_4 v1_5 v1_6 v1_7 v1_8
  replace Dx := Dx.on hb
  replace Dy := Dy.on hb
  replace hL := hL.on hb
  replace bz := bz.trans (hb.mono bz.size)
  clear hb hL
  rw [HE.out]
  go_wp2_with fail
  go_ret
  exact ⟨rfl, bz⟩
set_option maxRecDepth 100000 in
set_option maxHeartbeats 8000000 in
theorem Swap_no1 (hx : Sv w x X) (hy : Sv w y Y) {E : Int} (h0 : (szd x y.R y.C) = true) (he : refE ((szd x y.R y.C) && (!(shB x y))) [x, y] = E) (hn : E ≠ 0) : Calls Try.prog 33 #[x.V, y.V] w (Ans w (.int .i64 E)) := by
  have hft : ((szd x y.R y.C) && (!(shB x y))) = (!(shB x y)) := by simp [h0]
  rw [hft] at he
  clear hft
  obtain ⟨FV, hFV⟩ : ∃ z, (!(shB x y)) = z := ⟨_, rfl⟩
  rw [hFV] at he
  have HSx := Lib.hid hx
  have HSy := Lib.hid hy
  have hne : (E != 0) = true := by simpa using hn
  have HE := Lib.hid he
  have p2 := fun (W : World) (bz : Below w.heap.size w W) => sized_is x y.R y.C W
  simp only [h0] at p2
  have p3 := fun (W : World) (bz : Below w.heap.size w W) => svShares (HSx.out.on bz) (HSy.out.on bz)
  simp only [show shB x y = !FV by rw [← hFV]; simp] at p3
  clear he hn hx hy h0 hFV
  have Dx := Blk.new w x.L 30
  have Dy := Blk.new (w.alloc (.cells x.L.toArray 30)) y.L 30
  replace Dx := Dx.alloc (.cells y.L.toArray 30)
  simp only [World.size_alloc] at Dy
  have bz := ((Below.refl _ w).alloc (Nat.le_refl _) (.cells x.L.toArray 30)).alloc (by simp <;> omega) (.cells y.L.toArray 30)
  have hsz0 : ((w.alloc (.cells x.L.toArray 30)).alloc (.cells y.L.toArray 30)).heap.size = w.heap.size + 2 := by simp
  go_enter Try.func33, Try.ntmps33
  go_wp2_with fail
  replace Dx := Dx.drew
  replace Dy := Dy.drew
  replace bz := bz.drew
  refine wp_region_held_drew (S := fun w9 : World => Vbx w9 w.heap.size x ∧ Vbx w9 (w.heap.size + 1) y) (by kernel_rfl) ⟨Dx, Dy⟩ (fun hS => ?_)
  generalize ((w.alloc (.cells x.L.toArray 30)).alloc (.cells y.L.toArray 30)).drew = wd at hS Dx Dy  bz ⊢
  refine wpAnyH_take (i := 0) (v := ?v0_113) rfl (by kernel_rfl) (by kernel_rfl) (by kernel_rfl) (fun _ _ _ h => h) (Or.inl ⟨by rfl, ?hy0_113⟩) (by assumption) ?rest0_113
  case hy0_113 => (intro w9 hSw; obtain ⟨m0, m1⟩ := hSw; refine (ld_v (by rfl) (by kernel_rfl) m0).trans ?_; with_reducible rfl)
  try simp only [Act.put, List.setIfInBounds_toArray, List.set_cons_zero, List.set_cons_succ, List.getElem_toArray, List.getElem_cons_zero, List.getElem_cons_succ]
  refine wpAnyH_take (i := 1) (v := ?v1_114) rfl (by kernel_rfl) (by kernel_rfl) (by kernel_rfl) (fun _ _ _ h => h) (Or.inl ⟨by rfl, ?hy1_114⟩) (by assumption) ?rest1_114
  case hy1_114 => (intro w9 hSw; obtain ⟨m0, m1⟩ := hSw; refine (ld_v (by rfl) (by kernel_rfl) m1).trans ?_; with_reducible rfl)
  try simp only [Act.put, List.setIfInBounds_toArray, List.set_cons_zero, List.set_cons_succ, List.getElem_toArray, List.getElem_cons_zero, List.getElem_cons_succ]
  refine wpAnyH_take (i := 3) (v := ?v3_115) rfl (by kernel_rfl) (by kernel_rfl) (by kernel_rfl) (fun _ _ _ h => h) (Or.inl ⟨by rfl, ?hy3_115⟩) (by assumption) ?rest3_115
  case hy3_115 => (intro w9 hSw; obtain ⟨m0, m1⟩ := hSw; refine (ld_v (by rfl) (by kernel_rfl) m1).trans ?_; with_reducible rfl)
  try simp only [Act.put, List.setIfInBounds_toArray, List.set_cons_zero, List.set_cons_succ, List.getElem_toArray, List.getElem_cons_zero, List.getElem_cons_succ]
  refine wpAnyH_ready (rs := [2]) (by kernel_rfl) (by simp) ?_
  refine AllReadyH.cons rfl (fun K hK => ?_) AllReadyH.nil
  go_simp
  with_reducible refine (Rows_any y _).mono ?_
  rintro e w1 ⟨rfl, hb⟩
  replace Dx := Dx.on hb
  replace Dy := Dy.on hb
  replace bz := bz.trans (hb.mono bz.size)
  clear hb
  refine hK.out _ _ ⟨Dx, Dy⟩ (fun hH => ?_)
  clear hK K hS
  have hS := hH
  clear hH
  try simp only [Act.put, List.setIfInBounds_toArray, List.set_cons_zero, List.set_cons_succ, List.getElem_toArray, List.getElem_cons_zero, List.getElem_cons_succ]
  refine wpAnyH_ready (rs := [4]) (by kernel_rfl) (by simp) ?_
  refine AllReadyH.cons rfl (fun K hK => ?_) AllReadyH.nil
  go_simp
  with_reducible refine (Cols_any y _).mono ?_
  rintro e w2 ⟨rfl, hb⟩
  replace Dx := Dx.on hb
  replace Dy := Dy.on hb
  replace bz := bz.trans (hb.mono bz.size)
  clear hb
  refine hK.out _ _ ⟨Dx, Dy⟩ (fun hH => ?_)
  clear hK K hS
  have hS := hH
  clear hH
  try simp only [Act.put, List.setIfInBounds_toArray, List.set_cons_zero, List.set_cons_succ, List.getElem_toArray, List.getElem_cons_zero, List.getElem_cons_succ]
  refine wpAnyH_ready (rs := [5]) (by kernel_rfl) (by simp) ?_
  refine AllReadyH.cons rfl (fun K hK => ?_) AllReadyH.nil
  go_simp
  with_reducible refine (p2 _ bz).mono ?_
  rintro e w3 ⟨rfl, hb⟩
  replace Dx := Dx.on hb
  replace Dy := Dy.on hb
  replace bz := bz.trans (hb.mono bz.size)
  clear hb
  refine hK.out _ _ ⟨Dx, Dy⟩ (fun hH => ?_)
  clear hK K hS
  have hS := hH
  clear hH
  try simp only [Act.put, List.setIfInBounds_toArray, List.set_cons_zero, List.set_cons_succ, List.getElem_toArray, List.getElem_cons_zero, List.getElem_cons_succ]
  refine wpAnyH_take (i := 6) (v := ?v6_116) rfl (by kernel_rfl) (by kernel_rfl) (by kernel_rfl) (fun _ _ _ h => h) (Or.inl ⟨by rfl, ?hy6_116⟩) (by assumption) ?rest6_116
  case hy6_116 => (intro w9 hSw; clear hSw; go_simp; try with_reducible rfl)
  try simp only [Act.put, List.setIfInBounds_toArray, List.set_cons_zero, List.set_cons_succ, List.getElem_toArray, List.getElem_cons_zero, List.getElem_cons_succ]
  refine wpAnyH_take (i := 7) (v := ?v7_117) rfl (by kernel_rfl) (by kernel_rfl) (by kernel_rfl) (fun _ _ _ h => h) (Or.inl ⟨by rfl, ?hy7_117⟩) (by assumption) ?rest7_117
  case hy7_117 => (intro w9 hSw; obtain ⟨m0, m1⟩ := hSw; refine (ld_v (by rfl) (by kernel_rfl) m0).trans ?_; with_reducible rfl)
  try simp only [Act.put, List.setIfInBounds_toArray, List.set_cons_zero, List.set_cons_succ, List.getElem_toArray, List.getElem_cons_zero, List.getElem_cons_succ]
  refine wpAnyH_take (i := 8) (v := ?v8_118) rfl (by kernel_rfl) (by kernel_rfl) (by kernel_rfl) (fun _ _ _ h => h) (Or.inl ⟨by rfl, ?hy8_118⟩) (by assumption) ?rest8_118
  case hy8_118 => (intro w9 hSw; obtain ⟨m0, m1⟩ := hSw; refine (ld_v (by rfl) (by kernel_rfl) m1).trans ?_; with_reducible rfl)
  try simp only [Act.put, List.setIfInBounds_toArray, List.set_cons_zero, List.set_cons_succ, List.getElem_toArray, List.getElem_cons_zero, List.getElem_cons_succ]
  refine wpAnyH_ready (rs := [9]) (by kernel_rfl) (by simp) ?_
  refine AllReadyH.cons rfl (fun K hK => ?_) AllReadyH.nil
  go_simp
  with_reducible refine (p3 _ bz).mono ?_
  rintro e w4 ⟨rfl, hb⟩
  replace Dx := Dx.on hb
  replace Dy := Dy.on hb
  replace bz := bz.trans (hb.mono bz.size)
  clear hb
  refine hK.out _ _ ⟨Dx, Dy⟩ (fun hH => ?_)
  clear hK K hS
  have hS := hH
  clear hH
  try simp only [Act.put, List.setIfInBounds_toArray, List.set_cons_zero, List.set_cons_succ, List.getElem_toArray, List.getElem_cons_zero, List.getElem_cons_succ]
  refine wpAnyH_take (i := 10) (v := ?v10_119) rfl (by kernel_rfl) (by kernel_rfl) (by kernel_rfl) (fun _ _ _ h => h) (Or.inl ⟨by rfl, ?hy10_119⟩) (by assumption) ?rest10_119
  case hy10_119 => (intro w9 hSw; clear hSw; go_simp; try with_reducible rfl)
  try simp only [Act.put, List.setIfInBounds_toArray, List.set_cons_zero, List.set_cons_succ, List.getElem_toArray, List.getElem_cons_zero, List.getElem_cons_succ]
  refine wpAnyH_take (i := 11) (v := ?v11_120) rfl (by kernel_rfl) (by kernel_rfl) (by kernel_rfl) (fun _ _ _ h => h) (Or.inl ⟨by rfl, ?hy11_120⟩) (by assumption) ?rest11_120
  case hy11_120 => (intro w9 hSw; clear hSw; go_simp; try with_reducible rfl)
  try simp only [Act.put, List.setIfInBounds_toArray, List.set_cons_zero, List.set_cons_succ, List.getElem_toArray, List.getElem_cons_zero, List.getElem_cons_succ]
  refine wpAnyH_take (i := 12) (v := ?v12_121) rfl (by kernel_rfl) (by kernel_rfl) (by kernel_rfl) (fun _ _ _ h => h) (Or.inl ⟨by rfl, ?hy12_121⟩) (by assumption) ?rest12_121
  case hy12_121 => (intro w9 hSw; clear hSw; go_simp; try with_reducible rfl)
  try simp only [Act.put, List.setIfInBounds_toArray, List.set_cons_zero, List.set_cons_succ, List.getElem_toArray, List.getElem_cons_zero, List.getElem_cons_succ]
  refine wpAnyH_done (by kernel_rfl) ?_ _
  obtain ⟨v0_0, v0_1, v0_2, v0_3, v0_4, v0_5, v0_6, v0_7, v0_8⟩ := Vbx.cells Dx
  obtain ⟨v1_0, v1_1, v1_2, v1_3, v1_4, v1_5, v1_6, v1_7, v1_8⟩ := Vbx.cells Dy
  have hL : VLs (w4.alloc (.cells #[.pointer x.p, .int .i64 x.f0, .int .i64 x.f1, .int .i64 x.d0, .int .i64 x.d1, .int .i64 x.r0, .int .i64 x.r1, .int .i64 x.R, .int .i64 x.C, .pointer y.p, .int .i64 y.f0, .int .i64 y.f1, .int .i64 y.d0, .int .i64 y.d1, .int .i64 y.r0, .int .i64 y.r1, .int .i64 y.R, .int .i64 y.C] 30)) ⟨w4.heap.size, 0, none⟩ [x, y] := VLs.of (Blk.new w4 ([x, y].flatMap Vu.L) 30)
  replace Dx := Dx.on ((Below.refl _ _).alloc (Nat.le_refl _) ((.cells #[.pointer x.p, .int .i64 x.f0, .int .i64 x.f1, .int .i64 x.d0, .int .i64 x.d1, .int .i64 x.r0, .int .i64 x.r1, .int .i64 x.R, .int .i64 x.C, .pointer y.p, .int .i64 y.f0, .int .i64 y.f1, .int .i64 y.d0, .int .i64 y.d1, .int .i64 y.r0, .int .i64 y.r1, .int .i64 y.R, .int .i64 y.C] 30)))
  replace Dy := Dy.on ((Below.refl _ _).alloc (Nat.le_refl _) ((.cells #[.pointer x.p, .int .i64 x.f0, .int .i64 x.f1, .int .i64 x.d0, .int .i64 x.d1, .int .i64 x.r0, .int .i64 x.r1, .int .i64 x.R, .int .i64 x.C, .pointer y.p, .int .i64 y.f0, .int .i64 y.f1, .int .i64 y.d0, .int .i64 y.d1, .int .i64 y.r0, .int .i64 y.r1, .int .i64 y.R, .int .i64 y.C] 30)))
  replace bz := bz.alloc bz.size ((.cells #[.pointer x.p, .int .i64 x.f0, .int .i64 x.f1, .int .i64 x.d0, .int .i64 x.d1, .int .i64 x.r0, .int .i64 x.r1, .int .i64 x.R, .int .i64 x.C, .pointer y.p, .int .i64 y.f0, .int .i64 y.f1, .int .i64 y.d0, .int .i64 y.d1, .int .i64 y.r0, .int .i64 y.r1, .int .i64 y.R, .int .i64 y.C] 30))
  go_wp2_with fail
  with_reducible refine (refused_is FV (vs := [x, y]) (n := 2) rfl (by omega) hL (by intro z hz; simp only [List.mem_cons, List.mem_nil_iff, or_false] at hz; rcases hz with rfl | rfl; exact ⟨_, HSx.out.on bz⟩; exact ⟨_, HSy.out.on bz⟩)).mono ?_
  rintro e w5 ⟨rfl, hb⟩
  clear v0_0 v0_1 v0_2 v0_3 v0_4 v0_5 v0_6 v0_7 v0_8 v1_0 v1_1 v1_2 v1_3 v1_4 v1_5 v1_6 v1_7 v1_8
  replace Dx := Dx.on hb
  replace Dy := Dy.on hb
  replace hL := hL.on hb
  replace bz := bz.trans (hb.mono bz.size)
  clear hb hL
  rw [HE.out]
  go_wp2_with fail
  go_ret
  exact ⟨rfl, bz⟩
theorem Swap_no (hx : Sv w x X) (hy : Sv w y Y) {E : Int} (he : refE ((szd x y.R y.C) && (!(shB x y))) [x, y] = E) (hn : E ≠ 0) : Calls Try.prog 33 #[x.V, y.V] w (Ans w (.int .i64 E)) := by
  cases h0 : (szd x y.R y.C)
  · exact Swap_no0 hx hy h0 he hn
  · exact Swap_no1 hx hy h0 he hn
end
end Go.Proofs.Ytfelmkkkaphkpaa
namespace Go.Proofs.Ytfelmkkkaphkpaa
open Go.RowKit Go.Bw Go.Sort Go.Shelf
set_option linter.unusedVariables false
set_option linter.unusedSimpArgs false
attribute [local go_sem] run_store_float

section
variable {w : World} {m q n c : Nat} {A : Option Addr} {l : List Int}
set_option maxRecDepth 100000 in
set_option maxHeartbeats 8000000 in
theorem rTrmm_true {up : Bool} {nt ct : Nat} {At : Option Addr} {lt : List Int} (h : FL w A n c l) (hn : n = m * q) (hm : m ≤ 512) (hq : q ≤ 512) (ht : FL w At nt ct lt) (hnt : nt = m * m) :
    Calls Try.prog 48 #[.bool up, .bool true, mV m m At nt ct, mV m q A n c] w (NewMt w m q n (tg (fun a b => true) (fun i j => trA up true lt l m q i j) l q)) := by
  obtain ⟨f, hf⟩ : ∃ f : Nat → Nat → Option Nat, (fun i j => trA up true lt l m q i j) = f := ⟨_, rfl⟩
  have Hf := Lib.hid (show ∀ i j, trA up true lt l m q i j = f i j from fun i j => by rw [← hf])
  rw [hf]
  clear hf
  have hn4 : n ≤ 262144 := by rw [hn]; exact Nat.le_trans (Nat.mul_le_mul hm hq) (by omega)
  have HH := Lib.hid h
  have HN := Lib.hid hn
  clear h hn
  have HT := Lib.hid ht
  have HNT := Lib.hid hnt
  clear ht hnt
  have D0 := Blk.new w [.int .i64 m, .int .i64 m, .slice At nt ct] 24
  have D1 := Blk.new (w.alloc (.cells #[.int .i64 m, .int .i64 m, .slice At nt ct] 24)) [.int .i64 m, .int .i64 q, .slice A n c] 24
  replace D0 := D0.alloc (.cells #[.int .i64 m, .int .i64 q, .slice A n c] 24)
  simp only [World.size_alloc] at D1
  have D2 := Blk.new ((w.alloc (.cells #[.int .i64 m, .int .i64 m, .slice At nt ct] 24)).alloc (.cells #[.int .i64 m, .int .i64 q, .slice A n c] 24)) [.int .i64 0, .int .i64 0, .slice none 0 0] 24
  replace D0 := D0.alloc (.cells #[.int .i64 0, .int .i64 0, .slice none 0 0] 24)
  replace D1 := D1.alloc (.cells #[.int .i64 0, .int .i64 0, .slice none 0 0] 24)
  simp only [World.size_alloc] at D2
  have bw := (((Below.refl _ w).alloc (Nat.le_refl _) (.cells #[.int .i64 m, .int .i64 m, .slice At nt ct] 24)).alloc (by simp <;> omega) (.cells #[.int .i64 m, .int .i64 q, .slice A n c] 24)).alloc (by simp <;> omega) (.cells #[.int .i64 0, .int .i64 0, .slice none 0 0] 24)
  have hsz : (((w.alloc (.cells #[.int .i64 m, .int .i64 m, .slice At nt ct] 24)).alloc (.cells #[.int .i64 m, .int .i64 q, .slice A n c] 24)).alloc (.cells #[.int .i64 0, .int .i64 0, .slice none 0 0] 24)).heap.size = w.heap.size + 3 := by simp
  obtain ⟨d0_0, d0_1, d0_2, d0_f0, d0_f1, d0_f2⟩ := Mbx.cells D0
  obtain ⟨d1_0, d1_1, d1_2, d1_f0, d1_f1, d1_f2⟩ := Mbx.cells D1
  have pc := rCopy_any (m := m) (q := q) (HH.out.on bw) hn4
  go_enter Try.func48, Try.ntmps48
  go_wp2_with fail
  with_reducible refine pc.mono ?_
  rintro e w1 ⟨A2, c2, rfl, ho, hb⟩
  clear pc
  clear d0_0 d0_1 d0_2 d0_f0 d0_f1 d0_f2
  clear d1_0 d1_1 d1_2 d1_f0 d1_f1 d1_f2
  have hA2 : ∀ a, A2 = some a → w.heap.size + 3 ≤ a.block ∧ a.block < w1.heap.size := fun a e => by have := ho.gt e; rw [hsz] at this; exact this
  have hs1 := hb.size
  rw [hsz] at hs1
  replace D0 := (D0.on hb).alloc (.cells #[.int .i64 m, .int .i64 q, .slice A2 n c2] 24)
  replace D1 := (D1.on hb).alloc (.cells #[.int .i64 m, .int .i64 q, .slice A2 n c2] 24)
  replace D2 := (D2.on hb).alloc (.cells #[.int .i64 m, .int .i64 q, .slice A2 n c2] 24)
  have DO := Blk.new w1 [.int .i64 m, .int .i64 q, .slice A2 n c2] 24
  replace bw := (bw.trans (hb.mono bw.size)).alloc (by omega) (.cells #[.int .i64 m, .int .i64 q, .slice A2 n c2] 24)
  have hG : Gs w (w.heap.size + 3) [(w.heap.size, [.int .i64 m, .int .i64 m, .slice At nt ct]), (w.heap.size + 1, [.int .i64 m, .int .i64 q, .slice A n c]), (w.heap.size + 2, [.int .i64 0, .int .i64 0, .slice none 0 0]), (w1.heap.size, [.int .i64 m, .int .i64 q, .slice A2 n c2])] m q A2 c2 l l (fun a b => decide (a < 0 ∨ (a = 0 ∧ b < 0))) f (w1.alloc (.cells #[.int .i64 m, .int .i64 q, .slice A2 n c2] 24)) := {
    mr := Mr.start (by rw [← HN.out]; exact HH.out.1) HH.out.2.2 (fun a b h1 h2 => by simp <;> omega)
    own := ((ho.less (by rw [hsz]; exact Nat.le_refl _)).alloc_ _)
    bx := by intro b hb9; simp only [List.mem_cons, List.mem_nil_iff, or_false] at hb9; rcases hb9 with rfl | rfl | rfl | rfl
             · exact D0
             · exact D1
             · exact D2
             · exact DO
    ne := by intro b hb9 a ea; have := hA2 a ea; simp only [List.mem_cons, List.mem_nil_iff, or_false] at hb9; rcases hb9 with rfl | rfl | rfl | rfl <;> simp <;> omega
    bw := bw
    lo := by omega }
  clear hA2 hs1 hsz bw hb ho D0 D1 D2
  obtain ⟨dO_0, dO_1, dO_2, dO_f0, dO_f1, dO_f2⟩ := Mbx.cells DO
  have D0 : Blk (w1.alloc (.cells #[.int .i64 m, .int .i64 q, .slice A2 n c2] 24)) (w.heap.size) [.int .i64 m, .int .i64 m, .slice At nt ct] := hG.bx _ (.head _)
  have D1 : Blk (w1.alloc (.cells #[.int .i64 m, .int .i64 q, .slice A2 n c2] 24)) (w.heap.size + 1) [.int .i64 m, .int .i64 q, .slice A n c] := hG.bx _ (.tail _ (.head _))
  obtain ⟨d0_0, d0_1, d0_2, d0_f0, d0_f1, d0_f2⟩ := Mbx.cells D0
  obtain ⟨d1_0, d1_1, d1_2, d1_f0, d1_f1, d1_f2⟩ := Mbx.cells D1
  go_wp2_with fail
  obtain ⟨HO, hHO⟩ : ∃ HO, w1.heap.size = HO := ⟨_, rfl⟩
  clear d0_0 d0_1 d0_2 d0_f0 d0_f1 d0_f2
  clear d1_0 d1_1 d1_2 d1_f0 d1_f1 d1_f2
  clear dO_0 dO_1 dO_2 dO_f0 dO_f1 dO_f2
  clear DO D0 D1
  simp only [hHO] at hG ⊢
  clear hHO
  go_loopw [10] (fun i wr => ∃ (k : Nat) (L : List Int), k ≤ m ∧ i = .int .i64 k ∧ Gs w (w.heap.size + 3) [(w.heap.size, [.int .i64 m, .int .i64 m, .slice At nt ct]), (w.heap.size + 1, [.int .i64 m, .int .i64 q, .slice A n c]), (w.heap.size + 2, [.int .i64 0, .int .i64 0, .slice none 0 0]), (HO, [.int .i64 m, .int .i64 q, .slice A2 n c2])] m q A2 c2 l L (fun a b => decide (a < k ∨ (a = k ∧ b < 0))) f wr) (fun i _ => m - (intOf i).toNat)
  case atStart => exact ⟨0, l, Nat.zero_le _, rfl, hG⟩
  case round =>
    clear hG
    obtain ⟨i, L, hi, rfl, hG⟩ := hrel
    have D0 : Blk wr (w.heap.size) [.int .i64 m, .int .i64 m, .slice At nt ct] := hG.bx _ (.head _)
    have D1 : Blk wr (w.heap.size + 1) [.int .i64 m, .int .i64 q, .slice A n c] := hG.bx _ (.tail _ (.head _))
    have DZ : Blk wr (w.heap.size + 2) [.int .i64 0, .int .i64 0, .slice none 0 0] := hG.bx _ (.tail _ (.tail _ (.head _)))
    have DO : Blk wr HO [.int .i64 m, .int .i64 q, .slice A2 n c2] := hG.bx _ (.tail _ (.tail _ (.tail _ (.head _))))
    obtain ⟨d0_0, d0_1, d0_2, d0_f0, d0_f1, d0_f2⟩ := Mbx.cells D0
    obtain ⟨d1_0, d1_1, d1_2, d1_f0, d1_f1, d1_f2⟩ := Mbx.cells D1
    obtain ⟨dO_0, dO_1, dO_2, dO_f0, dO_f1, dO_f2⟩ := Mbx.cells DO
    obtain ⟨dz_0, dz_1, dz_2, dz_f0, dz_f1, dz_f2⟩ := Mbx.cells DZ
    by_cases hlt : i < m
    · have i0 : (0 : Int) ≤ i := by omega
      have i1 : (i : Int) < m := by omega
      cases up
      · have HF := Lib.hid (show ∀ i j, trS true lt l m q i j 0 (i + 1) = f i j from fun i j => Hf.out i j)
        have hi5 : i + 1 ≤ m := by omega
        go_wp2_with fail
        clear d0_0 d0_1 d0_2 d0_f0 d0_f1 d0_f2
        clear d1_0 d1_1 d1_2 d1_f0 d1_f1 d1_f2
        clear dO_0 dO_1 dO_2 dO_f0 dO_f1 dO_f2
        clear dz_0 dz_1 dz_2 dz_f0 dz_f1 dz_f2
        clear DO DZ D0 D1
        go_loopw [13] (fun j wr => ∃ (jj : Nat) (L : List Int), jj ≤ q ∧ j = .int .i64 jj ∧ Gs w (w.heap.size + 3) [(w.heap.size, [.int .i64 m, .int .i64 m, .slice At nt ct]), (w.heap.size + 1, [.int .i64 m, .int .i64 q, .slice A n c]), (w.heap.size + 2, [.int .i64 0, .int .i64 0, .slice none 0 0]), (HO, [.int .i64 m, .int .i64 q, .slice A2 n c2])] m q A2 c2 l L (fun a b => decide (a < i ∨ (a = i ∧ b < jj))) f wr) (fun j _ => q - (intOf j).toNat)
        case atStart => exact ⟨0, L, by omega, by go_num, hG⟩
        case round =>
          clear hG
          obtain ⟨j, L, hj, rfl, hG⟩ := hrel
          have D0 : Blk wr (w.heap.size) [.int .i64 m, .int .i64 m, .slice At nt ct] := hG.bx _ (.head _)
          have D1 : Blk wr (w.heap.size + 1) [.int .i64 m, .int .i64 q, .slice A n c] := hG.bx _ (.tail _ (.head _))
          have DZ : Blk wr (w.heap.size + 2) [.int .i64 0, .int .i64 0, .slice none 0 0] := hG.bx _ (.tail _ (.tail _ (.head _)))
          have DO : Blk wr HO [.int .i64 m, .int .i64 q, .slice A2 n c2] := hG.bx _ (.tail _ (.tail _ (.tail _ (.head _))))
          obtain ⟨d0_0, d0_1, d0_2, d0_f0, d0_f1, d0_f2⟩ := Mbx.cells D0
          obtain ⟨d1_0, d1_1, d1_2, d1_f0, d1_f1, d1_f2⟩ := Mbx.cells D1
          obtain ⟨dO_0, dO_1, dO_2, dO_f0, dO_f1, dO_f2⟩ := Mbx.cells DO
          obtain ⟨dz_0, dz_1, dz_2, dz_f0, dz_f1, dz_f2⟩ := Mbx.cells DZ
          by_cases hjt : j < q
          · have j0 : (0 : Int) ≤ j := by omega
            have j1 : (j : Int) < q := by omega
            have hjq : j < q := by omega
            have hKl := ix_lt hlt hjq
            rw [← hG.mr.len] at hKl
            have hX2 : i * q ≤ 512 * 512 := Nat.mul_le_mul (by omega) hq
            obtain ⟨X, hX⟩ : ∃ X, i * q = X := ⟨_, rfl⟩
            have hXi : (i : Int) * (q : Int) = (X : Int) := by exact_mod_cast hX
            obtain ⟨Kp, hKp⟩ : ∃ Kp, X + j = Kp := ⟨_, rfl⟩
            have hKi : (X : Int) + (j : Int) = (Kp : Int) := by exact_mod_cast hKp
            have HK := Lib.hid (show i * q + j = Kp by rw [hX, hKp])
            rw [hX, hKp] at hKl
            rw [hX] at hX2
            have hKn : Kp < n := by rw [HN.out, ← hG.mr.len]; exact hKl
            obtain ⟨g5, hA5, _, _⟩ := hG.own.at_ hKl
            subst hA5
            have k0 : (0 : Int) ≤ Kp := by omega
            have k1 : (Kp : Int) < n := by omega
            have v1 : IntKind.i64.wrap (X : Int) = X := by rw [IntKind.wrap_i64]; omega
            have v2 : IntKind.i64.wrap (Kp : Int) = Kp := by rw [IntKind.wrap_i64]; omega
            clear hX hKp
            go_wp2_with fail
            clear d0_0 d0_1 d0_2 d0_f0 d0_f1 d0_f2
            clear d1_0 d1_1 d1_2 d1_f0 d1_f1 d1_f2
            clear dO_0 dO_1 dO_2 dO_f0 dO_f1 dO_f2
            clear dz_0 dz_1 dz_2 dz_f0 dz_f1 dz_f2
            clear DO DZ D0 D1
            go_loopw [14, 15] (fun acc kk wr => ∃ (k r : Nat), 0 ≤ k ∧ k ≤ (i + 1) ∧ kk = .int .i64 k ∧ acc = .float .f64 r ∧ Hid (af r = trS true lt l m q i j 0 k) ∧ r ≤ 18446744073709551615 ∧ Gs w (w.heap.size + 3) [(w.heap.size, [.int .i64 m, .int .i64 m, .slice At nt ct]), (w.heap.size + 1, [.int .i64 m, .int .i64 q, .slice A n c]), (w.heap.size + 2, [.int .i64 0, .int .i64 0, .slice none 0 0]), (HO, [.int .i64 m, .int .i64 q, .slice (some ⟨g5, 0, none⟩) n c2])] m q (some ⟨g5, 0, none⟩) c2 l L (fun a b => decide (a < i ∨ (a = i ∧ b < j))) f wr) (fun _ kk _ => (i + 1) - (intOf kk).toNat)
            case atStart => exact ⟨0, 0, Nat.le_refl _, by omega, by first | rfl | go_num, rfl, Lib.hid (by rw [trS_start]; exact af_zero), by omega, hG⟩
            case round =>
              clear hG
              obtain ⟨k, r, hk1, hk2, rfl, rfl, HN5, br, hG⟩ := hrel
              have D0 : Blk wr (w.heap.size) [.int .i64 m, .int .i64 m, .slice At nt ct] := hG.bx _ (.head _)
              have D1 : Blk wr (w.heap.size + 1) [.int .i64 m, .int .i64 q, .slice A n c] := hG.bx _ (.tail _ (.head _))
              have DZ : Blk wr (w.heap.size + 2) [.int .i64 0, .int .i64 0, .slice none 0 0] := hG.bx _ (.tail _ (.tail _ (.head _)))
              have DO : Blk wr HO [.int .i64 m, .int .i64 q, .slice (some ⟨g5, 0, none⟩) n c2] := hG.bx _ (.tail _ (.tail _ (.tail _ (.head _))))
              obtain ⟨d0_0, d0_1, d0_2, d0_f0, d0_f1, d0_f2⟩ := Mbx.cells D0
              obtain ⟨d1_0, d1_1, d1_2, d1_f0, d1_f1, d1_f2⟩ := Mbx.cells D1
              obtain ⟨dO_0, dO_1, dO_2, dO_f0, dO_f1, dO_f2⟩ := Mbx.cells DO
              obtain ⟨dz_0, dz_1, dz_2, dz_f0, dz_f1, dz_f2⟩ := Mbx.cells DZ
              by_cases hkt : k < (i + 1)
              · have hkm : k < m := by omega
                have kc0 : (0 : Int) ≤ k := by omega
                have kc1 : (k : Int) ≤ i := by omega
                have Hn := Lib.hid (trS_next (unit := true) (lt := lt) (l := l) (m := m) (q := q) (i := i) (j := j) hk1)
                go_wp2_with fail
                with_reducible refine (rAt_any (HT.out.on hG.bw) HNT.out hm hm hlt hkm).mono ?_
                rintro e w1 ⟨rfl, hb⟩
                clear d0_0 d0_1 d0_2 d0_f0 d0_f1 d0_f2
                clear d1_0 d1_1 d1_2 d1_f0 d1_f1 d1_f2
                clear dO_0 dO_1 dO_2 dO_f0 dO_f1 dO_f2
                clear dz_0 dz_1 dz_2 dz_f0 dz_f1 dz_f2
                clear DO DZ D0 D1
                replace hG := hG.on hb
                obtain ⟨lz, uz⟩ := HT.out.2.2.at_ (i * m + k)
                have bZ : (D lt (i * m + k)).toNat ≤ 18446744073709551615 := by omega
                have HZ : Hid (af (D lt (i * m + k)).toNat = ma lt m i k) := Lib.hid rfl
                generalize (D lt (i * m + k)).toNat = Z9 at *
                clear lz uz hb
                obtain ⟨lz, uz⟩ := HH.out.2.2.at_ (k * q + j)
                have bY : (D l (k * q + j)).toNat ≤ 18446744073709551615 := by omega
                have HY : Hid (af (D l (k * q + j)).toNat = ma l q k j) := Lib.hid rfl
                have pa := fun W (hF : FL W A n c l) => rAt_any hF HN.out hm hq hkm hjq
                generalize (D l (k * q + j)).toNat = Y9 at *
                clear lz uz
                by_cases hki : k = i
                · have HE : Hid (af 4607182418800017408 = trT true lt m i k) := Lib.hid (by rw [af_one]; unfold trT; rw [hki]; simp)
                  have kei : ((k : Int) == (i : Int)) = true := by simp [hki]
                  have HKI := Lib.hid hki
                  clear hki
                  have D0 : Blk w1 (w.heap.size) [.int .i64 m, .int .i64 m, .slice At nt ct] := hG.bx _ (.head _)
                  have D1 : Blk w1 (w.heap.size + 1) [.int .i64 m, .int .i64 q, .slice A n c] := hG.bx _ (.tail _ (.head _))
                  have DZ : Blk w1 (w.heap.size + 2) [.int .i64 0, .int .i64 0, .slice none 0 0] := hG.bx _ (.tail _ (.tail _ (.head _)))
                  have DO : Blk w1 HO [.int .i64 m, .int .i64 q, .slice (some ⟨g5, 0, none⟩) n c2] := hG.bx _ (.tail _ (.tail _ (.tail _ (.head _))))
                  obtain ⟨d0_0, d0_1, d0_2, d0_f0, d0_f1, d0_f2⟩ := Mbx.cells D0
                  obtain ⟨d1_0, d1_1, d1_2, d1_f0, d1_f1, d1_f2⟩ := Mbx.cells D1
                  obtain ⟨dO_0, dO_1, dO_2, dO_f0, dO_f1, dO_f2⟩ := Mbx.cells DO
                  obtain ⟨dz_0, dz_1, dz_2, dz_f0, dz_f1, dz_f2⟩ := Mbx.cells DZ
                  go_wp2_with fail
                  with_reducible refine (pa _ (HH.out.on hG.bw)).mono ?_
                  rintro e w2 ⟨rfl, hb⟩
                  clear d0_0 d0_1 d0_2 d0_f0 d0_f1 d0_f2
                  clear d1_0 d1_1 d1_2 d1_f0 d1_f1 d1_f2
                  clear dO_0 dO_1 dO_2 dO_f0 dO_f1 dO_f2
                  clear dz_0 dz_1 dz_2 dz_f0 dz_f1 dz_f2
                  clear DO DZ D0 D1
                  replace hG := hG.on hb
                  clear hb
                  obtain ⟨r1, w3, e1, d1, h1, b1⟩ := run_mul (P := Try.prog) 32 (x := 4607182418800017408) (y := Y9) (by omega) bY w2
                  obtain ⟨r2, w4, e2, d2, h2, b2⟩ := run_add (P := Try.prog) 32 (x := r) (y := r1) br b1 w3
                  have HK9 : Hid (af r2 = trS true lt l m q i j 0 (k + 1)) := Lib.hid (by rw [Hn.out, h2, HN5.out, h1, HY.out, HE.out])
                  clear h1 h2
                  replace hG := hG.on (d1.trans d2).below
                  clear d1 d2
                  go_wp2_with fail
                  go_roundw
                  case rel => exact ⟨k + 1, r2, by omega, by omega, by go_num, rfl, HK9, b2, hG⟩
                  case measure => simp [intOf]; omega
                · have HE : Hid (af Z9 = trT true lt m i k) := Lib.hid (by rw [HZ.out]; unfold trT; rw [if_neg (by simp [hki])])
                  have kei : ((k : Int) == (i : Int)) = false := by simp; omega
                  have D0 : Blk w1 (w.heap.size) [.int .i64 m, .int .i64 m, .slice At nt ct] := hG.bx _ (.head _)
                  have D1 : Blk w1 (w.heap.size + 1) [.int .i64 m, .int .i64 q, .slice A n c] := hG.bx _ (.tail _ (.head _))
                  have DZ : Blk w1 (w.heap.size + 2) [.int .i64 0, .int .i64 0, .slice none 0 0] := hG.bx _ (.tail _ (.tail _ (.head _)))
                  have DO : Blk w1 HO [.int .i64 m, .int .i64 q, .slice (some ⟨g5, 0, none⟩) n c2] := hG.bx _ (.tail _ (.tail _ (.tail _ (.head _))))
                  obtain ⟨d0_0, d0_1, d0_2, d0_f0, d0_f1, d0_f2⟩ := Mbx.cells D0
                  obtain ⟨d1_0, d1_1, d1_2, d1_f0, d1_f1, d1_f2⟩ := Mbx.cells D1
                  obtain ⟨dO_0, dO_1, dO_2, dO_f0, dO_f1, dO_f2⟩ := Mbx.cells DO
                  obtain ⟨dz_0, dz_1, dz_2, dz_f0, dz_f1, dz_f2⟩ := Mbx.cells DZ
                  go_wp2_with fail
                  with_reducible refine (pa _ (HH.out.on hG.bw)).mono ?_
                  rintro e w2 ⟨rfl, hb⟩
                  clear d0_0 d0_1 d0_2 d0_f0 d0_f1 d0_f2
                  clear d1_0 d1_1 d1_2 d1_f0 d1_f1 d1_f2
                  clear dO_0 dO_1 dO_2 dO_f0 dO_f1 dO_f2
                  clear dz_0 dz_1 dz_2 dz_f0 dz_f1 dz_f2
                  clear DO DZ D0 D1
                  replace hG := hG.on hb
                  clear hb
                  obtain ⟨r1, w3, e1, d1, h1, b1⟩ := run_mul (P := Try.prog) 32 (x := Z9) (y := Y9) bZ bY w2
                  obtain ⟨r2, w4, e2, d2, h2, b2⟩ := run_add (P := Try.prog) 32 (x := r) (y := r1) br b1 w3
                  have HK9 : Hid (af r2 = trS true lt l m q i j 0 (k + 1)) := Lib.hid (by rw [Hn.out, h2, HN5.out, h1, HY.out, HE.out])
                  clear h1 h2
                  replace hG := hG.on (d1.trans d2).below
                  clear d1 d2
                  go_wp2_with fail
                  go_roundw
                  case rel => exact ⟨k + 1, r2, by omega, by omega, by go_num, rfl, HK9, b2, hG⟩
                  case measure => simp [intOf]; omega
              · have hke : k = (i + 1) := by omega
                rw [hke] at HN5
                have HR : Hid (af r = f i j) := Lib.hid (by rw [HN5.out]; exact HF.out i j)
                have kc1 : ¬ (k : Int) ≤ i := by omega
                clear hke
                obtain ⟨hc5, hf5⟩ := hG.cell hKl
                replace hG := hG.set (Q := fun a b => decide (a < i ∨ (a = i ∧ b < (j + 1)))) HK.out hlt hjq (r := r) HR.out br (fun a b h1 h2 => by simp only [← Bool.decide_or, decide_eq_decide]; omega)
                go_wp2_with fail
                go_roundw
                case rel => exact ⟨j + 1, _, by omega, by go_num, hG⟩
                case measure => simp [intOf]; omega
          · have hG9 := hG.congr (Q := fun a b => decide (a < (i + 1) ∨ (a = (i + 1) ∧ b < 0))) (fun a b h1 h2 => by simp only [decide_eq_decide]; omega)
            go_wp2_with fail
            go_roundw
            case rel => exact ⟨i + 1, L, by omega, by go_num, hG9⟩
            case measure => simp [intOf]; omega
      · have HF := Lib.hid (show ∀ i j, trS true lt l m q i j i m = f i j from fun i j => Hf.out i j)
        obtain ⟨to, hto⟩ : ∃ to : Int, (m : Int) - 1 = to := ⟨_, rfl⟩
        have to0 : 0 ≤ to ∧ to ≤ 511 := by omega
        go_wp2_with fail
        clear d0_0 d0_1 d0_2 d0_f0 d0_f1 d0_f2
        clear d1_0 d1_1 d1_2 d1_f0 d1_f1 d1_f2
        clear dO_0 dO_1 dO_2 dO_f0 dO_f1 dO_f2
        clear dz_0 dz_1 dz_2 dz_f0 dz_f1 dz_f2
        clear DO DZ D0 D1
        replace hG := hG.on (Below.refl _ _).drew
        have bz := Below.refl wr.drew.heap.size wr.drew
        refine wp_region_held_drew (S := fun w9 : World => Mbx w9 (w.heap.size + 1) m q A n c) (by kernel_rfl) (hG.bx _ (.tail _ (.head _))) (fun hS => ?_)
        generalize wr.drew = wd at hS hG  bz ⊢
        refine wpAnyH_take (i := 0) (v := ?v0_32) rfl (by kernel_rfl) (by kernel_rfl) (by kernel_rfl) (fun _ _ _ h => h) (Or.inl ⟨by rfl, ?hy0_32⟩) (by assumption) ?rest0_32
        case hy0_32 => (intro w9 hSw; clear hSw; go_simp; try with_reducible rfl)
        try simp only [Act.put, List.setIfInBounds_toArray, List.set_cons_zero, List.set_cons_succ, List.getElem_toArray, List.getElem_cons_zero, List.getElem_cons_succ]
        refine wpAnyH_take (i := 1) (v := ?v1_33) rfl (by kernel_rfl) (by kernel_rfl) (by kernel_rfl) (fun _ _ _ h => h) (Or.inl ⟨by rfl, ?hy1_33⟩) (by assumption) ?rest1_33
        case hy1_33 => (intro w9 hSw; clear hSw; go_simp; try with_reducible rfl)
        try simp only [Act.put, List.setIfInBounds_toArray, List.set_cons_zero, List.set_cons_succ, List.getElem_toArray, List.getElem_cons_zero, List.getElem_cons_succ]
        refine wpAnyH_take (i := 2) (v := ?v2_34) rfl (by kernel_rfl) (by kernel_rfl) (by kernel_rfl) (fun _ _ _ h => h) (Or.inl ⟨by rfl, ?hy2_34⟩) (by assumption) ?rest2_34
        case hy2_34 => (intro w9 hSw; obtain ⟨c0, c1, c2, f0, f1, f2⟩ := Mbx.cells (show Mbx w9 (w.heap.size + 1) m q A n c from hSw); go_simp; try with_reducible rfl)
        try simp only [Act.put, List.setIfInBounds_toArray, List.set_cons_zero, List.set_cons_succ, List.getElem_toArray, List.getElem_cons_zero, List.getElem_cons_succ]
        refine wpAnyH_take (i := 3) (v := ?v3_35) rfl (by kernel_rfl) (by kernel_rfl) (by kernel_rfl) (fun _ _ _ h => h) (Or.inl ⟨by rfl, ?hy3_35⟩) (by assumption) ?rest3_35
        case hy3_35 => (intro w9 hSw; clear hSw; go_simp; try with_reducible rfl)
        try simp only [Act.put, List.setIfInBounds_toArray, List.set_cons_zero, List.set_cons_succ, List.getElem_toArray, List.getElem_cons_zero, List.getElem_cons_succ]
        refine wpAnyH_take (i := 4) (v := ?v4_36) rfl (by kernel_rfl) (by kernel_rfl) (by kernel_rfl) (fun _ _ _ h => h) (Or.inl ⟨by rfl, ?hy4_36⟩) (by assumption) ?rest4_36
        case hy4_36 => (intro w9 hSw; clear hSw; go_simp; try with_reducible rfl)
        try simp only [Act.put, List.setIfInBounds_toArray, List.set_cons_zero, List.set_cons_succ, List.getElem_toArray, List.getElem_cons_zero, List.getElem_cons_succ]
        refine wpAnyH_take (i := 5) (v := ?v5_37) rfl (by kernel_rfl) (by kernel_rfl) (by kernel_rfl) (fun _ _ _ h => h) (Or.inl ⟨by rfl, ?hy5_37⟩) (by assumption) ?rest5_37
        case hy5_37 => (intro w9 hSw; clear hSw; go_simp; try with_reducible rfl)
        try simp only [Act.put, List.setIfInBounds_toArray, List.set_cons_zero, List.set_cons_succ, List.getElem_toArray, List.getElem_cons_zero, List.getElem_cons_succ]
        refine wpAnyH_done (by kernel_rfl) ?_ _
        clear bz hS
        have HTO := Lib.hid hto
        go_wp2_with fail
        go_loopw [13] (fun j wr => ∃ (jj : Nat) (L : List Int), jj ≤ q ∧ j = .int .i64 jj ∧ Gs w (w.heap.size + 3) [(w.heap.size, [.int .i64 m, .int .i64 m, .slice At nt ct]), (w.heap.size + 1, [.int .i64 m, .int .i64 q, .slice A n c]), (w.heap.size + 2, [.int .i64 0, .int .i64 0, .slice none 0 0]), (HO, [.int .i64 m, .int .i64 q, .slice A2 n c2])] m q A2 c2 l L (fun a b => decide (a < i ∨ (a = i ∧ b < jj))) f wr) (fun j _ => q - (intOf j).toNat)
        case atStart => exact ⟨0, L, by omega, by go_num, hG⟩
        case round =>
          clear hG
          obtain ⟨j, L, hj, rfl, hG⟩ := hrel
          have D0 : Blk wr (w.heap.size) [.int .i64 m, .int .i64 m, .slice At nt ct] := hG.bx _ (.head _)
          have D1 : Blk wr (w.heap.size + 1) [.int .i64 m, .int .i64 q, .slice A n c] := hG.bx _ (.tail _ (.head _))
          have DZ : Blk wr (w.heap.size + 2) [.int .i64 0, .int .i64 0, .slice none 0 0] := hG.bx _ (.tail _ (.tail _ (.head _)))
          have DO : Blk wr HO [.int .i64 m, .int .i64 q, .slice A2 n c2] := hG.bx _ (.tail _ (.tail _ (.tail _ (.head _))))
          obtain ⟨d0_0, d0_1, d0_2, d0_f0, d0_f1, d0_f2⟩ := Mbx.cells D0
          obtain ⟨d1_0, d1_1, d1_2, d1_f0, d1_f1, d1_f2⟩ := Mbx.cells D1
          obtain ⟨dO_0, dO_1, dO_2, dO_f0, dO_f1, dO_f2⟩ := Mbx.cells DO
          obtain ⟨dz_0, dz_1, dz_2, dz_f0, dz_f1, dz_f2⟩ := Mbx.cells DZ
          by_cases hjt : j < q
          · have j0 : (0 : Int) ≤ j := by omega
            have j1 : (j : Int) < q := by omega
            have hjq : j < q := by omega
            have hKl := ix_lt hlt hjq
            rw [← hG.mr.len] at hKl
            have hX2 : i * q ≤ 512 * 512 := Nat.mul_le_mul (by omega) hq
            obtain ⟨X, hX⟩ : ∃ X, i * q = X := ⟨_, rfl⟩
            have hXi : (i : Int) * (q : Int) = (X : Int) := by exact_mod_cast hX
            obtain ⟨Kp, hKp⟩ : ∃ Kp, X + j = Kp := ⟨_, rfl⟩
            have hKi : (X : Int) + (j : Int) = (Kp : Int) := by exact_mod_cast hKp
            have HK := Lib.hid (show i * q + j = Kp by rw [hX, hKp])
            rw [hX, hKp] at hKl
            rw [hX] at hX2
            have hKn : Kp < n := by rw [HN.out, ← hG.mr.len]; exact hKl
            obtain ⟨g5, hA5, _, _⟩ := hG.own.at_ hKl
            subst hA5
            have k0 : (0 : Int) ≤ Kp := by omega
            have k1 : (Kp : Int) < n := by omega
            have v1 : IntKind.i64.wrap (X : Int) = X := by rw [IntKind.wrap_i64]; omega
            have v2 : IntKind.i64.wrap (Kp : Int) = Kp := by rw [IntKind.wrap_i64]; omega
            clear hX hKp
            go_wp2_with fail
            clear d0_0 d0_1 d0_2 d0_f0 d0_f1 d0_f2
            clear d1_0 d1_1 d1_2 d1_f0 d1_f1 d1_f2
            clear dO_0 dO_1 dO_2 dO_f0 dO_f1 dO_f2
            clear dz_0 dz_1 dz_2 dz_f0 dz_f1 dz_f2
            clear DO DZ D0 D1
            go_loopw [14, 15] (fun acc kk wr => ∃ (k r : Nat), i ≤ k ∧ k ≤ m ∧ kk = .int .i64 k ∧ acc = .float .f64 r ∧ Hid (af r = trS true lt l m q i j i k) ∧ r ≤ 18446744073709551615 ∧ Gs w (w.heap.size + 3) [(w.heap.size, [.int .i64 m, .int .i64 m, .slice At nt ct]), (w.heap.size + 1, [.int .i64 m, .int .i64 q, .slice A n c]), (w.heap.size + 2, [.int .i64 0, .int .i64 0, .slice none 0 0]), (HO, [.int .i64 m, .int .i64 q, .slice (some ⟨g5, 0, none⟩) n c2])] m q (some ⟨g5, 0, none⟩) c2 l L (fun a b => decide (a < i ∨ (a = i ∧ b < j))) f wr) (fun _ kk _ => m - (intOf kk).toNat)
            case atStart => exact ⟨i, 0, Nat.le_refl _, by omega, by first | rfl | go_num, rfl, Lib.hid (by rw [trS_start]; exact af_zero), by omega, hG⟩
            case round =>
              clear hG
              obtain ⟨k, r, hk1, hk2, rfl, rfl, HN5, br, hG⟩ := hrel
              have D0 : Blk wr (w.heap.size) [.int .i64 m, .int .i64 m, .slice At nt ct] := hG.bx _ (.head _)
              have D1 : Blk wr (w.heap.size + 1) [.int .i64 m, .int .i64 q, .slice A n c] := hG.bx _ (.tail _ (.head _))
              have DZ : Blk wr (w.heap.size + 2) [.int .i64 0, .int .i64 0, .slice none 0 0] := hG.bx _ (.tail _ (.tail _ (.head _)))
              have DO : Blk wr HO [.int .i64 m, .int .i64 q, .slice (some ⟨g5, 0, none⟩) n c2] := hG.bx _ (.tail _ (.tail _ (.tail _ (.head _))))
              obtain ⟨d0_0, d0_1, d0_2, d0_f0, d0_f1, d0_f2⟩ := Mbx.cells D0
              obtain ⟨d1_0, d1_1, d1_2, d1_f0, d1_f1, d1_f2⟩ := Mbx.cells D1
              obtain ⟨dO_0, dO_1, dO_2, dO_f0, dO_f1, dO_f2⟩ := Mbx.cells DO
              obtain ⟨dz_0, dz_1, dz_2, dz_f0, dz_f1, dz_f2⟩ := Mbx.cells DZ
              by_cases hkt : k < m
              · have hkm : k < m := by omega
                have kc0 : (0 : Int) ≤ k := by omega
                have kc1 : (k : Int) ≤ to := by omega
                have Hn := Lib.hid (trS_next (unit := true) (lt := lt) (l := l) (m := m) (q := q) (i := i) (j := j) hk1)
                go_wp2_with fail
                with_reducible refine (rAt_any (HT.out.on hG.bw) HNT.out hm hm hlt hkm).mono ?_
                rintro e w1 ⟨rfl, hb⟩
                clear d0_0 d0_1 d0_2 d0_f0 d0_f1 d0_f2
                clear d1_0 d1_1 d1_2 d1_f0 d1_f1 d1_f2
                clear dO_0 dO_1 dO_2 dO_f0 dO_f1 dO_f2
                clear dz_0 dz_1 dz_2 dz_f0 dz_f1 dz_f2
                clear DO DZ D0 D1
                replace hG := hG.on hb
                obtain ⟨lz, uz⟩ := HT.out.2.2.at_ (i * m + k)
                have bZ : (D lt (i * m + k)).toNat ≤ 18446744073709551615 := by omega
                have HZ : Hid (af (D lt (i * m + k)).toNat = ma lt m i k) := Lib.hid rfl
                generalize (D lt (i * m + k)).toNat = Z9 at *
                clear lz uz hb
                obtain ⟨lz, uz⟩ := HH.out.2.2.at_ (k * q + j)
                have bY : (D l (k * q + j)).toNat ≤ 18446744073709551615 := by omega
                have HY : Hid (af (D l (k * q + j)).toNat = ma l q k j) := Lib.hid rfl
                have pa := fun W (hF : FL W A n c l) => rAt_any hF HN.out hm hq hkm hjq
                generalize (D l (k * q + j)).toNat = Y9 at *
                clear lz uz
                by_cases hki : k = i
                · have HE : Hid (af 4607182418800017408 = trT true lt m i k) := Lib.hid (by rw [af_one]; unfold trT; rw [hki]; simp)
                  have kei : ((k : Int) == (i : Int)) = true := by simp [hki]
                  have HKI := Lib.hid hki
                  clear hki
                  have D0 : Blk w1 (w.heap.size) [.int .i64 m, .int .i64 m, .slice At nt ct] := hG.bx _ (.head _)
                  have D1 : Blk w1 (w.heap.size + 1) [.int .i64 m, .int .i64 q, .slice A n c] := hG.bx _ (.tail _ (.head _))
                  have DZ : Blk w1 (w.heap.size + 2) [.int .i64 0, .int .i64 0, .slice none 0 0] := hG.bx _ (.tail _ (.tail _ (.head _)))
                  have DO : Blk w1 HO [.int .i64 m, .int .i64 q, .slice (some ⟨g5, 0, none⟩) n c2] := hG.bx _ (.tail _ (.tail _ (.tail _ (.head _))))
                  obtain ⟨d0_0, d0_1, d0_2, d0_f0, d0_f1, d0_f2⟩ := Mbx.cells D0
                  obtain ⟨d1_0, d1_1, d1_2, d1_f0, d1_f1, d1_f2⟩ := Mbx.cells D1
                  obtain ⟨dO_0, dO_1, dO_2, dO_f0, dO_f1, dO_f2⟩ := Mbx.cells DO
                  obtain ⟨dz_0, dz_1, dz_2, dz_f0, dz_f1, dz_f2⟩ := Mbx.cells DZ
                  go_wp2_with fail
                  with_reducible refine (pa _ (HH.out.on hG.bw)).mono ?_
                  rintro e w2 ⟨rfl, hb⟩
                  clear d0_0 d0_1 d0_2 d0_f0 d0_f1 d0_f2
                  clear d1_0 d1_1 d1_2 d1_f0 d1_f1 d1_f2
                  clear dO_0 dO_1 dO_2 dO_f0 dO_f1 dO_f2
                  clear dz_0 dz_1 dz_2 dz_f0 dz_f1 dz_f2
                  clear DO DZ D0 D1
                  replace hG := hG.on hb
                  clear hb
                  obtain ⟨r1, w3, e1, d1, h1, b1⟩ := run_mul (P := Try.prog) 32 (x := 4607182418800017408) (y := Y9) (by omega) bY w2
                  obtain ⟨r2, w4, e2, d2, h2, b2⟩ := run_add (P := Try.prog) 32 (x := r) (y := r1) br b1 w3
                  have HK9 : Hid (af r2 = trS true lt l m q i j i (k + 1)) := Lib.hid (by rw [Hn.out, h2, HN5.out, h1, HY.out, HE.out])
                  clear h1 h2
                  replace hG := hG.on (d1.trans d2).below
                  clear d1 d2
                  go_wp2_with fail
                  go_roundw
                  case rel => exact ⟨k + 1, r2, by omega, by omega, by go_num, rfl, HK9, b2, hG⟩
                  case measure => simp [intOf]; omega
                · have HE : Hid (af Z9 = trT true lt m i k) := Lib.hid (by rw [HZ.out]; unfold trT; rw [if_neg (by simp [hki])])
                  have kei : ((k : Int) == (i : Int)) = false := by simp; omega
                  have D0 : Blk w1 (w.heap.size) [.int .i64 m, .int .i64 m, .slice At nt ct] := hG.bx _ (.head _)
                  have D1 : Blk w1 (w.heap.size + 1) [.int .i64 m, .int .i64 q, .slice A n c] := hG.bx _ (.tail _ (.head _))
                  have DZ : Blk w1 (w.heap.size + 2) [.int .i64 0, .int .i64 0, .slice none 0 0] := hG.bx _ (.tail _ (.tail _ (.head _)))
                  have DO : Blk w1 HO [.int .i64 m, .int .i64 q, .slice (some ⟨g5, 0, none⟩) n c2] := hG.bx _ (.tail _ (.tail _ (.tail _ (.head _))))
                  obtain ⟨d0_0, d0_1, d0_2, d0_f0, d0_f1, d0_f2⟩ := Mbx.cells D0
                  obtain ⟨d1_0, d1_1, d1_2, d1_f0, d1_f1, d1_f2⟩ := Mbx.cells D1
                  obtain ⟨dO_0, dO_1, dO_2, dO_f0, dO_f1, dO_f2⟩ := Mbx.cells DO
                  obtain ⟨dz_0, dz_1, dz_2, dz_f0, dz_f1, dz_f2⟩ := Mbx.cells DZ
                  go_wp2_with fail
                  with_reducible refine (pa _ (HH.out.on hG.bw)).mono ?_
                  rintro e w2 ⟨rfl, hb⟩
                  clear d0_0 d0_1 d0_2 d0_f0 d0_f1 d0_f2
                  clear d1_0 d1_1 d1_2 d1_f0 d1_f1 d1_f2
                  clear dO_0 dO_1 dO_2 dO_f0 dO_f1 dO_f2
                  clear dz_0 dz_1 dz_2 dz_f0 dz_f1 dz_f2
                  clear DO DZ D0 D1
                  replace hG := hG.on hb
                  clear hb
                  obtain ⟨r1, w3, e1, d1, h1, b1⟩ := run_mul (P := Try.prog) 32 (x := Z9) (y := Y9) bZ bY w2
                  obtain ⟨r2, w4, e2, d2, h2, b2⟩ := run_add (P := Try.prog) 32 (x := r) (y := r1) br b1 w3
                  have HK9 : Hid (af r2 = trS true lt l m q i j i (k + 1)) := Lib.hid (by rw [Hn.out, h2, HN5.out, h1, HY.out, HE.out])
                  clear h1 h2
                  replace hG := hG.on (d1.trans d2).below
                  clear d1 d2
                  go_wp2_with fail
                  go_roundw
                  case rel => exact ⟨k + 1, r2, by omega, by omega, by go_num, rfl, HK9, b2, hG⟩
                  case measure => simp [intOf]; omega
              · have hke : k = m := by omega
                rw [hke] at HN5
                have HR : Hid (af r = f i j) := Lib.hid (by rw [HN5.out]; exact HF.out i j)
                have kc1 : ¬ (k : Int) ≤ to := by omega
                clear hke
                obtain ⟨hc5, hf5⟩ := hG.cell hKl
                replace hG := hG.set (Q := fun a b => decide (a < i ∨ (a = i ∧ b < (j + 1)))) HK.out hlt hjq (r := r) HR.out br (fun a b h1 h2 => by simp only [← Bool.decide_or, decide_eq_decide]; omega)
                go_wp2_with fail
                go_roundw
                case rel => exact ⟨j + 1, _, by omega, by go_num, hG⟩
                case measure => simp [intOf]; omega
          · have hG9 := hG.congr (Q := fun a b => decide (a < (i + 1) ∨ (a = (i + 1) ∧ b < 0))) (fun a b h1 h2 => by simp only [decide_eq_decide]; omega)
            go_wp2_with fail
            go_roundw
            case rel => exact ⟨i + 1, L, by omega, by go_num, hG9⟩
            case measure => simp [intOf]; omega
    · obtain rfl : i = m := by omega
      go_wp2_with fail
      refine bodyPost_ret (v := mV i q A2 n c2) (by simp [results, Try.results48, go_sem, *]) rfl ?_
      exact ⟨A2, c2, L, rfl, by rw [HN.out]; exact (hG.mr.congr (fun a b h1 h2 => by simp <;> omega)).is, by first | exact hG.own.less (by omega) | exact (hG.own.grown_ (set3_grown _ _ _ _ _) (fun a e e2 => by injection e2 with e3; exact hG.ne _ (.tail _ (.tail _ (.head _))) a e e3.symm)).less (by omega), by first | exact hG.bw | exact hG.bw.grown (set3_grown _ _ _ _ _) hG.bw.size (fun k e => by cases e; omega)⟩
theorem rTrmm_any {up unit : Bool} {nt ct : Nat} {At : Option Addr} {lt : List Int} (h : FL w A n c l) (hn : n = m * q) (hm : m ≤ 512) (hq : q ≤ 512) (ht : FL w At nt ct lt) (hnt : nt = m * m) :
    Calls Try.prog 48 #[.bool up, .bool unit, mV m m At nt ct, mV m q A n c] w (NewMt w m q n (tg (fun a b => true) (fun i j => trA up unit lt l m q i j) l q)) := by
  cases unit
  · exact rTrmm_false h hn hm hq ht hnt
  · exact rTrmm_true h hn hm hq ht hnt
end
end Go.Proofs.Ytfelmkkkaphkpaa
namespace Go.Proofs.Ytfelmkkkaphkpaa
open Go.RowKit Go.Bw Go.Sort Go.Shelf
set_option linter.unusedVariables false
set_option linter.unusedSimpArgs false

/-- the row j, the column j of a view of n by n -/
abbrev rowW (V : Vu) (j n : Nat) : Vu := V.part j 0 1 n
abbrev colW (V : Vu) (j n : Nat) : Vu := V.part 0 j n 1
section
variable {w : World} {B s g cap c n j : Nat} {V : Vu} {l L : List Int}
theorem row_is (h : Ov w B V s g cap c l n n L) (hj : j < n) : V.partO j 0 1 V.C = rowW V j n := by
  unfold Vu.partO rowW
  have hz : (V.p == none) = false := by rw [h.p]; rfl
  have h1 : (withinB (j : Int) 1 V.R && withinB 0 V.C V.C) = true := by
    rw [h.R, h.C]
    unfold withinB
    simp
    omega
  rw [hz, if_neg (by simp), if_pos h1, h.C]
theorem col_is (h : Ov w B V s g cap c l n n L) (hj : j < n) : V.partO 0 j V.R 1 = colW V j n := by
  unfold Vu.partO colW
  have hz : (V.p == none) = false := by rw [h.p]; rfl
  have h1 : (withinB 0 V.R V.R && withinB (j : Int) 1 V.C) = true := by
    rw [h.R, h.C]
    unfold withinB
    simp
    omega
  rw [hz, if_neg (by simp), if_pos h1, h.R]
theorem row_vk (h : Ov w B V s g cap c l n n L) (hj : j < n) : Vk (rowW V j n) s c l.length 2 := by
  have := part_vk h.vk (by omega) j 0 1 V.C
  rw [row_is h hj] at this
  exact this
theorem col_vk (h : Ov w B V s g cap c l n n L) (hj : j < n) : Vk (colW V j n) s c l.length 2 := by
  have := part_vk h.vk (by omega) 0 j V.R 1
  rw [col_is h hj] at this
  exact this
theorem row_at (h : Ov w B V s g cap c l n n L) (hj : j < n) {k : Nat} (hk : k < n) : (rowW V j n).at_ c l 0 k = V.at_ c l j k := by
  unfold Vu.at_
  rw [P_ix]
  have h1 : (rowW V j n).has 0 k = true := (has_iff _ _ _).2 (by show (0 : Int) ≤ 0 ∧ (0 : Int) < 1 ∧ (0 : Int) ≤ k ∧ (k : Int) < n; omega)
  have h2 : V.has j k = true := (has_iff _ _ _).2 (by rw [h.R, h.C]; omega)
  rw [h1, h2, Int.add_zero, Int.zero_add]
theorem col_at (h : Ov w B V s g cap c l n n L) (hj : j < n) {k : Nat} (hk : k < n) : (colW V j n).at_ c l k 0 = V.at_ c l k j := by
  unfold Vu.at_
  rw [P_ix]
  have h1 : (colW V j n).has k 0 = true := (has_iff _ _ _).2 (by show (0 : Int) ≤ k ∧ (k : Int) < n ∧ (0 : Int) ≤ 0 ∧ (0 : Int) < 1; omega)
  have h2 : V.has k j = true := (has_iff _ _ _).2 (by rw [h.R, h.C]; omega)
  rw [h1, h2, Int.add_zero, Int.zero_add]
theorem ov_at (h : Ov w B V s g cap c l n n L) {i k : Nat} (hi : i < n) (hk : k < n) : V.at_ c l i k = D L (i * n + k) := by
  rw [← fl_at h.R h.C hi hk, h.fl]
/-- the floats of a row, of a column -/
theorem row_sv (h : Ov w B V s g cap c l n n L) (hj : j < n) : ∃ F, Sv w (rowW V j n) F ∧ F.length = n ∧ ∀ k, k < n → D F k = D L (j * n + k) := by
  refine ⟨(rowW V j n).fl c l, Sv.of (row_vk h hj) (fun _ => ⟨h.st, rfl⟩), ?_, fun k hk => ?_⟩
  · rw [fl_length]
    show ((1 : Int) * (n : Int)).toNat = n
    omega
  · have := fl_at (v := rowW V j n) (c := c) (l := l) (m := 1) (q := n) rfl rfl (i := 0) (j := k) (by omega) hk
    rw [Nat.zero_mul, Nat.zero_add] at this
    rw [this]
    exact (row_at h hj hk).trans (ov_at h hj hk)
theorem col_sv (h : Ov w B V s g cap c l n n L) (hj : j < n) : ∃ F, Sv w (colW V j n) F ∧ F.length = n ∧ ∀ k, k < n → D F k = D L (k * n + j) := by
  refine ⟨(colW V j n).fl c l, Sv.of (col_vk h hj) (fun _ => ⟨h.st, rfl⟩), ?_, fun k hk => ?_⟩
  · rw [fl_length]
    show ((n : Int) * (1 : Int)).toNat = n
    omega
  · have := fl_at (v := colW V j n) (c := c) (l := l) (m := n) (q := 1) rfl rfl (i := k) (j := 0) hk (by omega)
    rw [Nat.mul_one, Nat.add_zero] at this
    rw [this]
    exact (col_at h hj hk).trans (ov_at h hk hj)
theorem row_vec (V : Vu) (j n : Nat) : (rowW V j n).vec = true := by
  have e : (rowW V j n).R = 1 := rfl
  unfold Vu.vec
  rw [e]
  simp
theorem col_vec (V : Vu) (j n : Nat) : (colW V j n).vec = true := by
  have e : (colW V j n).C = 1 := rfl
  unfold Vu.vec
  rw [e]
  simp
theorem row_len (V : Vu) (j n : Nat) : (rowW V j n).len = n := by unfold Vu.len; rw [row_vec, if_pos rfl]; show (1 : Int) * n = n; omega
theorem col_len (V : Vu) (j n : Nat) : (colW V j n).len = n := by unfold Vu.len; rw [col_vec, if_pos rfl]; show (n : Int) * 1 = n; omega
theorem row_ne (h : Ov w B V s g cap c l n n L) : (rowW V j n).p ≠ none := h.ne
theorem col_ne (h : Ov w B V s g cap c l n n L) : (colW V j n).p ≠ none := h.ne
theorem col_inj (h : Ov w B V s g cap c l n n L) (hj : j < n) : Inj (colW V j n) c := by
  intro a b a' b' h1 h2 e
  have k1 := (has_iff _ _ _).1 h1
  have k2 := (has_iff _ _ _).1 h2
  have m1 : 0 ≤ a ∧ a < n ∧ 0 ≤ b ∧ b < 1 := k1
  have m2 : 0 ≤ a' ∧ a' < n ∧ 0 ≤ b' ∧ b' < 1 := k2
  rw [P_ix, P_ix] at e
  have := h.inj _ _ _ _ ((has_iff _ _ _).2 (by rw [h.R, h.C]; omega)) ((has_iff _ _ _).2 (by rw [h.R, h.C]; omega)) e
  omega
/-- a column that is written is a part of the whole that is -/
theorem wr_col {lx : List Int} {F : Nat → Option Nat} (h : Ov w B V s g cap c l n n L) (hj : j < n) (hW : Wr (colW V j n) c l lx (fun _ _ => true) (fun i k => F (vix (colW V j n) i k))) :
    Wr V c l lx (fun _ k => decide (k = j)) (fun i _ => F i) := by
  have hl : lx.length = l.length := hW.len
  have ov2 : ∀ {i : Nat}, i < n → (colW V j n).at_ c lx i 0 = V.at_ c lx i j := fun {i} hi => by
    unfold Vu.at_
    rw [P_ix]
    have h1 : (colW V j n).has i 0 = true := (has_iff _ _ _).2 (by show (0 : Int) ≤ i ∧ (i : Int) < n ∧ (0 : Int) ≤ 0 ∧ (0 : Int) < 1; omega)
    have h2 : V.has i j = true := (has_iff _ _ _).2 (by rw [h.R, h.C]; omega)
    rw [h1, h2, Int.add_zero, Int.zero_add]
  have hin : ∀ {i : Nat}, i < n → (colW V j n).has (i : Int) ((0 : Nat) : Int) = true := fun {i} hi => (has_iff _ _ _).2 (by show (0 : Int) ≤ i ∧ (i : Int) < n ∧ (0 : Int) ≤ 0 ∧ (0 : Int) < 1; omega)
  refine ⟨hl, fun i k hh hk => ?_, fun i k hh hk => ?_, fun p hp => ?_⟩
  · have hb := (has_iff _ _ _).1 hh
    rw [h.R, h.C] at hb
    have hkj := of_decide_eq_true hk
    subst hkj
    have hi : i < n := by omega
    have h1 := hW.new i 0 (hin hi) rfl
    have h2 : vix (colW V k n) i 0 = i := by
      have e : (colW V k n).C = 1 := rfl
      unfold vix
      rw [if_pos e]
    rw [h2] at h1
    rw [← ov2 hi]
    exact h1
  · have hb := (has_iff _ _ _).1 hh
    rw [h.R, h.C] at hb
    have hkj := of_decide_eq_false hk
    obtain ⟨p, e1, e2, _⟩ := h.vk.ins _ _ hh
    have h3 : D lx p = D l p := hW.out p (fun a b hab e => by
      have hb2 : (0 : Int) ≤ a ∧ (a : Int) < n ∧ (0 : Int) ≤ b ∧ (b : Int) < 1 := (has_iff _ _ _).1 hab
      rw [P_ix, ← e1] at e
      have := h.inj _ _ _ _ ((has_iff _ _ _).2 (by rw [h.R, h.C]; omega)) hh e
      omega)
    unfold Vu.at_
    rw [hh, if_pos rfl, if_pos rfl, e1, Int.toNat_natCast, h3]
  · refine hW.out p (fun a b hab e => ?_)
    have hb2 : (0 : Int) ≤ a ∧ (a : Int) < n ∧ (0 : Int) ≤ b ∧ (b : Int) < 1 := (has_iff _ _ _).1 hab
    rw [P_ix] at e
    have hb0 : b = 0 := by omega
    subst hb0
    refine hp a j ((has_iff _ _ _).2 (by rw [h.R, h.C]; omega)) ?_
    rw [← e]
    simp
/-- a row and a column turned share a place -/
theorem row_col_share (h : Ov w B V s g cap c l n n L) (hj : j < n) : shB (rowW V j n) (colW V j n).T = true := by
  unfold shB
  have hp : ((rowW V j n).p == (colW V j n).T.p) = true := by show (V.p == V.p) = true; simp
  rw [hp, Bool.true_and]
  refine decide_eq_true ⟨j, ?_, j, ?_, ?_⟩
  · show j < ((1 : Int) * (n : Int)).toNat
    omega
  · show j < ((1 : Int) * (n : Int)).toNat
    omega
  · have e1 : ((n : Int)).toNat = n := Int.toNat_natCast n
    have h1 : (rowW V j n).ei j = 0 ∧ (rowW V j n).ej j = j := by
      unfold Vu.ei Vu.ej
      show (((j / ((n : Int)).toNat : Nat) : Int) = 0 ∧ ((j % ((n : Int)).toNat : Nat) : Int) = j)
      rw [e1, Nat.div_eq_of_lt hj, Nat.mod_eq_of_lt hj]
      exact ⟨rfl, rfl⟩
    have h2 : (colW V j n).T.ei j = 0 ∧ (colW V j n).T.ej j = j := by
      unfold Vu.ei Vu.ej
      show (((j / ((n : Int)).toNat : Nat) : Int) = 0 ∧ ((j % ((n : Int)).toNat : Nat) : Int) = j)
      rw [e1, Nat.div_eq_of_lt hj, Nat.mod_eq_of_lt hj]
      exact ⟨rfl, rfl⟩
    unfold Vu.pl
    rw [h1.1, h1.2, h2.1, h2.2]
    unfold rowW colW Vu.T Vu.part Vu.p0 Vu.p1
    simp
    constructor <;> omega
end
end Go.Proofs.Ytfelmkkkaphkpaa
namespace Go.Proofs.Ytfelmkkkaphkpaa
open Go.RowKit Go.Bw Go.Sort Go.Shelf
set_option linter.unusedVariables false
set_option linter.unusedSimpArgs false

theorem Pol.ne_ {z : Nat} {W : World} {bs : List Bool} {lo hi : Nat → Nat} (h : Pol z W bs lo hi) {j k x y : Nat} (hjk : j ≠ k) (hj : bs[j]? = some true) (hk : bs[k]? = some true) (hx : lo j ≤ x ∧ x < hi j) (hy : lo k ≤ y ∧ y < hi k) : Hid (x ≠ y) :=
  Lib.hid (by have := h.ap j k hjk hj hk; omega)
theorem run_field_2 (R C : Int) (A : Option Addr) (n cap : Nat) (w : World) : (Instr.field 24 (mV R C A n cap) 2).run Try.prog w = .ok (.slice A n cap) w := by kernel_rfl
section
variable {w : World} {B s g cap c n j a b : Nat} {V : Vu} {l L : List Int}
theorem turn_is (h : Ov w B V s g cap c l n n L) : V.turnO = V.T := by
  unfold Vu.turnO
  rw [show (V.p == none) = false by rw [h.p]; rfl]
  rfl
theorem ix_dm {k : Nat} (hk : k < n * n) : k / n < n ∧ k % n < n := by
  have h0 : 0 < n := by rcases Nat.eq_zero_or_pos n with h | h; rw [h] at hk; omega; exact h
  exact ⟨Nat.div_lt_of_lt_mul hk, Nat.mod_lt k h0⟩
/-- the products of the rows -/
def ahP (L : List Int) (n a b i k : Nat) : Option Nat := bothA (af b) (ma L n i k) (af a) (sumA (fun t => aop .mul (ma L n i t) (ma L n k t)) n)
theorem ahead_gemm (ba : a ≤ 18446744073709551615) (bb : b ≤ 18446744073709551615) (h : Ov w B V s g cap c l n n L) (hl : L.length = n * n) :
    Calls Try.prog 43 #[.float .f64 a, V.V, V.turnO.V, .float .f64 b, V.V] w (OvK w B V s g cap c n n (n * n) (tg (fun _ _ => true) (ahP L n a b) L n)) := by
  obtain ⟨XT, hXT, hD⟩ := h.sv.turn h.ne h.R h.C
  have et := turn_is h
  have htn : V.turnO.p ≠ none := by rw [et]; exact h.ne
  have hfit : (V.C == V.turnO.R && szd V V.R V.turnO.C) = true := by
    rw [et]
    show (V.C == V.C && szd V V.R V.R) = true
    unfold szd
    rw [h.R, h.C]
    simp
  refine (Gemm_yes (m := n) (q := n) (p := n) ba bb h.sv hXT h.sv (refE_ok hfit (mem3 h.ne htn h.ne)) h.vk h.st rfl h.inj h.R h.C h.C).mono ?_
  intro e w1 hw
  refine ovk h hw rfl hl (fun k hk => ?_)
  obtain ⟨h1, h2⟩ := ix_dm hk
  unfold tg
  rw [if_pos rfl, if_pos rfl]
  unfold ahP
  dsimp only
  have e : sumA (fun t => aop .mul (ma L n (k / n) t) (ma XT n t (k % n))) n = sumA (fun t => aop .mul (ma L n (k / n) t) (ma L n (k % n) t)) n := sumA_congr fun t ht => by rw [hD t _ ht h2]
  rw [e]
/-- a row times a column -/
def ahG (L : List Int) (n j a i k : Nat) : Option Nat := aop .add (ma L n i k) (aop .mul (aop .mul (af a) (fa (D L (j * n + i)))) (fa (D L (k * n + j))))
theorem ahead_ger (ba : a ≤ 18446744073709551615) (h : Ov w B V s g cap c l n n L) (hl : L.length = n * n) (hj : j < n) :
    Calls Try.prog 39 #[.float .f64 a, (rowW V j n).V, (colW V j n).V, V.V] w (OvK w B V s g cap c n n (n * n) (tg (fun _ _ => true) (ahG L n j a) L n)) := by
  obtain ⟨X, hX, hXl, hXD⟩ := row_sv h hj
  obtain ⟨Y, hY, hYl, hYD⟩ := col_sv h hj
  have hfit : ((rowW V j n).vec && (colW V j n).vec && szd V (rowW V j n).len (colW V j n).len) = true := by
    rw [row_vec, col_vec, row_len, col_len]
    unfold szd
    rw [h.R, h.C]
    simp
  refine (Ger_yes (m := n) (q := n) ba hX hY h.sv (refE_ok hfit (mem3 (row_ne h) (col_ne h) h.ne)) h.vk h.st rfl h.inj h.R h.C).mono ?_
  intro e w1 hw
  refine ovk h hw rfl hl (fun k hk => ?_)
  obtain ⟨h1, h2⟩ := ix_dm hk
  unfold tg
  rw [if_pos rfl, if_pos rfl]
  unfold ahG
  dsimp only
  rw [hXD _ h1, hYD _ h2]
theorem ahead_trmm {up : Bool} (h : Ov w B V s g cap c l n n L) (hl : L.length = n * n) :
    Calls Try.prog 47 #[.bool up, .bool false, V.V, V.V] w (OvK w B V s g cap c n n (n * n) (tg (fun _ _ => true) (trA up false L L n n) L n)) := by
  have hfit : szd V V.R V.R = true := by
    unfold szd
    rw [h.R, h.C]
    simp
  refine (Trmm_yes (m := n) (q := n) h.sv h.sv (refE_ok hfit (mem2 h.ne h.ne)) h.vk h.st rfl h.inj h.R h.C).mono ?_
  intro e w1 hw
  exact ovk h hw rfl hl (fun k hk => rfl)
/-- a column, to which the matrix times a row is added -/
def ahV (L : List Int) (n j a b i : Nat) : Option Nat := bothA (af b) (fa (D L (i * n + j))) (af a) (sumA (fun t => aop .mul (ma L n i t) (fa (D L (j * n + t)))) n)
theorem ahead_gemv (ba : a ≤ 18446744073709551615) (bb : b ≤ 18446744073709551615) (h : Ov w B V s g cap c l n n L) (hl : L.length = n * n) (hj : j < n) :
    Calls Try.prog 34 #[.float .f64 a, V.V, (rowW V j n).V, .float .f64 b, (colW V j n).V] w (OvK w B V s g cap c n n (n * n) (tg (fun _ k => decide (k = j)) (fun i _ => ahV L n j a b i) L n)) := by
  obtain ⟨X, hX, hXl, hXD⟩ := row_sv h hj
  obtain ⟨Y, hY, hYl, hYD⟩ := col_sv h hj
  have hfit : ((rowW V j n).vec && (colW V j n).vec && szd V (colW V j n).len (rowW V j n).len) = true := by
    rw [row_vec, col_vec, row_len, col_len]
    unfold szd
    rw [h.R, h.C]
    simp
  refine (Gemv_yes (m := n) (q := n) ba bb h.sv hX hY (refE_ok hfit (mem3 h.ne (row_ne h) (col_ne h))) (col_vk h hj) h.st rfl (col_inj h hj) h.R h.C).mono ?_
  rintro e w1 ⟨lx, rfl, hs, hg, hW⟩
  have hW2 := wr_col (F := fun i => bothA (af b) (fa (D Y i)) (af a) (sumA (fun t => aop .mul (ma L n i t) (fa (D X t))) n)) h hj hW
  refine ovk h ⟨lx, rfl, hs, hg, hW2⟩ rfl hl (fun k hk => ?_)
  obtain ⟨h1, h2⟩ := ix_dm hk
  unfold tg ahV
  dsimp only
  rw [hYD _ h1]
  have e : sumA (fun t => aop .mul (ma L n (k / n) t) (fa (D X t))) n = sumA (fun t => aop .mul (ma L n (k / n) t) (fa (D L (j * n + t)))) n := sumA_congr fun t ht => by rw [hXD _ ht]
  rw [e]
theorem ahead_swap (h : Ov w B V s g cap c l n n L) (hj : j < n) : Calls Try.prog 33 #[(rowW V j n).V, (colW V j n).turnO.V] w (Ans w (.int .i64 8)) := by
  obtain ⟨X, hX, hXl, hXD⟩ := row_sv h hj
  obtain ⟨Y, hY, hYl, hYD⟩ := col_sv h hj
  obtain ⟨YT, hYT, _⟩ := hY.turn (col_ne h) (p := n) (q := 1) rfl rfl
  have et : (colW V j n).turnO = (colW V j n).T := by
    unfold Vu.turnO
    rw [show ((colW V j n).p == none) = false by show (V.p == none) = false; rw [h.p]; rfl]
    rfl
  have htn : (colW V j n).turnO.p ≠ none := by rw [et]; exact h.ne
  exact Swap_no hX hYT (refE_8 (by rw [et, row_col_share h hj]; simp) (mem2 (row_ne h) htn)) (by omega)
theorem ahP_same {XT : List Int} (hd : ∀ j t, j < n → t < n → ma XT n j t = ma L n t j) {k : Nat} (hk : k < n * n) :
    tg (fun _ _ => true) (fun i j => bothA (af b) (ma L n i j) (af a) (sumA (fun t => aop .mul (ma L n i t) (ma XT n t j)) n)) L n k = tg (fun _ _ => true) (ahP L n a b) L n k := by
  obtain ⟨h1, h2⟩ := ix_dm hk
  unfold tg
  rw [if_pos rfl, if_pos rfl]
  unfold ahP
  dsimp only
  have e : sumA (fun t => aop .mul (ma L n (k / n) t) (ma XT n t (k % n))) n = sumA (fun t => aop .mul (ma L n (k / n) t) (ma L n (k % n) t)) n := sumA_congr fun t ht => by rw [hd t _ ht h2]
  rw [e]
theorem ahG_same {X Y : List Int} (hX : ∀ k, k < n → D X k = D L (j * n + k)) (hY : ∀ k, k < n → D Y k = D L (k * n + j)) {k : Nat} (hk : k < n * n) :
    tg (fun _ _ => true) (fun i j => aop .add (ma L n i j) (aop .mul (aop .mul (af a) (fa (D X i))) (fa (D Y j)))) L n k = tg (fun _ _ => true) (ahG L n j a) L n k := by
  obtain ⟨h1, h2⟩ := ix_dm hk
  unfold tg
  rw [if_pos rfl, if_pos rfl]
  unfold ahG
  dsimp only
  rw [hX _ h1, hY _ h2]
theorem ahV_same {X Y L9 LK : List Int} (hX : ∀ k, k < n → D X k = D L (j * n + k)) (hY : ∀ k, k < n → D Y k = D L (k * n + j)) (h9 : Is L9 n (fun k => bothA (af b) (fa (D Y k)) (af a) (sumA (fun t => aop .mul (ma L n k t) (fa (D X t))) n)))
    (hK : Is LK (n * n) (tg (fun x k => decide (k = j ∧ x < n)) (fun x _ => fa (D L9 x)) L n)) : Is LK (n * n) (tg (fun _ k => decide (k = j)) (fun i _ => ahV L n j a b i) L n) := by
  refine hK.congr (fun k hk => ?_)
  obtain ⟨h1, h2⟩ := ix_dm hk
  unfold tg
  dsimp only
  by_cases hkj : k % n = j
  · rw [if_pos (by simp [hkj, h1]), if_pos (by simp [hkj]), h9.at_ _ h1]
    unfold ahV
    rw [hY _ h1]
    have e : sumA (fun t => aop .mul (ma L n (k / n) t) (fa (D X t))) n = sumA (fun t => aop .mul (ma L n (k / n) t) (fa (D L (j * n + t)))) n := sumA_congr fun t ht => by rw [hX _ ht]
    rw [e]
  · rw [if_neg (by simp [hkj]), if_neg (by simp [hkj])]
theorem ownF_nat {W : World} {BO g cap : Nat} {l : List Int} (h : OwnF W BO (some ⟨g, 0, none⟩) cap l) (k v : Nat) : OwnF (W.setCell ⟨g, k, none⟩ (.float .f64 v)) BO (some ⟨g, 0, none⟩) cap (l.set k (v : Int)) := by
  have := h.set_ k (v : Int)
  rwa [fV_nat] at this
theorem tg_col {LK L9 : List Int} {r : Nat} {V9 : Nat} (hj : j < n) (hr : r < n) (b9 : V9 ≤ 18446744073709551615) (e9 : D L9 r = (V9 : Int)) (h : Mr LK L n n (fun x k => decide (k = j ∧ x < r)) (fun x _ => fa (D L9 x))) :
    Mr (LK.set (r * n + j) (V9 : Int)) L n n (fun x k => decide (k = j ∧ x < r + 1)) (fun x _ => fa (D L9 x)) :=
  h.set hr hj (by omega) (by omega) (by rw [e9]) (fun x k hx hk => by rw [← Bool.decide_or, decide_eq_decide]; omega)
end
end Go.Proofs.Ytfelmkkkaphkpaa
