/-
  Layer 9, walks: several reflections at once, by the reference. (Written by wip/tools/gen_rfy.py.)
-/
import Derived.Test.YtcdbjlmegkcaiaaRfX
namespace Go.Proofs.Ytcdbjlmegkcaiaa
open Go.RowKit Go.Bw
set_option linter.unusedVariables false
set_option linter.unusedSimpArgs false
attribute [local go_sem] run_store_float

/-- where the blocks lie -/
structure BL (B KK n : Nat) (A TA LA A2 : Option Addr) (hs : List Re) : Prop where
  hA : ∀ a, A = some a → a.block < B
  hT : ∀ a, TA = some a → a.block < B
  hL : ∀ a, LA = some a → a.block < B
  hE : ∀ e ∈ hs, ∀ a, e.A = some a → a.block < B
  h2 : ∀ b, A2 = some b → B + 1 + 1 + 1 ≤ b.block ∧ b.block < KK
  hK : B + 1 + 1 + 1 ≤ KK
/-- what lies in memory all along -/
structure BS (w W : World) (A TA LA A2 : Option Addr) (n c tn tc9 k kc M Q KK c2 : Nat) (l tl : List Int) (hs : List Re) (L : List Int) : Prop where
  h : FL W A n c l
  ht : FL W TA tn tc9 tl
  hL : Rl W LA k kc hs
  DM : Mbx W w.heap.size M Q A n c
  DT : Mbx W (w.heap.size + 1) k k TA tn tc9
  DZ : Mbx W (w.heap.size + 1 + 1) 0 0 none 0 0
  DO : Mbx W KK M Q A2 n c2
  hO : OwnF W w.heap.size A2 c2 L
  bz : Below w.heap.size w W
section
variable {w W W' : World} {A TA LA A2 : Option Addr} {n c tn tc9 k kc M Q KK c2 g : Nat} {l tl L : List Int} {hs : List Re}
theorem BS.on (s : BS w W A TA LA A2 n c tn tc9 k kc M Q KK c2 l tl hs L) (hb : Below W.heap.size W W') : BS w W' A TA LA A2 n c tn tc9 k kc M Q KK c2 l tl hs L :=
  ⟨s.h.on hb, s.ht.on hb, s.hL.on hb, Blk.on s.DM hb, Blk.on s.DT hb, Blk.on s.DZ hb, Blk.on s.DO hb, s.hO.on_ hb, s.bz.trans (hb.mono s.bz.size)⟩
theorem BS.dr (s : BS w W A TA LA A2 n c tn tc9 k kc M Q KK c2 l tl hs L) (hd : Dr W W') : BS w W' A TA LA A2 n c tn tc9 k kc M Q KK c2 l tl hs L := s.on (hd.below _)
theorem BS.far (s : BS w W A TA LA A2 n c tn tc9 k kc M Q KK c2 l tl hs L) (b : BL w.heap.size KK n A TA LA A2 hs) (hg : W.grownBy W' (some g)) (hk : KK < g) : BS w W' A TA LA A2 n c tn tc9 k kc M Q KK c2 l tl hs L := by
  have hK := b.hK
  refine ⟨s.h.farB hg (fun a e => by have := b.hA a e; omega), s.ht.farB hg (fun a e => by have := b.hT a e; omega), s.hL.farB hg (fun a e => by have := b.hL a e; omega) (fun e he a ea => by have := b.hE e he a ea; omega),
    Blk.grown s.DM hg (by simp; omega), Blk.grown s.DT hg (by simp; omega), Blk.grown s.DZ hg (by simp; omega), Blk.grown s.DO hg (by simp; omega), s.hO.grown_ hg (fun a e => by have := b.h2 a e; simp; omega), below_grown s.bz hg (by omega) s.bz.size⟩
theorem BS.put {z r : Nat} (s : BS w W A TA LA (some ⟨g, 0, none⟩) n c tn tc9 k kc M Q KK c2 l tl hs L) (b : BL w.heap.size KK n A TA LA (some ⟨g, 0, none⟩) hs) : BS w (W.setCell ⟨g, z, none⟩ (.float .f64 r)) A TA LA (some ⟨g, 0, none⟩) n c tn tc9 k kc M Q KK c2 l tl hs (L.set z r) := by
  have hK := b.hK
  have h2 := b.h2 _ rfl
  simp only at h2
  have hg : W.grownBy (W.setCell ⟨g, z, none⟩ (.float .f64 r)) (some g) := grown_setCell (World.grownBy.refl W _) _ _
  exact ⟨s.h.farB hg (fun a e => by have := b.hA a e; omega), s.ht.farB hg (fun a e => by have := b.hT a e; omega), s.hL.farB hg (fun a e => by have := b.hL a e; omega) (fun e he a ea => by have := b.hE e he a ea; omega),
    Blk.grown s.DM hg (by simp; omega), Blk.grown s.DT hg (by simp; omega), Blk.grown s.DZ hg (by simp; omega), Blk.grown s.DO hg (by simp; omega), s.hO.set_ z r, below_grown s.bz hg (by omega) s.bz.size⟩
end

set_option maxRecDepth 100000 in
set_option maxHeartbeats 16000000 in
theorem rBlock_yes {w : World} {A TA LA : Option Addr} {n c tn tc9 k kc M Q : Nat} {l tl : List Int} {hs : List Re} (h : FL w A n c l) (ht : FL w TA tn tc9 tl) (hL : Rl w LA k kc hs) (hM : M ≤ 512) (hQ : Q ≤ 512) (hk : k ≤ 512) (hn : n = M * Q) (htn : tn = k * k) (hlen : ∀ e ∈ hs, e.l.length = M) (hM0 : 0 < M) (hk0 : 0 < k) (hQ0 : 0 < Q) :
    Calls Try.prog 26 #[mV M Q A n c, mV k k TA tn tc9, .slice LA k kc] w (MatQ2 w M Q n (tg (bP Q 0) (bF hs l tl M Q k) l Q)) := by
  have hnx := h.max
  have htx := ht.max
  have hkx := hL.2.1
  have n4 : n ≤ 262144 := by rw [hn]; exact Nat.le_trans (Nat.mul_le_mul hM hQ) (by decide)
  have hn0 : 0 < n := by rw [hn]; exact Nat.mul_pos hM0 hQ0
  have hAB := fl_blk h hn0
  have hTB := fl_blk ht (by rw [htn]; exact Nat.mul_pos hk0 hk0)
  have hLB := hL.blk hk0
  have hEB : ∀ e ∈ hs, ∀ a, e.A = some a → a.block < w.heap.size := fun e he a ea => by have h9 := (hL.2.2.1 e he).1; exact fl_blk h9 (by rw [hlen e he]; exact hM0) a ea
  obtain ⟨ad, rfl⟩ : ∃ ad, LA = some ad := by obtain ⟨e, ad, ea, _, hA, _⟩ := hL.at_ hk0; exact ⟨ad, hA⟩
  have HLEN := Lib.hid hlen
  have HN := Lib.hid hn
  have HTN := Lib.hid htn
  have hll := Lib.hid h.1
  have htl := Lib.hid ht.1
  clear hlen hn htn
  have bz := (((Below.refl _ w).alloc (Nat.le_refl _) (.cells #[.int .i64 M, .int .i64 Q, .slice A n c] 36)).alloc (by simp) (.cells #[.int .i64 k, .int .i64 k, .slice TA tn tc9] 36)).alloc (by simp; omega) (.cells #[.int .i64 0, .int .i64 0, .slice none 0 0] 36)
  have DM := ((Blk.new w [.int .i64 M, .int .i64 Q, .slice A n c] 36).alloc (.cells #[.int .i64 k, .int .i64 k, .slice TA tn tc9] 36)).alloc (.cells #[.int .i64 0, .int .i64 0, .slice none 0 0] 36)
  have DT := (Blk.new (w.alloc (.cells #[.int .i64 M, .int .i64 Q, .slice A n c] 36)) [.int .i64 k, .int .i64 k, .slice TA tn tc9] 36).alloc (.cells #[.int .i64 0, .int .i64 0, .slice none 0 0] 36)
  have DZ := Blk.new ((w.alloc (.cells #[.int .i64 M, .int .i64 Q, .slice A n c] 36)).alloc (.cells #[.int .i64 k, .int .i64 k, .slice TA tn tc9] 36)) [.int .i64 0, .int .i64 0, .slice none 0 0] 36
  simp only [World.size_alloc] at DT DZ
  replace h := h.on bz
  replace ht := ht.on bz
  replace hL := hL.on bz
  have hmk := run_makeF k (by omega)
  go_enter Try.func26, Try.ntmps26
  go_upto_region 2 with fail
  have hsz : (((w.alloc (.cells #[.int .i64 M, .int .i64 Q, .slice A n c] 36)).alloc (.cells #[.int .i64 k, .int .i64 k, .slice TA tn tc9] 36)).alloc (.cells #[.int .i64 0, .int .i64 0, .slice none 0 0] 36)).heap.size = w.heap.size + 1 + 1 + 1 := by simp
  generalize (((w.alloc (.cells #[.int .i64 M, .int .i64 Q, .slice A n c] 36)).alloc (.cells #[.int .i64 k, .int .i64 k, .slice TA tn tc9] 36)).alloc (.cells #[.int .i64 0, .int .i64 0, .slice none 0 0] 36)) = W0 at h ht hL DM DT DZ bz hsz ⊢
  obtain ⟨y0, y1, y2, _, _, _⟩ := Mbx.cells DM
  have pcp := rCopy_any (R := (M : Int)) (C := (Q : Int)) h (by omega)
  go_wp2_with fail
  with_reducible refine (pcp).mono ?_
  rintro e w1 ⟨A2, c2, rfl, hO, hb, hgt⟩
  clear y0 y1 y2 pcp
  replace h := h.on hb
  replace ht := ht.on hb
  replace hL := hL.on hb
  replace DM := DM.on hb
  replace DT := DT.on hb
  replace DZ := DZ.on hb
  replace bz := bz.trans (hb.mono bz.size)
  have hs1 := hb.size
  clear hb
  replace hO := hO.less (B' := w.heap.size) (by omega)
  have h2b : ∀ b, A2 = some b → w.heap.size + 1 + 1 + 1 ≤ b.block ∧ b.block < w1.heap.size := fun b e => ⟨by have := hgt b e; omega, (hO.gt e).2⟩
  have DO := Blk.new w1 [.int .i64 M, .int .i64 Q, .slice A2 n c2] 36
  have hbA := (Below.refl _ w1).alloc (Nat.le_refl _) (.cells #[.int .i64 M, .int .i64 Q, .slice A2 n c2] 36)
  replace h := h.on hbA
  replace ht := ht.on hbA
  replace hL := hL.on hbA
  replace DM := DM.on hbA
  replace DT := DT.on hbA
  replace DZ := DZ.on hbA
  replace hO := hO.alloc_ (.cells #[.int .i64 M, .int .i64 Q, .slice A2 n c2] 36)
  clear hbA
  replace bz := bz.alloc bz.size (.cells #[.int .i64 M, .int .i64 Q, .slice A2 n c2] 36)
  obtain ⟨KK, hKK⟩ : ∃ b, w1.heap.size = b := ⟨_, rfl⟩
  rw [hKK] at DO h2b hs1
  have hKs : (w1.alloc (.cells #[.int .i64 M, .int .i64 Q, .slice A2 n c2] 36)).heap.size = KK + 1 := by simp [hKK]
  have hBL : BL w.heap.size KK n A TA (some ad) A2 hs := ⟨hAB, hTB, hLB, hEB, h2b, by omega⟩
  have HBL := Lib.hid hBL
  clear hBL h2b hAB hTB hLB hEB hgt hs1
  go_upto_region 4 with fail
  clear hKK
  generalize (w1.alloc (.cells #[.int .i64 M, .int .i64 Q, .slice A2 n c2] 36)) = w5 at h ht hL DM DT DZ DO hO bz hKs ⊢
  have hS0 : BS w w5 A TA (some ad) A2 n c tn tc9 k kc M Q KK c2 l tl hs l := ⟨h, ht, hL, DM, DT, DZ, DO, hO, bz⟩
  have hw5 := Lib.hid h.2.2
  have htw := Lib.hid ht.2.2
  clear h ht hL DM DT DZ DO hO bz hsz
  obtain ⟨g2, hA2, _, _⟩ := hS0.hO.form (by rw [hll.out]; exact hn0)
  subst hA2
  have hn0H := Lib.hid hn0
  clear hn0
  have b0 : (0 : Nat) ≤ 18446744073709551615 := by omega
  have hMr : Mr l l M Q (bP 0 0) (bF hs l tl M Q k) := Mr.start (by rw [hll.out, HN.out]) hw5.out (fun a b _ _ => by unfold bP; simp)
  go_loopw [9] (fun i wr => ∃ (cc : Nat) (L : List Int), cc ≤ Q ∧ i = .int .i64 cc ∧ Mr L l M Q (bP cc 0) (bF hs l tl M Q k) ∧ BS w wr A TA (some ad) (some ⟨g2, 0, none⟩) n c tn tc9 k kc M Q KK c2 l tl hs L ∧ KK < wr.heap.size) (fun i _ => Q - (intOf i).toNat)
  case atStart => exact ⟨0, l, Nat.zero_le _, rfl, hMr, hS0, by omega⟩
  case round =>
    clear hMr hS0 hKs
    obtain ⟨cc, L, hcc, rfl, hMr, hS, hKs⟩ := hrel
    obtain ⟨y0, y1, y2, _, _, _⟩ := Mbx.cells hS.DM
    by_cases hlt : cc < Q
    · have c0 : (0 : Int) ≤ cc := by omega
      have c1 : (cc : Int) < Q := by omega
      obtain ⟨wo, hwo⟩ : ∃ x, x = wr := ⟨_, rfl⟩
      subst hwo
      have hOw := (RowF.new wo (List.replicate k 0)).owned (B := wo.heap.size) (by rw [List.length_replicate]; omega) (Nat.le_refl _)
      rw [List.length_replicate] at hOw
      have hIw : Hid (Is (List.replicate k (0 : Int)) k (fun _ => some 0)) := Lib.hid ⟨by simp, wd_zeros k, fun j _ => by rw [D_zeros]; exact fa_zero⟩
      have hbA := (Below.refl _ wo).alloc (Nat.le_refl _) (.cells (LF (List.replicate k 0)).toArray 24)
      have hS2 := hS.on hbA
      obtain ⟨gw, hgw⟩ : ∃ b, wo.heap.size = b := ⟨_, rfl⟩
      rw [hgw] at hOw hKs
      have hsw : (wo.alloc (.cells (LF (List.replicate k 0)).toArray 24)).heap.size = gw + 1 := by simp [hgw]
      clear hbA
      go_wp2_with fail
      clear y0 y1 y2 hS hgw
      generalize wo.alloc (.cells (LF (List.replicate k 0)).toArray 24) = w6 at hS2 hOw hsw ⊢
      have hIw0 : Hid (Is (List.replicate k (0 : Int)) k (fun j => if j < 0 then bW hs l M Q cc j else some 0)) := Lib.hid (hIw.out.congr (fun j _ => rfl))
      go_loopw [11] (fun i wr => ∃ (i2 : Nat) (WL : List Int), i2 ≤ k ∧ i = .int .i64 i2 ∧ Hid (Is WL k (fun j => if j < i2 then bW hs l M Q cc j else some 0)) ∧ OwnF wr gw (some ⟨gw, 0, none⟩) k WL ∧ BS w wr A TA (some ad) (some ⟨g2, 0, none⟩) n c tn tc9 k kc M Q KK c2 l tl hs L ∧ gw < wr.heap.size) (fun i _ => k - (intOf i).toNat)
      case atStart => exact ⟨0, _, Nat.zero_le _, rfl, hIw0, hOw, hS2, by omega⟩
      case round =>
        clear hIw hIw0 hOw hS2 hsw
        obtain ⟨i, WL, hi, rfl, hI, hOw, hS, hsw⟩ := hrel
        by_cases hit : i < k
        · have i0 : (0 : Int) ≤ i := by omega
          have i1 : (i : Int) < k := by omega
          obtain ⟨e, he, _, _⟩ := hS.hL.get hit
          have hem : e.l.length = M := HLEN.out e (List.mem_of_getElem? he)
          obtain ⟨ea, hE⟩ : ∃ ea, ad.add (i * 2) = ea := ⟨_, rfl⟩
          have HHE := Lib.hid he
          have HEM := Lib.hid hem
          have HVi := Lib.hid (hV_at he)
          clear he hem
          obtain ⟨wp, hwp⟩ : ∃ x, x = wr := ⟨_, rfl⟩
          subst hwp
          have hI0 : Hid (Is WL k (fun j => if j < i then bW hs l M Q cc j else if j = i then sumA (fun r => aop .mul (fa (D (hV hs i) r)) (ma l Q r cc)) 0 else some 0)) := Lib.hid (hI.out.congr (fun j _ => by
            by_cases e1 : j < i
            · simp [e1]
            · by_cases e2 : j = i
              · simp [e1, e2]; rfl
              · simp [e1, e2]))
          go_wp2_with fail
          go_loopw [12, 13] (fun r9 p9 wr => ∃ (r2 : Nat) (WL2 : List Int), r2 ≤ M ∧ r9 = .int .i64 r2 ∧ Hid (Is WL2 k (fun j => if j < i then bW hs l M Q cc j else if j = i then sumA (fun r => aop .mul (fa (D (hV hs i) r)) (ma l Q r cc)) r2 else some 0)) ∧ OwnF wr gw (some ⟨gw, 0, none⟩) k WL2 ∧ BS w wr A TA (some ad) (some ⟨g2, 0, none⟩) n c tn tc9 k kc M Q KK c2 l tl hs L ∧ gw < wr.heap.size) (fun r9 _ _ => M - (intOf r9).toNat)
          case atStart => exact ⟨0, WL, Nat.zero_le _, rfl, hI0, hOw, hS, hsw⟩
          case round =>
            clear hI hI0 hOw hS hsw
            obtain ⟨r, WL2, hr, rfl, hI, hOw, hS, hsw⟩ := hrel
            obtain ⟨y0, y1, y2, _, _, _⟩ := Mbx.cells hS.DM
            by_cases hrt : r < M
            · have r0 : (0 : Int) ≤ r := by omega
              have r1 : (r : Int) < M := by omega
              obtain ⟨y, hy⟩ : ∃ y, r * Q = y := ⟨_, rfl⟩
              obtain ⟨z, hz⟩ : ∃ z, y + cc = z := ⟨_, rfl⟩
              have hzn : z < n := by rw [← hz, ← hy, HN.out]; exact ix_lt (by omega) hlt
              have ey : (r : Int) * (Q : Int) = (y : Int) := by exact_mod_cast hy
              have ez : (y : Int) + (cc : Int) = (z : Int) := by omega
              have wy : IntKind.i64.wrap (y : Int) = (y : Int) := IntWalk.i64_in _ (by omega)
              have wz : IntKind.i64.wrap (z : Int) = (z : Int) := IntWalk.i64_in _ (by omega)
              have z0 : (0 : Int) ≤ z := by omega
              have z1 : (z : Int) < n := by omega
              obtain ⟨q0, _, fv⟩ := hS.hL.cells hit HHE.out hE HEM.out
              obtain ⟨ad1, hA1, _, hcA⟩ := fv.at_ hrt
              obtain ⟨ad2, hA2, _, hcB⟩ := hS.h.at_ hzn
              obtain ⟨x0, x1⟩ := fv.2.2.at_ r
              obtain ⟨x2, x3⟩ := hw5.out.at_ z
              have bXa : (D e.l r).toNat ≤ 18446744073709551615 := by omega
              have bY : (D l z).toNat ≤ 18446744073709551615 := by omega
              have HX : Hid (af (D e.l r).toNat = fa (D (hV hs i) r)) := Lib.hid (by rw [HVi.out]; rfl)
              have HY : Hid (af (D l z).toNat = ma l Q r cc) := Lib.hid (by unfold ma; rw [hy, hz]; rfl)
              generalize (D e.l r).toNat = X at *
              generalize (D l z).toNat = Y at *
              rw [hA1] at q0
              have hDA := hS.DM
              rw [hA2] at hDA
              have HA2 := Lib.hid hA2
              clear x0 x1 x2 x3 fv hA1 hA2
              go_wp2_with fail
              clear y0 y1 y2
              replace q0 : wr.drew.cell? ea = some (.slice (some ad1) M e.c) := q0
              replace hcA : wr.drew.cell? (ad1.add r) = some (.float .f64 X) := hcA
              replace hcB : wr.drew.cell? (ad2.add z) = some (.float .f64 Y) := hcB
              replace hDA := hDA.drew
              have dr2 : Dr wr wr.drew := ⟨1, rfl⟩
              have bz : Below wr.drew.heap.size wr.drew wr.drew := Below.refl _ _
              have hBS := hS
              refine wp_region_held_drew (S := fun w9 : World => Mbx w9 w.heap.size M Q (some ad2) n c ∧ w9.cell? ea = some (.slice (some ad1) M e.c) ∧ w9.cell? (ad1.add r) = some (.float .f64 X) ∧ w9.cell? (ad2.add z) = some (.float .f64 Y)) (by kernel_rfl) ⟨hDA, q0, hcA, hcB⟩ (fun hS => ?_)
              generalize wr.drew = wl at hS  dr2 q0 hcA hcB hDA bz ⊢
              refine wpAnyH_take (i := 0) (v := ?v0_26) rfl (by kernel_rfl) (by kernel_rfl) (by kernel_rfl) (fun _ _ _ h => h) (Or.inl ⟨by rfl, ?hy0_26⟩) (by assumption) ?rest0_26
              case hy0_26 => (intro w9 hSw; clear hSw; go_simp; try with_reducible rfl)
              try simp only [Act.put, List.setIfInBounds_toArray, List.set_cons_zero, List.set_cons_succ, List.getElem_toArray, List.getElem_cons_zero, List.getElem_cons_succ]
              refine wpAnyH_take (i := 1) (v := ?v1_27) rfl (by kernel_rfl) (by kernel_rfl) (by kernel_rfl) (fun _ _ _ h => h) (Or.inl ⟨by rfl, ?hy1_27⟩) (by assumption) ?rest1_27
              case hy1_27 => (intro w9 hSw; clear hSw; go_simp; try with_reducible rfl)
              try simp only [Act.put, List.setIfInBounds_toArray, List.set_cons_zero, List.set_cons_succ, List.getElem_toArray, List.getElem_cons_zero, List.getElem_cons_succ]
              refine wpAnyH_take (i := 2) (v := ?v2_28) rfl (by kernel_rfl) (by kernel_rfl) (by kernel_rfl) (fun _ _ _ h => h) (Or.inl ⟨by rfl, ?hy2_28⟩) (by assumption) ?rest2_28
              case hy2_28 => (intro w9 hSw; clear hSw; go_simp; try with_reducible rfl)
              try simp only [Act.put, List.setIfInBounds_toArray, List.set_cons_zero, List.set_cons_succ, List.getElem_toArray, List.getElem_cons_zero, List.getElem_cons_succ]
              refine wpAnyH_take (i := 3) (v := ?v3_29) rfl (by kernel_rfl) (by kernel_rfl) (by kernel_rfl) (fun _ _ _ h => h) (Or.inl ⟨by rfl, ?hy3_29⟩) (by assumption) ?rest3_29
              case hy3_29 => (intro w9 hSw; clear hSw; go_simp; try with_reducible rfl)
              try simp only [Act.put, List.setIfInBounds_toArray, List.set_cons_zero, List.set_cons_succ, List.getElem_toArray, List.getElem_cons_zero, List.getElem_cons_succ]
              refine wpAnyH_take (i := 4) (v := ?v4_30) rfl (by kernel_rfl) (by kernel_rfl) (by kernel_rfl) (fun _ _ _ h => h) (Or.inl ⟨by rfl, ?hy4_30⟩) (by assumption) ?rest4_30
              case hy4_30 => (intro w9 hSw; obtain ⟨m0, m1, m2, m3⟩ := hSw; obtain ⟨y0, y1, y2, _, _, _⟩ := Mbx.cells m0; go_simp; try with_reducible rfl)
              try simp only [Act.put, List.setIfInBounds_toArray, List.set_cons_zero, List.set_cons_succ, List.getElem_toArray, List.getElem_cons_zero, List.getElem_cons_succ]
              refine wpAnyH_take (i := 5) (v := ?v5_31) rfl (by kernel_rfl) (by kernel_rfl) (by kernel_rfl) (fun _ _ _ h => h) (Or.inl ⟨by rfl, ?hy5_31⟩) (by assumption) ?rest5_31
              case hy5_31 => (intro w9 hSw; clear hSw; go_simp; try with_reducible rfl)
              try simp only [Act.put, List.setIfInBounds_toArray, List.set_cons_zero, List.set_cons_succ, List.getElem_toArray, List.getElem_cons_zero, List.getElem_cons_succ]
              refine wpAnyH_take (i := 6) (v := ?v6_32) rfl (by kernel_rfl) (by kernel_rfl) (by kernel_rfl) (fun _ _ _ h => h) (Or.inl ⟨by rfl, ?hy6_32⟩) (by assumption) ?rest6_32
              case hy6_32 => (intro w9 hSw; clear hSw; go_simp; try with_reducible rfl)
              try simp only [Act.put, List.setIfInBounds_toArray, List.set_cons_zero, List.set_cons_succ, List.getElem_toArray, List.getElem_cons_zero, List.getElem_cons_succ]
              refine wpAnyH_take (i := 7) (v := ?v7_33) rfl (by kernel_rfl) (by kernel_rfl) (by kernel_rfl) (fun _ _ _ h => h) (Or.inl ⟨by rfl, ?hy7_33⟩) (by assumption) ?rest7_33
              case hy7_33 => (intro w9 hSw; obtain ⟨m0, m1, m2, m3⟩ := hSw; obtain ⟨y0, y1, y2, _, _, _⟩ := Mbx.cells m0; go_simp; try with_reducible rfl)
              try simp only [Act.put, List.setIfInBounds_toArray, List.set_cons_zero, List.set_cons_succ, List.getElem_toArray, List.getElem_cons_zero, List.getElem_cons_succ]
              refine wpAnyH_take (i := 8) (v := ?v8_34) rfl (by kernel_rfl) (by kernel_rfl) (by kernel_rfl) (fun _ _ _ h => h) (Or.inl ⟨by rfl, ?hy8_34⟩) (by assumption) ?rest8_34
              case hy8_34 => (intro w9 hSw; clear hSw; go_simp; try with_reducible rfl)
              try simp only [Act.put, List.setIfInBounds_toArray, List.set_cons_zero, List.set_cons_succ, List.getElem_toArray, List.getElem_cons_zero, List.getElem_cons_succ]
              refine wpAnyH_take (i := 9) (v := ?v9_35) rfl (by kernel_rfl) (by kernel_rfl) (by kernel_rfl) (fun _ _ _ h => h) (Or.inl ⟨by rfl, ?hy9_35⟩) (by assumption) ?rest9_35
              case hy9_35 => (intro w9 hSw; obtain ⟨m0, m1, m2, m3⟩ := hSw; obtain ⟨y0, y1, y2, _, _, _⟩ := Mbx.cells m0; go_simp; try with_reducible rfl)
              try simp only [Act.put, List.setIfInBounds_toArray, List.set_cons_zero, List.set_cons_succ, List.getElem_toArray, List.getElem_cons_zero, List.getElem_cons_succ]
              refine wpAnyH_take (i := 10) (v := ?v10_36) rfl (by kernel_rfl) (by kernel_rfl) (by kernel_rfl) (fun _ _ _ h => h) (Or.inl ⟨by rfl, ?hy10_36⟩) (by assumption) ?rest10_36
              case hy10_36 => (intro w9 hSw; clear hSw; go_simp; try with_reducible rfl)
              try simp only [Act.put, List.setIfInBounds_toArray, List.set_cons_zero, List.set_cons_succ, List.getElem_toArray, List.getElem_cons_zero, List.getElem_cons_succ]
              refine wpAnyH_take (i := 11) (v := ?v11_37) rfl (by kernel_rfl) (by kernel_rfl) (by kernel_rfl) (fun _ _ _ h => h) (Or.inl ⟨by rfl, ?hy11_37⟩) (by assumption) ?rest11_37
              case hy11_37 => (intro w9 hSw; clear hSw; go_simp; try with_reducible rfl)
              try simp only [Act.put, List.setIfInBounds_toArray, List.set_cons_zero, List.set_cons_succ, List.getElem_toArray, List.getElem_cons_zero, List.getElem_cons_succ]
              refine wpAnyH_take (i := 12) (v := ?v12_38) rfl (by kernel_rfl) (by kernel_rfl) (by kernel_rfl) (fun _ _ _ h => h) (Or.inl ⟨by rfl, ?hy12_38⟩) (by assumption) ?rest12_38
              case hy12_38 => (intro w9 hSw; obtain ⟨m0, m1, m2, m3⟩ := hSw; obtain ⟨y0, y1, y2, _, _, _⟩ := Mbx.cells m0; go_simp; try with_reducible rfl)
              try simp only [Act.put, List.setIfInBounds_toArray, List.set_cons_zero, List.set_cons_succ, List.getElem_toArray, List.getElem_cons_zero, List.getElem_cons_succ]
              refine wpAnyH_take (i := 13) (v := ?v13_39) rfl (by kernel_rfl) (by kernel_rfl) (by kernel_rfl) (fun _ _ _ h => h) (Or.inl ⟨by rfl, ?hy13_39⟩) (by assumption) ?rest13_39
              case hy13_39 => (intro w9 hSw; clear hSw; go_simp; try with_reducible rfl)
              try simp only [Act.put, List.setIfInBounds_toArray, List.set_cons_zero, List.set_cons_succ, List.getElem_toArray, List.getElem_cons_zero, List.getElem_cons_succ]
              refine wpAnyH_take (i := 14) (v := ?v14_40) rfl (by kernel_rfl) (by kernel_rfl) (by kernel_rfl) (fun _ _ _ h => h) (Or.inl ⟨by rfl, ?hy14_40⟩) (by assumption) ?rest14_40
              case hy14_40 => (intro w9 hSw; clear hSw; go_simp; try with_reducible rfl)
              try simp only [Act.put, List.setIfInBounds_toArray, List.set_cons_zero, List.set_cons_succ, List.getElem_toArray, List.getElem_cons_zero, List.getElem_cons_succ]
              refine wpAnyH_take (i := 15) (v := ?v15_41) rfl (by kernel_rfl) (by kernel_rfl) (by kernel_rfl) (fun _ _ _ h => h) (Or.inl ⟨by rfl, ?hy15_41⟩) (by assumption) ?rest15_41
              case hy15_41 => (intro w9 hSw; clear hSw; go_simp; try with_reducible rfl)
              try simp only [Act.put, List.setIfInBounds_toArray, List.set_cons_zero, List.set_cons_succ, List.getElem_toArray, List.getElem_cons_zero, List.getElem_cons_succ]
              refine wpAnyH_take (i := 16) (v := ?v16_42) rfl (by kernel_rfl) (by kernel_rfl) (by kernel_rfl) (fun _ _ _ h => h) (Or.inl ⟨by rfl, ?hy16_42⟩) (by assumption) ?rest16_42
              case hy16_42 => (intro w9 hSw; clear hSw; go_simp; try with_reducible rfl)
              try simp only [Act.put, List.setIfInBounds_toArray, List.set_cons_zero, List.set_cons_succ, List.getElem_toArray, List.getElem_cons_zero, List.getElem_cons_succ]
              refine wpAnyH_take (i := 17) (v := ?v17_43) rfl (by kernel_rfl) (by kernel_rfl) (by kernel_rfl) (fun _ _ _ h => h) (Or.inl ⟨by rfl, ?hy17_43⟩) (by assumption) ?rest17_43
              case hy17_43 => (intro w9 hSw; obtain ⟨m0, m1, m2, m3⟩ := hSw; obtain ⟨y0, y1, y2, _, _, _⟩ := Mbx.cells m0; go_simp; try with_reducible rfl)
              try simp only [Act.put, List.setIfInBounds_toArray, List.set_cons_zero, List.set_cons_succ, List.getElem_toArray, List.getElem_cons_zero, List.getElem_cons_succ]
              refine wpAnyH_ready (rs := [18]) (by kernel_rfl) (by simp) ?_
              refine AllReadyH.cons rfl (fun K hK => ?_) AllReadyH.nil
              refine step_arith .mul (.inr (.inr (.inl rfl))) rfl _ _ _ _ X Y rfl rfl rfl bXa bY ?_
              intro r9 w11 hb hq1 b1 dq
              have H1 := Lib.hid hq1
              clear hq1 hb
              replace dr2 := dr2.trans dq
              have hS1 := hS
              obtain ⟨t9, ht9⟩ := dq
              subst ht9
              clear hS; refine hK.out _ _ hS1 (fun hS => ?_); clear hK K
              try simp only [Act.put, List.setIfInBounds_toArray, List.set_cons_zero, List.set_cons_succ, List.getElem_toArray, List.getElem_cons_zero, List.getElem_cons_succ]
              refine wpAnyH_take (i := 19) (v := ?v19_44) rfl (by kernel_rfl) (by kernel_rfl) (by kernel_rfl) (fun _ _ _ h => h) (Or.inl ⟨by rfl, ?hy19_44⟩) (by assumption) ?rest19_44
              case hy19_44 => (intro w9 hSw; clear hSw; go_simp; try with_reducible rfl)
              try simp only [Act.put, List.setIfInBounds_toArray, List.set_cons_zero, List.set_cons_succ, List.getElem_toArray, List.getElem_cons_zero, List.getElem_cons_succ]
              refine wpAnyH_done (by kernel_rfl) ?_ _
              have hBS2 := hBS.dr dr2
              have hO9 := hOw.on_ (dr2.below _)
              obtain ⟨u0, u1⟩ := hO9.at' (k := i) (by rw [hI.out.len]; exact hit)
              obtain ⟨x0, x1⟩ := hI.out.wd.at_ i
              have bZ : (D WL2 i).toNat ≤ 18446744073709551615 := by omega
              have HZ := Lib.hid (hI.out.at_ i hit)
              have HZ2 : Hid (af (D WL2 i).toNat = fa (D WL2 i)) := Lib.hid rfl
              generalize hZZ : (D WL2 i).toNat = Z at *
              obtain ⟨r8, w12, e12, d12, h12, b12⟩ := run_add (P := Try.prog) 24 (x := Z) (y := r9) bZ b1 (wl.drewN t9)
              have hbd := d12.below (wl.drewN t9).heap.size
              have hBS3 := hBS2.on hbd
              have hO10 := hO9.on_ hbd
              obtain ⟨u2, u3⟩ := hO10.at' (k := i) (by rw [hI.out.len]; exact hit)
              rw [hZZ] at u2
              have hgs : w12.grownBy (w12.setCell ⟨gw, i, none⟩ (.float .f64 r8)) (some gw) := grown_setCell (World.grownBy.refl w12 _) _ _
              have hBS4 := hBS3.far HBL.out hgs (by omega)
              have hO11 : OwnF (w12.setCell ⟨gw, i, none⟩ (.float .f64 r8)) gw (some ⟨gw, 0, none⟩) k (WL2.set i r8) := hO10.set_ i r8
              have hsz9 : gw < (w12.setCell ⟨gw, i, none⟩ (.float .f64 r8)).heap.size := (hO11.gt rfl).2
              have hI9 : Hid (Is (WL2.set i (r8 : Int)) k (fun j => if j < i then bW hs l M Q cc j else if j = i then sumA (fun r => aop .mul (fa (D (hV hs i) r)) (ma l Q r cc)) (r + 1) else some 0)) := Lib.hid (by
                refine hI.out.set (by omega) (by omega) hit ?_ (fun j _ hj => ?_)
                · rw [fa_nat, h12, HZ2.out, HZ.out, H1.out, HX.out, HY.out, if_neg (Nat.lt_irrefl i), if_pos rfl, if_neg (Nat.lt_irrefl i), if_pos rfl]; rfl
                · simp only [hj, if_false])
              clear h12 HZ HZ2 hI H1 hBS hBS2 hBS3 hO9 hO10 hOw hbd
              go_wp2_with fail
              go_roundw
              case rel => first | exact ⟨r + 1, _, by omega, by go_num, hI9, hO11, hBS4, hsz9⟩ | exact ⟨r + 1, _, by omega, by omega, hI9, hO11, hBS4, hsz9⟩
              case measure => simp [intOf]; omega
            · obtain rfl : r = M := by omega
              have hI9 : Hid (Is WL2 k (fun j => if j < i + 1 then bW hs l r Q cc j else some 0)) := Lib.hid (hI.out.congr (fun j _ => by
                by_cases e1 : j < i
                · rw [if_pos e1, if_pos (by omega)]
                · rw [if_neg e1]
                  by_cases e2 : j = i
                  · rw [if_pos e2, if_pos (by omega), e2]; rfl
                  · rw [if_neg e2, if_neg (by omega)]))
              clear hI
              go_wp2_with fail
              go_roundw
              case rel => first | exact ⟨i + 1, _, by omega, by go_num, hI9, hOw, hS, hsw⟩ | exact ⟨i + 1, _, by omega, by omega, hI9, hOw, hS, hsw⟩
              case measure => simp [intOf]; omega
        · obtain rfl : i = k := by omega
          have hIW : Hid (Is WL i (fun j => bW hs l M Q cc j)) := Lib.hid (hI.out.congr (fun j hj => if_pos hj))
          clear hI
          obtain ⟨wp, hwp⟩ : ∃ x, x = wr := ⟨_, rfl⟩
          subst hwp
          have hOx := (RowF.new wp (List.replicate i 0)).owned (B := wp.heap.size) (by rw [List.length_replicate]; omega) (Nat.le_refl _)
          rw [List.length_replicate] at hOx
          have hIx0 : Hid (Is (List.replicate i (0 : Int)) i (fun j => if j < 0 then bX hs l tl M Q i cc j else some 0)) := Lib.hid ⟨by simp, wd_zeros i, fun j _ => by rw [D_zeros]; exact fa_zero⟩
          have hbA := (Below.refl _ wp).alloc (Nat.le_refl _) (.cells (LF (List.replicate i 0)).toArray 24)
          have hS2 := hS.on hbA
          have hOw2 := hOw.on_ hbA
          obtain ⟨gx, hgx⟩ : ∃ b, wp.heap.size = b := ⟨_, rfl⟩
          rw [hgx] at hOx hsw
          have hsx : (wp.alloc (.cells (LF (List.replicate i 0)).toArray 24)).heap.size = gx + 1 := by simp [hgx]
          clear hbA
          go_wp2_with fail
          clear hS hOw hgx
          generalize wp.alloc (.cells (LF (List.replicate i 0)).toArray 24) = w7 at hS2 hOw2 hOx hsx ⊢
          go_loopw [15] (fun ii wr => ∃ (i2 : Nat) (XL : List Int), i2 ≤ i ∧ ii = .int .i64 i2 ∧ Hid (Is XL i (fun j => if j < i2 then bX hs l tl M Q i cc j else some 0)) ∧ OwnF wr gx (some ⟨gx, 0, none⟩) i XL ∧ OwnF wr gw (some ⟨gw, 0, none⟩) i WL ∧ BS w wr A TA (some ad) (some ⟨g2, 0, none⟩) n c tn tc9 i kc M Q KK c2 l tl hs L ∧ gx < wr.heap.size) (fun ii _ => i - (intOf ii).toNat)
          case atStart => exact ⟨0, _, Nat.zero_le _, rfl, hIx0, hOx, hOw2, hS2, by omega⟩
          case round =>
            clear hIx0 hOx hOw2 hS2 hsx
            obtain ⟨b, XL, hb1, rfl, hI, hOx, hOw, hS, hsx⟩ := hrel
            by_cases hbt : b < i
            · have bb0 : (0 : Int) ≤ b := by omega
              have bb1 : (b : Int) < i := by omega
              obtain ⟨wq, hwq⟩ : ∃ x, x = wr := ⟨_, rfl⟩
              subst hwq
              have hI0 : Hid (Is XL i (fun j => if j < b then bX hs l tl M Q i cc j else if j = b then sumA (fun x => aop .mul (ma tl i x b) (bW hs l M Q cc x)) 0 else some 0)) := Lib.hid (hI.out.congr (fun j _ => by
                by_cases e1 : j < b
                · simp [e1]
                · by_cases e2 : j = b
                  · simp [e1, e2]; rfl
                  · simp [e1, e2]))
              go_wp2_with fail
              go_loopw [16, 17] (fun m9 p9 wr => ∃ (m2 : Nat) (XL2 : List Int), m2 ≤ b + 1 ∧ m9 = .int .i64 m2 ∧ Hid (Is XL2 i (fun j => if j < b then bX hs l tl M Q i cc j else if j = b then sumA (fun x => aop .mul (ma tl i x b) (bW hs l M Q cc x)) m2 else some 0)) ∧ OwnF wr gx (some ⟨gx, 0, none⟩) i XL2 ∧ OwnF wr gw (some ⟨gw, 0, none⟩) i WL ∧ BS w wr A TA (some ad) (some ⟨g2, 0, none⟩) n c tn tc9 i kc M Q KK c2 l tl hs L ∧ gx < wr.heap.size) (fun m9 _ _ => b + 1 - (intOf m9).toNat)
              case atStart => exact ⟨0, XL, Nat.zero_le _, rfl, hI0, hOx, hOw, hS, hsx⟩
              case round =>
                clear hI hI0 hOx hOw hS hsx
                obtain ⟨m, XL2, hm, rfl, hI, hOx, hOw, hS, hsx⟩ := hrel
                obtain ⟨y0, y1, y2, _, _, _⟩ := Mbx.cells hS.DT
                by_cases hmt : m ≤ b
                · have m0 : (0 : Int) ≤ m := by omega
                  have m1 : (m : Int) ≤ b := by omega
                  have m3 : (m : Int) < i := by omega
                  obtain ⟨y, hy⟩ : ∃ y, m * i = y := ⟨_, rfl⟩
                  obtain ⟨z, hz⟩ : ∃ z, y + b = z := ⟨_, rfl⟩
                  have hzn : z < tn := by rw [← hz, ← hy, HTN.out]; exact ix_lt (by omega) hbt
                  have ey : (m : Int) * (i : Int) = (y : Int) := by exact_mod_cast hy
                  have ez : (y : Int) + (b : Int) = (z : Int) := by omega
                  have htn4 : tn ≤ 262144 := by rw [HTN.out]; exact Nat.le_trans (Nat.mul_le_mul hk hk) (by decide)
                  have wy : IntKind.i64.wrap (y : Int) = (y : Int) := IntWalk.i64_in _ (by omega)
                  have wz : IntKind.i64.wrap (z : Int) = (z : Int) := IntWalk.i64_in _ (by omega)
                  have z0 : (0 : Int) ≤ z := by omega
                  have z1 : (z : Int) < tn := by omega
                  obtain ⟨ad2, hA2, _, hcB⟩ := hS.ht.at_ hzn
                  obtain ⟨hcA, _⟩ := hOw.at' (k := m) (by rw [hIW.out.len]; omega)
                  obtain ⟨x0, x1⟩ := hIW.out.wd.at_ m
                  obtain ⟨x2, x3⟩ := htw.out.at_ z
                  have bXa : (D tl z).toNat ≤ 18446744073709551615 := by omega
                  have bY : (D WL m).toNat ≤ 18446744073709551615 := by omega
                  have HX : Hid (af (D tl z).toNat = ma tl i m b) := Lib.hid (by unfold ma; rw [hy, hz]; rfl)
                  have HY : Hid (af (D WL m).toNat = bW hs l M Q cc m) := Lib.hid (hIW.out.at_ m (by omega))
                  generalize (D tl z).toNat = X at *
                  generalize (D WL m).toNat = Y at *
                  have hDA := hS.DT
                  rw [hA2] at hDA
                  have HA2 := Lib.hid hA2
                  clear x0 x1 x2 x3 hA2
                  go_wp2_with fail
                  clear y0 y1 y2
                  replace hcA : wr.drew.cell? ⟨gw, m, none⟩ = some (.float .f64 Y) := hcA
                  replace hcB : wr.drew.cell? (ad2.add z) = some (.float .f64 X) := hcB
                  replace hDA := hDA.drew
                  have dr2 : Dr wr wr.drew := ⟨1, rfl⟩
                  have bz : Below wr.drew.heap.size wr.drew wr.drew := Below.refl _ _
                  have hBS := hS
                  refine wp_region_held_drew (S := fun w9 : World => Mbx w9 (w.heap.size + 1) i i (some ad2) tn tc9 ∧ w9.cell? ⟨gw, m, none⟩ = some (.float .f64 Y) ∧ w9.cell? (ad2.add z) = some (.float .f64 X)) (by kernel_rfl) ⟨hDA, hcA, hcB⟩ (fun hS => ?_)
                  generalize wr.drew = wl at hS  dr2 hcA hcB hDA bz ⊢
                  refine wpAnyH_take (i := 0) (v := ?v0_45) rfl (by kernel_rfl) (by kernel_rfl) (by kernel_rfl) (fun _ _ _ h => h) (Or.inl ⟨by rfl, ?hy0_45⟩) (by assumption) ?rest0_45
                  case hy0_45 => (intro w9 hSw; clear hSw; go_simp; try with_reducible rfl)
                  try simp only [Act.put, List.setIfInBounds_toArray, List.set_cons_zero, List.set_cons_succ, List.getElem_toArray, List.getElem_cons_zero, List.getElem_cons_succ]
                  refine wpAnyH_take (i := 1) (v := ?v1_46) rfl (by kernel_rfl) (by kernel_rfl) (by kernel_rfl) (fun _ _ _ h => h) (Or.inl ⟨by rfl, ?hy1_46⟩) (by assumption) ?rest1_46
                  case hy1_46 => (intro w9 hSw; obtain ⟨m0, m1, m2⟩ := hSw; obtain ⟨y0, y1, y2, _, _, _⟩ := Mbx.cells m0; go_simp; try with_reducible rfl)
                  try simp only [Act.put, List.setIfInBounds_toArray, List.set_cons_zero, List.set_cons_succ, List.getElem_toArray, List.getElem_cons_zero, List.getElem_cons_succ]
                  refine wpAnyH_take (i := 2) (v := ?v2_47) rfl (by kernel_rfl) (by kernel_rfl) (by kernel_rfl) (fun _ _ _ h => h) (Or.inl ⟨by rfl, ?hy2_47⟩) (by assumption) ?rest2_47
                  case hy2_47 => (intro w9 hSw; clear hSw; go_simp; try with_reducible rfl)
                  try simp only [Act.put, List.setIfInBounds_toArray, List.set_cons_zero, List.set_cons_succ, List.getElem_toArray, List.getElem_cons_zero, List.getElem_cons_succ]
                  refine wpAnyH_take (i := 3) (v := ?v3_48) rfl (by kernel_rfl) (by kernel_rfl) (by kernel_rfl) (fun _ _ _ h => h) (Or.inl ⟨by rfl, ?hy3_48⟩) (by assumption) ?rest3_48
                  case hy3_48 => (intro w9 hSw; clear hSw; go_simp; try with_reducible rfl)
                  try simp only [Act.put, List.setIfInBounds_toArray, List.set_cons_zero, List.set_cons_succ, List.getElem_toArray, List.getElem_cons_zero, List.getElem_cons_succ]
                  refine wpAnyH_take (i := 4) (v := ?v4_49) rfl (by kernel_rfl) (by kernel_rfl) (by kernel_rfl) (fun _ _ _ h => h) (Or.inl ⟨by rfl, ?hy4_49⟩) (by assumption) ?rest4_49
                  case hy4_49 => (intro w9 hSw; clear hSw; go_simp; try with_reducible rfl)
                  try simp only [Act.put, List.setIfInBounds_toArray, List.set_cons_zero, List.set_cons_succ, List.getElem_toArray, List.getElem_cons_zero, List.getElem_cons_succ]
                  refine wpAnyH_take (i := 5) (v := ?v5_50) rfl (by kernel_rfl) (by kernel_rfl) (by kernel_rfl) (fun _ _ _ h => h) (Or.inl ⟨by rfl, ?hy5_50⟩) (by assumption) ?rest5_50
                  case hy5_50 => (intro w9 hSw; clear hSw; go_simp; try with_reducible rfl)
                  try simp only [Act.put, List.setIfInBounds_toArray, List.set_cons_zero, List.set_cons_succ, List.getElem_toArray, List.getElem_cons_zero, List.getElem_cons_succ]
                  refine wpAnyH_take (i := 6) (v := ?v6_51) rfl (by kernel_rfl) (by kernel_rfl) (by kernel_rfl) (fun _ _ _ h => h) (Or.inl ⟨by rfl, ?hy6_51⟩) (by assumption) ?rest6_51
                  case hy6_51 => (intro w9 hSw; clear hSw; go_simp; try with_reducible rfl)
                  try simp only [Act.put, List.setIfInBounds_toArray, List.set_cons_zero, List.set_cons_succ, List.getElem_toArray, List.getElem_cons_zero, List.getElem_cons_succ]
                  refine wpAnyH_take (i := 7) (v := ?v7_52) rfl (by kernel_rfl) (by kernel_rfl) (by kernel_rfl) (fun _ _ _ h => h) (Or.inl ⟨by rfl, ?hy7_52⟩) (by assumption) ?rest7_52
                  case hy7_52 => (intro w9 hSw; clear hSw; go_simp; try with_reducible rfl)
                  try simp only [Act.put, List.setIfInBounds_toArray, List.set_cons_zero, List.set_cons_succ, List.getElem_toArray, List.getElem_cons_zero, List.getElem_cons_succ]
                  refine wpAnyH_take (i := 8) (v := ?v8_53) rfl (by kernel_rfl) (by kernel_rfl) (by kernel_rfl) (fun _ _ _ h => h) (Or.inl ⟨by rfl, ?hy8_53⟩) (by assumption) ?rest8_53
                  case hy8_53 => (intro w9 hSw; obtain ⟨m0, m1, m2⟩ := hSw; obtain ⟨y0, y1, y2, _, _, _⟩ := Mbx.cells m0; go_simp; try with_reducible rfl)
                  try simp only [Act.put, List.setIfInBounds_toArray, List.set_cons_zero, List.set_cons_succ, List.getElem_toArray, List.getElem_cons_zero, List.getElem_cons_succ]
                  refine wpAnyH_take (i := 9) (v := ?v9_54) rfl (by kernel_rfl) (by kernel_rfl) (by kernel_rfl) (fun _ _ _ h => h) (Or.inl ⟨by rfl, ?hy9_54⟩) (by assumption) ?rest9_54
                  case hy9_54 => (intro w9 hSw; clear hSw; go_simp; try with_reducible rfl)
                  try simp only [Act.put, List.setIfInBounds_toArray, List.set_cons_zero, List.set_cons_succ, List.getElem_toArray, List.getElem_cons_zero, List.getElem_cons_succ]
                  refine wpAnyH_take (i := 10) (v := ?v10_55) rfl (by kernel_rfl) (by kernel_rfl) (by kernel_rfl) (fun _ _ _ h => h) (Or.inl ⟨by rfl, ?hy10_55⟩) (by assumption) ?rest10_55
                  case hy10_55 => (intro w9 hSw; clear hSw; go_simp; try with_reducible rfl)
                  try simp only [Act.put, List.setIfInBounds_toArray, List.set_cons_zero, List.set_cons_succ, List.getElem_toArray, List.getElem_cons_zero, List.getElem_cons_succ]
                  refine wpAnyH_take (i := 11) (v := ?v11_56) rfl (by kernel_rfl) (by kernel_rfl) (by kernel_rfl) (fun _ _ _ h => h) (Or.inl ⟨by rfl, ?hy11_56⟩) (by assumption) ?rest11_56
                  case hy11_56 => (intro w9 hSw; clear hSw; go_simp; try with_reducible rfl)
                  try simp only [Act.put, List.setIfInBounds_toArray, List.set_cons_zero, List.set_cons_succ, List.getElem_toArray, List.getElem_cons_zero, List.getElem_cons_succ]
                  refine wpAnyH_take (i := 12) (v := ?v12_57) rfl (by kernel_rfl) (by kernel_rfl) (by kernel_rfl) (fun _ _ _ h => h) (Or.inl ⟨by rfl, ?hy12_57⟩) (by assumption) ?rest12_57
                  case hy12_57 => (intro w9 hSw; obtain ⟨m0, m1, m2⟩ := hSw; obtain ⟨y0, y1, y2, _, _, _⟩ := Mbx.cells m0; go_simp; try with_reducible rfl)
                  try simp only [Act.put, List.setIfInBounds_toArray, List.set_cons_zero, List.set_cons_succ, List.getElem_toArray, List.getElem_cons_zero, List.getElem_cons_succ]
                  refine wpAnyH_ready (rs := [13]) (by kernel_rfl) (by simp) ?_
                  refine AllReadyH.cons rfl (fun K hK => ?_) AllReadyH.nil
                  refine step_arith .mul (.inr (.inr (.inl rfl))) rfl _ _ _ _ X Y rfl rfl rfl bXa bY ?_
                  intro r9 w11 hb hq1 b1 dq
                  have H1 := Lib.hid hq1
                  clear hq1 hb
                  replace dr2 := dr2.trans dq
                  have hS1 := hS
                  obtain ⟨t9, ht9⟩ := dq
                  subst ht9
                  clear hS; refine hK.out _ _ hS1 (fun hS => ?_); clear hK K
                  try simp only [Act.put, List.setIfInBounds_toArray, List.set_cons_zero, List.set_cons_succ, List.getElem_toArray, List.getElem_cons_zero, List.getElem_cons_succ]
                  refine wpAnyH_take (i := 14) (v := ?v14_58) rfl (by kernel_rfl) (by kernel_rfl) (by kernel_rfl) (fun _ _ _ h => h) (Or.inl ⟨by rfl, ?hy14_58⟩) (by assumption) ?rest14_58
                  case hy14_58 => (intro w9 hSw; clear hSw; go_simp; try with_reducible rfl)
                  try simp only [Act.put, List.setIfInBounds_toArray, List.set_cons_zero, List.set_cons_succ, List.getElem_toArray, List.getElem_cons_zero, List.getElem_cons_succ]
                  refine wpAnyH_done (by kernel_rfl) ?_ _
                  have hBS2 := hBS.dr dr2
                  have hO9 := hOx.on_ (dr2.below _)
                  obtain ⟨u0, u1⟩ := hO9.at' (k := b) (by rw [hI.out.len]; exact hbt)
                  obtain ⟨x0, x1⟩ := hI.out.wd.at_ b
                  have bZ : (D XL2 b).toNat ≤ 18446744073709551615 := by omega
                  have HZ := Lib.hid (hI.out.at_ b hbt)
                  have HZ2 : Hid (af (D XL2 b).toNat = fa (D XL2 b)) := Lib.hid rfl
                  generalize hZZ : (D XL2 b).toNat = Z at *
                  obtain ⟨r8, w12, e12, d12, h12, b12⟩ := run_add (P := Try.prog) 24 (x := Z) (y := r9) bZ b1 (wl.drewN t9)
                  have hbd := d12.below (wl.drewN t9).heap.size
                  have hBS3 := hBS2.on hbd
                  have hO10 := hO9.on_ hbd
                  obtain ⟨u2, u3⟩ := hO10.at' (k := b) (by rw [hI.out.len]; exact hbt)
                  rw [hZZ] at u2
                  have hgs : w12.grownBy (w12.setCell ⟨gx, b, none⟩ (.float .f64 r8)) (some gx) := grown_setCell (World.grownBy.refl w12 _) _ _
                  have hBS4 := hBS3.far HBL.out hgs (by omega)
                  have hO11 : OwnF (w12.setCell ⟨gx, b, none⟩ (.float .f64 r8)) gx (some ⟨gx, 0, none⟩) i (XL2.set b r8) := hO10.set_ b r8
                  have hsz9 : gx < (w12.setCell ⟨gx, b, none⟩ (.float .f64 r8)).heap.size := (hO11.gt rfl).2
                  have hOw11 := ((hOw.on_ (dr2.below _)).on_ hbd).grown_ hgs (fun a e => by injection e with e; subst e; simp; omega)
                  have hI9 : Hid (Is (XL2.set b (r8 : Int)) i (fun j => if j < b then bX hs l tl M Q i cc j else if j = b then sumA (fun x => aop .mul (ma tl i x b) (bW hs l M Q cc x)) (m + 1) else some 0)) := Lib.hid (by
                    refine hI.out.set (by omega) (by omega) hbt ?_ (fun j _ hj => ?_)
                    · rw [fa_nat, h12, HZ2.out, HZ.out, H1.out, HX.out, HY.out, if_neg (Nat.lt_irrefl b), if_pos rfl, if_neg (Nat.lt_irrefl b), if_pos rfl]; rfl
                    · simp only [hj, if_false])
                  clear h12 HZ HZ2 hI H1 hBS hBS2 hBS3 hO9 hO10 hOx hOw hbd
                  go_wp2_with fail
                  go_roundw
                  case rel => first | exact ⟨m + 1, _, by omega, by go_num, hI9, hO11, hOw11, hBS4, hsz9⟩ | exact ⟨m + 1, _, by omega, by omega, hI9, hO11, hOw11, hBS4, hsz9⟩
                  case measure => simp [intOf]; omega
                · obtain rfl : m = b + 1 := by omega
                  have hI9 : Hid (Is XL2 i (fun j => if j < b + 1 then bX hs l tl M Q i cc j else some 0)) := Lib.hid (hI.out.congr (fun j _ => by
                    by_cases e1 : j < b
                    · rw [if_pos e1, if_pos (by omega)]
                    · rw [if_neg e1]
                      by_cases e2 : j = b
                      · rw [if_pos e2, if_pos (by omega), e2]; rfl
                      · rw [if_neg e2, if_neg (by omega)]))
                  clear hI
                  go_wp2_with fail
                  go_roundw
                  case rel => first | exact ⟨b + 1, _, by omega, by go_num, hI9, hOx, hOw, hS, hsx⟩ | exact ⟨b + 1, _, by omega, by omega, hI9, hOx, hOw, hS, hsx⟩
                  case measure => simp [intOf]; omega
            · obtain rfl : b = i := by omega
              have hIX : Hid (Is XL b (fun j => bX hs l tl M Q b cc j)) := Lib.hid (hI.out.congr (fun j hj => if_pos hj))
              clear hI hOw
              obtain ⟨wq, hwq⟩ : ∃ x, x = wr := ⟨_, rfl⟩
              subst hwq
              go_wp2_with fail
              go_loopw [18] (fun r9 wr => ∃ (r2 : Nat) (L2 : List Int), r2 ≤ M ∧ r9 = .int .i64 r2 ∧ Mr L2 l M Q (bP cc r2) (bF hs l tl M Q b) ∧ OwnF wr gx (some ⟨gx, 0, none⟩) b XL ∧ BS w wr A TA (some ad) (some ⟨g2, 0, none⟩) n c tn tc9 b kc M Q KK c2 l tl hs L2 ∧ gx < wr.heap.size) (fun r9 _ => M - (intOf r9).toNat)
              case atStart => exact ⟨0, L, Nat.zero_le _, rfl, hMr, hOx, hS, hsx⟩
              case round =>
                clear hMr hOx hS hsx
                obtain ⟨r, L2, hr, rfl, hMr, hOx, hS, hsx⟩ := hrel
                obtain ⟨y0, y1, y2, _, _, _⟩ := Mbx.cells hS.DM
                by_cases hrt : r < M
                · have r0 : (0 : Int) ≤ r := by omega
                  have r1 : (r : Int) < M := by omega
                  obtain ⟨y, hy⟩ : ∃ y, r * Q = y := ⟨_, rfl⟩
                  obtain ⟨z, hz⟩ : ∃ z, y + cc = z := ⟨_, rfl⟩
                  have hzn : z < n := by rw [← hz, ← hy, HN.out]; exact ix_lt (by omega) hlt
                  have ey : (r : Int) * (Q : Int) = (y : Int) := by exact_mod_cast hy
                  have ez : (y : Int) + (cc : Int) = (z : Int) := by omega
                  have wy : IntKind.i64.wrap (y : Int) = (y : Int) := IntWalk.i64_in _ (by omega)
                  have wz : IntKind.i64.wrap (z : Int) = (z : Int) := IntWalk.i64_in _ (by omega)
                  have z0 : (0 : Int) ≤ z := by omega
                  have z1 : (z : Int) < n := by omega
                  obtain ⟨wq, hwq⟩ : ∃ x, x = wr := ⟨_, rfl⟩
                  subst hwq
                  have HS0 : Hid (af 0 = sumA (fun i => aop .mul (fa (D (hV hs i) r)) (bX hs l tl M Q b cc i)) 0) := Lib.hid af_zero
                  go_wp2_with fail
                  clear y0 y1 y2
                  go_loopw [19, 20, 21] (fun s9 i9 p9 wr => ∃ (i2 s : Nat), i2 ≤ b ∧ i9 = .int .i64 i2 ∧ s9 = .float .f64 s ∧ Hid (af s = sumA (fun i => aop .mul (fa (D (hV hs i) r)) (bX hs l tl M Q b cc i)) i2) ∧ s ≤ 18446744073709551615 ∧ Dr wq wr) (fun _ i9 _ _ => b - (intOf i9).toNat)
                  case atStart => exact ⟨0, 0, Nat.zero_le _, rfl, rfl, HS0, b0, Dr.refl _⟩
                  case round =>
                    clear HS0
                    obtain ⟨i, s, hi9, rfl, rfl, HSum, bs, dr⟩ := hrel
                    have hSW := hS.dr dr
                    have hOX := hOx.on_ (dr.below _)
                    by_cases hit9 : i < b
                    · have i0 : (0 : Int) ≤ i := by omega
                      have i1 : (i : Int) < b := by omega
                      obtain ⟨e, he, _, _⟩ := hSW.hL.get hit9
                      have hem : e.l.length = M := HLEN.out e (List.mem_of_getElem? he)
                      obtain ⟨ea, hE⟩ : ∃ ea, ad.add (i * 2) = ea := ⟨_, rfl⟩
                      have HVi := Lib.hid (hV_at he)
                      obtain ⟨q0, _, fv⟩ := hSW.hL.cells hit9 he hE hem
                      clear he hem
                      obtain ⟨ad1, hA1, _, hcA⟩ := fv.at_ hrt
                      obtain ⟨hcB, _⟩ := hOX.at' (k := i) (by rw [hIX.out.len]; exact hit9)
                      obtain ⟨x0, x1⟩ := fv.2.2.at_ r
                      obtain ⟨x2, x3⟩ := hIX.out.wd.at_ i
                      have bXa : (D e.l r).toNat ≤ 18446744073709551615 := by omega
                      have bY : (D XL i).toNat ≤ 18446744073709551615 := by omega
                      have HX : Hid (af (D e.l r).toNat = fa (D (hV hs i) r)) := Lib.hid (by rw [HVi.out]; rfl)
                      have HY : Hid (af (D XL i).toNat = bX hs l tl M Q b cc i) := Lib.hid (hIX.out.at_ i hit9)
                      generalize (D e.l r).toNat = X at *
                      generalize (D XL i).toNat = Y at *
                      rw [hA1] at q0
                      clear x0 x1 x2 x3 fv hA1 hSW hOX
                      go_wp2_with fail
                      replace q0 : wr.drew.cell? ea = some (.slice (some ad1) M e.c) := q0
                      replace hcA : wr.drew.cell? (ad1.add r) = some (.float .f64 X) := hcA
                      replace hcB : wr.drew.cell? ⟨gx, i, none⟩ = some (.float .f64 Y) := hcB
                      have dr2 : Dr wq wr.drew := dr.trans ⟨1, rfl⟩
                      have bz : Below wr.drew.heap.size wr.drew wr.drew := Below.refl _ _
                      have hBS := hS
                      refine wp_region_held_drew (S := fun w9 : World => w9.cell? ea = some (.slice (some ad1) M e.c) ∧ w9.cell? (ad1.add r) = some (.float .f64 X) ∧ w9.cell? ⟨gx, i, none⟩ = some (.float .f64 Y)) (by kernel_rfl) ⟨q0, hcA, hcB⟩ (fun hS => ?_)
                      generalize wr.drew = wl at hS  dr2 q0 hcA hcB bz ⊢
                      refine wpAnyH_take (i := 0) (v := ?v0_59) rfl (by kernel_rfl) (by kernel_rfl) (by kernel_rfl) (fun _ _ _ h => h) (Or.inl ⟨by rfl, ?hy0_59⟩) (by assumption) ?rest0_59
                      case hy0_59 => (intro w9 hSw; clear hSw; go_simp; try with_reducible rfl)
                      try simp only [Act.put, List.setIfInBounds_toArray, List.set_cons_zero, List.set_cons_succ, List.getElem_toArray, List.getElem_cons_zero, List.getElem_cons_succ]
                      refine wpAnyH_take (i := 1) (v := ?v1_60) rfl (by kernel_rfl) (by kernel_rfl) (by kernel_rfl) (fun _ _ _ h => h) (Or.inl ⟨by rfl, ?hy1_60⟩) (by assumption) ?rest1_60
                      case hy1_60 => (intro w9 hSw; clear hSw; go_simp; try with_reducible rfl)
                      try simp only [Act.put, List.setIfInBounds_toArray, List.set_cons_zero, List.set_cons_succ, List.getElem_toArray, List.getElem_cons_zero, List.getElem_cons_succ]
                      refine wpAnyH_take (i := 2) (v := ?v2_61) rfl (by kernel_rfl) (by kernel_rfl) (by kernel_rfl) (fun _ _ _ h => h) (Or.inl ⟨by rfl, ?hy2_61⟩) (by assumption) ?rest2_61
                      case hy2_61 => (intro w9 hSw; clear hSw; go_simp; try with_reducible rfl)
                      try simp only [Act.put, List.setIfInBounds_toArray, List.set_cons_zero, List.set_cons_succ, List.getElem_toArray, List.getElem_cons_zero, List.getElem_cons_succ]
                      refine wpAnyH_take (i := 3) (v := ?v3_62) rfl (by kernel_rfl) (by kernel_rfl) (by kernel_rfl) (fun _ _ _ h => h) (Or.inl ⟨by rfl, ?hy3_62⟩) (by assumption) ?rest3_62
                      case hy3_62 => (intro w9 hSw; clear hSw; go_simp; try with_reducible rfl)
                      try simp only [Act.put, List.setIfInBounds_toArray, List.set_cons_zero, List.set_cons_succ, List.getElem_toArray, List.getElem_cons_zero, List.getElem_cons_succ]
                      refine wpAnyH_take (i := 4) (v := ?v4_63) rfl (by kernel_rfl) (by kernel_rfl) (by kernel_rfl) (fun _ _ _ h => h) (Or.inl ⟨by rfl, ?hy4_63⟩) (by assumption) ?rest4_63
                      case hy4_63 => (intro w9 hSw; obtain ⟨m0, m1, m2⟩ := hSw; go_simp; try with_reducible rfl)
                      try simp only [Act.put, List.setIfInBounds_toArray, List.set_cons_zero, List.set_cons_succ, List.getElem_toArray, List.getElem_cons_zero, List.getElem_cons_succ]
                      refine wpAnyH_take (i := 5) (v := ?v5_64) rfl (by kernel_rfl) (by kernel_rfl) (by kernel_rfl) (fun _ _ _ h => h) (Or.inl ⟨by rfl, ?hy5_64⟩) (by assumption) ?rest5_64
                      case hy5_64 => (intro w9 hSw; clear hSw; go_simp; try with_reducible rfl)
                      try simp only [Act.put, List.setIfInBounds_toArray, List.set_cons_zero, List.set_cons_succ, List.getElem_toArray, List.getElem_cons_zero, List.getElem_cons_succ]
                      refine wpAnyH_take (i := 6) (v := ?v6_65) rfl (by kernel_rfl) (by kernel_rfl) (by kernel_rfl) (fun _ _ _ h => h) (Or.inl ⟨by rfl, ?hy6_65⟩) (by assumption) ?rest6_65
                      case hy6_65 => (intro w9 hSw; clear hSw; go_simp; try with_reducible rfl)
                      try simp only [Act.put, List.setIfInBounds_toArray, List.set_cons_zero, List.set_cons_succ, List.getElem_toArray, List.getElem_cons_zero, List.getElem_cons_succ]
                      refine wpAnyH_take (i := 7) (v := ?v7_66) rfl (by kernel_rfl) (by kernel_rfl) (by kernel_rfl) (fun _ _ _ h => h) (Or.inl ⟨by rfl, ?hy7_66⟩) (by assumption) ?rest7_66
                      case hy7_66 => (intro w9 hSw; obtain ⟨m0, m1, m2⟩ := hSw; go_simp; try with_reducible rfl)
                      try simp only [Act.put, List.setIfInBounds_toArray, List.set_cons_zero, List.set_cons_succ, List.getElem_toArray, List.getElem_cons_zero, List.getElem_cons_succ]
                      refine wpAnyH_take (i := 8) (v := ?v8_67) rfl (by kernel_rfl) (by kernel_rfl) (by kernel_rfl) (fun _ _ _ h => h) (Or.inl ⟨by rfl, ?hy8_67⟩) (by assumption) ?rest8_67
                      case hy8_67 => (intro w9 hSw; clear hSw; go_simp; try with_reducible rfl)
                      try simp only [Act.put, List.setIfInBounds_toArray, List.set_cons_zero, List.set_cons_succ, List.getElem_toArray, List.getElem_cons_zero, List.getElem_cons_succ]
                      refine wpAnyH_take (i := 9) (v := ?v9_68) rfl (by kernel_rfl) (by kernel_rfl) (by kernel_rfl) (fun _ _ _ h => h) (Or.inl ⟨by rfl, ?hy9_68⟩) (by assumption) ?rest9_68
                      case hy9_68 => (intro w9 hSw; clear hSw; go_simp; try with_reducible rfl)
                      try simp only [Act.put, List.setIfInBounds_toArray, List.set_cons_zero, List.set_cons_succ, List.getElem_toArray, List.getElem_cons_zero, List.getElem_cons_succ]
                      refine wpAnyH_take (i := 10) (v := ?v10_69) rfl (by kernel_rfl) (by kernel_rfl) (by kernel_rfl) (fun _ _ _ h => h) (Or.inl ⟨by rfl, ?hy10_69⟩) (by assumption) ?rest10_69
                      case hy10_69 => (intro w9 hSw; clear hSw; go_simp; try with_reducible rfl)
                      try simp only [Act.put, List.setIfInBounds_toArray, List.set_cons_zero, List.set_cons_succ, List.getElem_toArray, List.getElem_cons_zero, List.getElem_cons_succ]
                      refine wpAnyH_take (i := 11) (v := ?v11_70) rfl (by kernel_rfl) (by kernel_rfl) (by kernel_rfl) (fun _ _ _ h => h) (Or.inl ⟨by rfl, ?hy11_70⟩) (by assumption) ?rest11_70
                      case hy11_70 => (intro w9 hSw; obtain ⟨m0, m1, m2⟩ := hSw; go_simp; try with_reducible rfl)
                      try simp only [Act.put, List.setIfInBounds_toArray, List.set_cons_zero, List.set_cons_succ, List.getElem_toArray, List.getElem_cons_zero, List.getElem_cons_succ]
                      refine wpAnyH_ready (rs := [12]) (by kernel_rfl) (by simp) ?_
                      refine AllReadyH.cons rfl (fun K hK => ?_) AllReadyH.nil
                      refine step_arith .mul (.inr (.inr (.inl rfl))) rfl _ _ _ _ X Y rfl rfl rfl bXa bY ?_
                      intro r9 w11 hb hq1 b1 dq
                      have H1 := Lib.hid hq1
                      clear hq1 hb
                      replace dr2 := dr2.trans dq
                      have hS1 := hS
                      obtain ⟨t9, ht9⟩ := dq
                      subst ht9
                      clear hS; refine hK.out _ _ hS1 (fun hS => ?_); clear hK K
                      try simp only [Act.put, List.setIfInBounds_toArray, List.set_cons_zero, List.set_cons_succ, List.getElem_toArray, List.getElem_cons_zero, List.getElem_cons_succ]
                      refine wpAnyH_take (i := 13) (v := ?v13_71) rfl (by kernel_rfl) (by kernel_rfl) (by kernel_rfl) (fun _ _ _ h => h) (Or.inl ⟨by rfl, ?hy13_71⟩) (by assumption) ?rest13_71
                      case hy13_71 => (intro w9 hSw; clear hSw; go_simp; try with_reducible rfl)
                      try simp only [Act.put, List.setIfInBounds_toArray, List.set_cons_zero, List.set_cons_succ, List.getElem_toArray, List.getElem_cons_zero, List.getElem_cons_succ]
                      refine wpAnyH_done (by kernel_rfl) ?_ _
                      obtain ⟨r8, w12, e12, d12, h12, b12⟩ := run_add (P := Try.prog) 24 (x := s) (y := r9) bs b1 (wl.drewN t9)
                      have HK : Hid (af r8 = sumA (fun i => aop .mul (fa (D (hV hs i) r)) (bX hs l tl M Q b cc i)) (i + 1)) := Lib.hid (by rw [h12, HSum.out, H1.out, HX.out, HY.out]; rfl)
                      clear h12 HSum H1
                      go_wp2_with fail
                      go_roundw
                      case rel => first | exact ⟨i + 1, r8, by omega, by go_num, rfl, HK, b12, dr2.trans d12⟩ | exact ⟨i + 1, by omega, by omega, HK, dr2.trans d12⟩
                      case measure => simp [intOf]; omega
                    · obtain rfl : i = b := by omega
                      have HSm : Hid (af s = bS hs l tl M Q i cc r) := Lib.hid HSum.out
                      clear HSum
                      obtain ⟨ad2, hA2, _, hcB⟩ := hSW.h.at_ hzn
                      obtain ⟨x0, x1⟩ := hw5.out.at_ z
                      have bY : (D l z).toNat ≤ 18446744073709551615 := by omega
                      have HY : Hid (af (D l z).toNat = ma l Q r cc) := Lib.hid (by unfold ma; rw [hy, hz]; rfl)
                      generalize hYY : (D l z).toNat = Y at *
                      have hLN : L2.length = n := by rw [hMr.len, HN.out]
                      clear x0 x1
                      go_wp2_with fail
                      have hd9 : Dr wr wr.drew := ⟨1, rfl⟩
                      have hST := hSW.dr hd9
                      have hOT := hOX.on_ (hd9.below _)
                      clear hd9
                      clear hSW hOX hS hOx
                      have hDA := hST.DM
                      have hDO := hST.DO
                      rw [hA2] at hDA
                      have hce := hST.h.2.1.at_ (k := z) (by rw [hll.out]; exact hzn)
                      obtain ⟨ad3, hA3, _, hce⟩ := hce
                      rw [hA2] at hA3
                      injection hA3 with hA3
                      subst hA3
                      rw [hYY] at hce
                      have bz : Below wr.drew.heap.size wr.drew wr.drew := Below.refl _ _
                      have HA2 := Lib.hid hA2
                      clear hA2 hcB
                      refine wp_region_held_drew (S := fun w9 : World => Mbx w9 w.heap.size M Q (some ad2) n c ∧ Mbx w9 KK M Q (some ⟨g2, 0, none⟩) n c2 ∧ w9.cell? (ad2.add z) = some (.float .f64 Y)) (by kernel_rfl) ⟨hDA, hDO, hce⟩ (fun hS => ?_)
                      generalize wr.drew = wd at hS hST hOT hDA hDO hce bz ⊢
                      refine wpAnyH_take (i := 0) (v := ?v0_72) rfl (by kernel_rfl) (by kernel_rfl) (by kernel_rfl) (fun _ _ _ h => h) (Or.inl ⟨by rfl, ?hy0_72⟩) (by assumption) ?rest0_72
                      case hy0_72 => (intro w9 hSw; clear hSw; go_simp; try with_reducible rfl)
                      try simp only [Act.put, List.setIfInBounds_toArray, List.set_cons_zero, List.set_cons_succ, List.getElem_toArray, List.getElem_cons_zero, List.getElem_cons_succ]
                      refine wpAnyH_take (i := 1) (v := ?v1_73) rfl (by kernel_rfl) (by kernel_rfl) (by kernel_rfl) (fun _ _ _ h => h) (Or.inl ⟨by rfl, ?hy1_73⟩) (by assumption) ?rest1_73
                      case hy1_73 => (intro w9 hSw; obtain ⟨ma1, ma2, ma3⟩ := hSw; obtain ⟨y0, y1, y2, _, _, _⟩ := Mbx.cells ma1; obtain ⟨u0, u1, u2, _, _, _⟩ := Mbx.cells ma2; go_simp; try with_reducible rfl)
                      try simp only [Act.put, List.setIfInBounds_toArray, List.set_cons_zero, List.set_cons_succ, List.getElem_toArray, List.getElem_cons_zero, List.getElem_cons_succ]
                      refine wpAnyH_take (i := 2) (v := ?v2_74) rfl (by kernel_rfl) (by kernel_rfl) (by kernel_rfl) (fun _ _ _ h => h) (Or.inl ⟨by rfl, ?hy2_74⟩) (by assumption) ?rest2_74
                      case hy2_74 => (intro w9 hSw; clear hSw; go_simp; try with_reducible rfl)
                      try simp only [Act.put, List.setIfInBounds_toArray, List.set_cons_zero, List.set_cons_succ, List.getElem_toArray, List.getElem_cons_zero, List.getElem_cons_succ]
                      refine wpAnyH_take (i := 3) (v := ?v3_75) rfl (by kernel_rfl) (by kernel_rfl) (by kernel_rfl) (fun _ _ _ h => h) (Or.inl ⟨by rfl, ?hy3_75⟩) (by assumption) ?rest3_75
                      case hy3_75 => (intro w9 hSw; clear hSw; go_simp; try with_reducible rfl)
                      try simp only [Act.put, List.setIfInBounds_toArray, List.set_cons_zero, List.set_cons_succ, List.getElem_toArray, List.getElem_cons_zero, List.getElem_cons_succ]
                      refine wpAnyH_take (i := 4) (v := ?v4_76) rfl (by kernel_rfl) (by kernel_rfl) (by kernel_rfl) (fun _ _ _ h => h) (Or.inl ⟨by rfl, ?hy4_76⟩) (by assumption) ?rest4_76
                      case hy4_76 => (intro w9 hSw; obtain ⟨ma1, ma2, ma3⟩ := hSw; obtain ⟨y0, y1, y2, _, _, _⟩ := Mbx.cells ma1; obtain ⟨u0, u1, u2, _, _, _⟩ := Mbx.cells ma2; go_simp; try with_reducible rfl)
                      try simp only [Act.put, List.setIfInBounds_toArray, List.set_cons_zero, List.set_cons_succ, List.getElem_toArray, List.getElem_cons_zero, List.getElem_cons_succ]
                      refine wpAnyH_take (i := 5) (v := ?v5_77) rfl (by kernel_rfl) (by kernel_rfl) (by kernel_rfl) (fun _ _ _ h => h) (Or.inl ⟨by rfl, ?hy5_77⟩) (by assumption) ?rest5_77
                      case hy5_77 => (intro w9 hSw; clear hSw; go_simp; try with_reducible rfl)
                      try simp only [Act.put, List.setIfInBounds_toArray, List.set_cons_zero, List.set_cons_succ, List.getElem_toArray, List.getElem_cons_zero, List.getElem_cons_succ]
                      refine wpAnyH_take (i := 6) (v := ?v6_78) rfl (by kernel_rfl) (by kernel_rfl) (by kernel_rfl) (fun _ _ _ h => h) (Or.inl ⟨by rfl, ?hy6_78⟩) (by assumption) ?rest6_78
                      case hy6_78 => (intro w9 hSw; clear hSw; go_simp; try with_reducible rfl)
                      try simp only [Act.put, List.setIfInBounds_toArray, List.set_cons_zero, List.set_cons_succ, List.getElem_toArray, List.getElem_cons_zero, List.getElem_cons_succ]
                      refine wpAnyH_take (i := 7) (v := ?v7_79) rfl (by kernel_rfl) (by kernel_rfl) (by kernel_rfl) (fun _ _ _ h => h) (Or.inl ⟨by rfl, ?hy7_79⟩) (by assumption) ?rest7_79
                      case hy7_79 => (intro w9 hSw; clear hSw; go_simp; try with_reducible rfl)
                      try simp only [Act.put, List.setIfInBounds_toArray, List.set_cons_zero, List.set_cons_succ, List.getElem_toArray, List.getElem_cons_zero, List.getElem_cons_succ]
                      refine wpAnyH_take (i := 8) (v := ?v8_80) rfl (by kernel_rfl) (by kernel_rfl) (by kernel_rfl) (fun _ _ _ h => h) (Or.inl ⟨by rfl, ?hy8_80⟩) (by assumption) ?rest8_80
                      case hy8_80 => (intro w9 hSw; clear hSw; go_simp; try with_reducible rfl)
                      try simp only [Act.put, List.setIfInBounds_toArray, List.set_cons_zero, List.set_cons_succ, List.getElem_toArray, List.getElem_cons_zero, List.getElem_cons_succ]
                      refine wpAnyH_take (i := 9) (v := ?v9_81) rfl (by kernel_rfl) (by kernel_rfl) (by kernel_rfl) (fun _ _ _ h => h) (Or.inl ⟨by rfl, ?hy9_81⟩) (by assumption) ?rest9_81
                      case hy9_81 => (intro w9 hSw; obtain ⟨ma1, ma2, ma3⟩ := hSw; obtain ⟨y0, y1, y2, _, _, _⟩ := Mbx.cells ma1; obtain ⟨u0, u1, u2, _, _, _⟩ := Mbx.cells ma2; go_simp; try with_reducible rfl)
                      try simp only [Act.put, List.setIfInBounds_toArray, List.set_cons_zero, List.set_cons_succ, List.getElem_toArray, List.getElem_cons_zero, List.getElem_cons_succ]
                      refine wpAnyH_take (i := 10) (v := ?v10_82) rfl (by kernel_rfl) (by kernel_rfl) (by kernel_rfl) (fun _ _ _ h => h) (Or.inl ⟨by rfl, ?hy10_82⟩) (by assumption) ?rest10_82
                      case hy10_82 => (intro w9 hSw; clear hSw; go_simp; try with_reducible rfl)
                      try simp only [Act.put, List.setIfInBounds_toArray, List.set_cons_zero, List.set_cons_succ, List.getElem_toArray, List.getElem_cons_zero, List.getElem_cons_succ]
                      refine wpAnyH_take (i := 11) (v := ?v11_83) rfl (by kernel_rfl) (by kernel_rfl) (by kernel_rfl) (fun _ _ _ h => h) (Or.inl ⟨by rfl, ?hy11_83⟩) (by assumption) ?rest11_83
                      case hy11_83 => (intro w9 hSw; clear hSw; go_simp; try with_reducible rfl)
                      try simp only [Act.put, List.setIfInBounds_toArray, List.set_cons_zero, List.set_cons_succ, List.getElem_toArray, List.getElem_cons_zero, List.getElem_cons_succ]
                      refine wpAnyH_take (i := 12) (v := ?v12_84) rfl (by kernel_rfl) (by kernel_rfl) (by kernel_rfl) (fun _ _ _ h => h) (Or.inl ⟨by rfl, ?hy12_84⟩) (by assumption) ?rest12_84
                      case hy12_84 => (intro w9 hSw; obtain ⟨ma1, ma2, ma3⟩ := hSw; obtain ⟨y0, y1, y2, _, _, _⟩ := Mbx.cells ma1; obtain ⟨u0, u1, u2, _, _, _⟩ := Mbx.cells ma2; go_simp; try with_reducible rfl)
                      try simp only [Act.put, List.setIfInBounds_toArray, List.set_cons_zero, List.set_cons_succ, List.getElem_toArray, List.getElem_cons_zero, List.getElem_cons_succ]
                      refine wpAnyH_take (i := 13) (v := ?v13_85) rfl (by kernel_rfl) (by kernel_rfl) (by kernel_rfl) (fun _ _ _ h => h) (Or.inl ⟨by rfl, ?hy13_85⟩) (by assumption) ?rest13_85
                      case hy13_85 => (intro w9 hSw; clear hSw; go_simp; try with_reducible rfl)
                      try simp only [Act.put, List.setIfInBounds_toArray, List.set_cons_zero, List.set_cons_succ, List.getElem_toArray, List.getElem_cons_zero, List.getElem_cons_succ]
                      refine wpAnyH_take (i := 14) (v := ?v14_86) rfl (by kernel_rfl) (by kernel_rfl) (by kernel_rfl) (fun _ _ _ h => h) (Or.inl ⟨by rfl, ?hy14_86⟩) (by assumption) ?rest14_86
                      case hy14_86 => (intro w9 hSw; clear hSw; go_simp; try with_reducible rfl)
                      try simp only [Act.put, List.setIfInBounds_toArray, List.set_cons_zero, List.set_cons_succ, List.getElem_toArray, List.getElem_cons_zero, List.getElem_cons_succ]
                      refine wpAnyH_take (i := 15) (v := ?v15_87) rfl (by kernel_rfl) (by kernel_rfl) (by kernel_rfl) (fun _ _ _ h => h) (Or.inl ⟨by rfl, ?hy15_87⟩) (by assumption) ?rest15_87
                      case hy15_87 => (intro w9 hSw; clear hSw; go_simp; try with_reducible rfl)
                      try simp only [Act.put, List.setIfInBounds_toArray, List.set_cons_zero, List.set_cons_succ, List.getElem_toArray, List.getElem_cons_zero, List.getElem_cons_succ]
                      refine wpAnyH_take (i := 16) (v := ?v16_88) rfl (by kernel_rfl) (by kernel_rfl) (by kernel_rfl) (fun _ _ _ h => h) (Or.inl ⟨by rfl, ?hy16_88⟩) (by assumption) ?rest16_88
                      case hy16_88 => (intro w9 hSw; clear hSw; go_simp; try with_reducible rfl)
                      try simp only [Act.put, List.setIfInBounds_toArray, List.set_cons_zero, List.set_cons_succ, List.getElem_toArray, List.getElem_cons_zero, List.getElem_cons_succ]
                      refine wpAnyH_take (i := 17) (v := ?v17_89) rfl (by kernel_rfl) (by kernel_rfl) (by kernel_rfl) (fun _ _ _ h => h) (Or.inl ⟨by rfl, ?hy17_89⟩) (by assumption) ?rest17_89
                      case hy17_89 => (intro w9 hSw; obtain ⟨ma1, ma2, ma3⟩ := hSw; obtain ⟨y0, y1, y2, _, _, _⟩ := Mbx.cells ma1; obtain ⟨u0, u1, u2, _, _, _⟩ := Mbx.cells ma2; go_simp; try with_reducible rfl)
                      try simp only [Act.put, List.setIfInBounds_toArray, List.set_cons_zero, List.set_cons_succ, List.getElem_toArray, List.getElem_cons_zero, List.getElem_cons_succ]
                      refine wpAnyH_take (i := 18) (v := ?v18_90) rfl (by kernel_rfl) (by kernel_rfl) (by kernel_rfl) (fun _ _ _ h => h) (Or.inl ⟨by rfl, ?hy18_90⟩) (by assumption) ?rest18_90
                      case hy18_90 => (intro w9 hSw; clear hSw; go_simp; try with_reducible rfl)
                      try simp only [Act.put, List.setIfInBounds_toArray, List.set_cons_zero, List.set_cons_succ, List.getElem_toArray, List.getElem_cons_zero, List.getElem_cons_succ]
                      refine wpAnyH_ready (rs := [19]) (by kernel_rfl) (by simp) ?_
                      refine AllReadyH.cons rfl (fun K hK => ?_) AllReadyH.nil
                      refine step_arith .sub (.inr (.inl rfl)) rfl _ _ _ _ Y s rfl rfl rfl bY bs ?_
                      intro r6 w16 hb h6 b6 hdr
                      have H6 := Lib.hid h6
                      clear h6 hdr hce
                      replace hST := hST.on hb
                      replace hOT := hOT.on_ hb
                      replace hDA := hDA.on hb
                      replace hDO := hDO.on hb
                      replace bz := bz.trans (hb.mono bz.size)
                      clear hb
                      have hce9 := hST.h.2.1.at_ (k := z) (by rw [hll.out]; exact hzn)
                      rw [HA2.out] at hce9
                      obtain ⟨ad3, hA3, _, hce9⟩ := hce9
                      injection hA3 with hA3
                      subst hA3
                      rw [hYY] at hce9
                      clear hS; refine hK.out _ _ ⟨hDA, hDO, hce9⟩ (fun hS => ?_); clear hK K
                      try simp only [Act.put, List.setIfInBounds_toArray, List.set_cons_zero, List.set_cons_succ, List.getElem_toArray, List.getElem_cons_zero, List.getElem_cons_succ]
                      refine wpAnyH_take (i := 20) (v := ?v20_91) rfl (by kernel_rfl) (by kernel_rfl) (by kernel_rfl) (fun _ _ _ h => h) (Or.inl ⟨by rfl, ?hy20_91⟩) (by assumption) ?rest20_91
                      case hy20_91 => (intro w9 hSw; clear hSw; go_simp; try with_reducible rfl)
                      try simp only [Act.put, List.setIfInBounds_toArray, List.set_cons_zero, List.set_cons_succ, List.getElem_toArray, List.getElem_cons_zero, List.getElem_cons_succ]
                      obtain ⟨hy4, hy5⟩ := hST.hO.at' (k := z) (by rw [hLN]; exact hzn)
                      refine wpAnyH_ready (rs := [21]) (by kernel_rfl) (by simp) ?_
                      refine AllReadyH.cons rfl (fun K hK => ?_) AllReadyH.nil
                      go_simp
                      clear hy4 hy5 hce9
                      have hST2 := hST.put (z := z) (r := r6) HBL.out
                      have hgs : w16.grownBy (w16.setCell ⟨g2, z, none⟩ (.float .f64 r6)) (some g2) := grown_setCell (World.grownBy.refl w16 _) _ _
                      have hg2k := HBL.out.h2 _ rfl
                      simp only at hg2k
                      have hOT2 := hOT.grown_ hgs (fun a e => by injection e with e; subst e; simp; omega)
                      have hDA2 := hST2.DM
                      rw [HA2.out] at hDA2
                      have hDO2 := hST2.DO
                      clear hST
                      have hST := hST2
                      have hce9 := hST.h.2.1.at_ (k := z) (by rw [hll.out]; exact hzn)
                      rw [HA2.out] at hce9
                      obtain ⟨ad3, hA3, _, hce9⟩ := hce9
                      injection hA3 with hA3
                      subst hA3
                      rw [hYY] at hce9
                      clear hS; refine hK.out _ _ ⟨hDA2, hDO2, hce9⟩ (fun hS => ?_); clear hK K
                      try simp only [Act.put, List.setIfInBounds_toArray, List.set_cons_zero, List.set_cons_succ, List.getElem_toArray, List.getElem_cons_zero, List.getElem_cons_succ]
                      refine wpAnyH_done (by kernel_rfl) ?_ _
                      have hfe : fa (r6 : Int) = bF hs l tl M Q i r cc := by rw [fa_nat, H6.out, HY.out, HSm.out]; rfl
                      have hM9 := hMr.set (i := r) (j := cc) (x := (r6 : Int)) hrt hlt (by omega) (by omega) hfe (Q := bP cc (r + 1)) (fun a b ha hb => by unfold bP; rw [← Bool.decide_or, decide_eq_decide]; omega)
                      rw [hy, hz] at hM9
                      clear hMr hfe
                      have hsz9 := (hOT2.gt rfl).2
                      go_wp2_with fail
                      go_roundw
                      case rel => first | exact ⟨r + 1, _, by omega, by go_num, hM9, hOT2, hST, hsz9⟩ | exact ⟨r + 1, _, by omega, by omega, hM9, hOT2, hST, hsz9⟩
                      case measure => simp [intOf]; omega
                · obtain rfl : r = M := by omega
                  have hM9 := hMr.congr (Q := bP (cc + 1) 0) (fun a b ha hb => by unfold bP; rw [decide_eq_decide]; omega)
                  clear hMr
                  go_wp2_with fail
                  go_roundw
                  case rel => first | exact ⟨cc + 1, L2, by omega, by go_num, hM9, hS, by omega⟩ | exact ⟨cc + 1, L2, by omega, by omega, hM9, hS, by omega⟩
                  case measure => simp [intOf]; omega
    · obtain rfl : cc = Q := by omega
      obtain ⟨v0, v1, v2, v3, v4, v5⟩ := Mbx.cells hS.DO
      obtain ⟨z0, z1, z2, z3, z4, z5⟩ := Mbx.cells hS.DZ
      have DZ9 := Mbx.put hS.DZ M cc (some ⟨g2, 0, none⟩) n c2
      obtain ⟨c00, c11, c22, _, _, _⟩ := Mbx.cells DZ9
      have hg2k := HBL.out.h2 _ rfl
      simp only at hg2k
      have hO9 := hS.hO.grown_ (row := some (w.heap.size + 1 + 1)) (w' := ((wr.setCell ⟨w.heap.size + 1 + 1, 0, none⟩ (.int .i64 M)).setCell ⟨w.heap.size + 1 + 1, 1, none⟩ (.int .i64 cc)).setCell ⟨w.heap.size + 1 + 1, 2, none⟩ (.slice (some ⟨g2, 0, none⟩) n c2)) (grown_setCell (grown_setCell (grown_setCell (World.grownBy.refl wr _) 0 _) 1 _) 2 _) (fun a e => by injection e with e; subst e; simp; omega)
      have bz9 := ((hS.bz.setCell (p := ⟨w.heap.size + 1 + 1, 0, none⟩) (by simp; omega) (.int .i64 M)).setCell (p := ⟨w.heap.size + 1 + 1, 1, none⟩) (by simp; omega) (.int .i64 cc)).setCell (p := ⟨w.heap.size + 1 + 1, 2, none⟩) (by simp; omega) (.slice (some ⟨g2, 0, none⟩) n c2)
      have hI := hMr.is
      rw [← HN.out] at hI
      go_wp2_with fail
      refine bodyPost_ret (v := mV M cc (some ⟨g2, 0, none⟩) n c2) (by simp [results, Try.results26, go_sem, c00, c11, c22]) rfl ?_
      exact ⟨_, c2, L, rfl, hO9, hI, bz9⟩

set_option maxRecDepth 100000 in
set_option maxHeartbeats 8000000 in
theorem rBlock_zero {w : World} {A TA LA : Option Addr} {n c tn tc9 k kc M : Nat} {l : List Int} {F : Nat → Option Nat} (h : FL w A n c l) (hn : n = M * 0) :
    Calls Try.prog 26 #[mV M 0 A n c, mV k k TA tn tc9, .slice LA k kc] w (MatQ2 w M 0 n F) := by
  have hn0 : n = 0 := by rw [hn, Nat.mul_zero]
  have hn1 := Lib.hid hn0
  have hll := Lib.hid h.1
  clear hn
  have bz := (((Below.refl _ w).alloc (Nat.le_refl _) (.cells #[.int .i64 M, .int .i64 0, .slice A n c] 36)).alloc (by simp) (.cells #[.int .i64 k, .int .i64 k, .slice TA tn tc9] 36)).alloc (by simp; omega) (.cells #[.int .i64 0, .int .i64 0, .slice none 0 0] 36)
  have DM := ((Blk.new w [.int .i64 M, .int .i64 0, .slice A n c] 36).alloc (.cells #[.int .i64 k, .int .i64 k, .slice TA tn tc9] 36)).alloc (.cells #[.int .i64 0, .int .i64 0, .slice none 0 0] 36)
  have DZ := Blk.new ((w.alloc (.cells #[.int .i64 M, .int .i64 0, .slice A n c] 36)).alloc (.cells #[.int .i64 k, .int .i64 k, .slice TA tn tc9] 36)) [.int .i64 0, .int .i64 0, .slice none 0 0] 36
  simp only [World.size_alloc] at DZ
  replace h := h.on bz
  clear hn0
  go_enter Try.func26, Try.ntmps26
  go_upto_region 2 with fail
  have hsz : (((w.alloc (.cells #[.int .i64 M, .int .i64 0, .slice A n c] 36)).alloc (.cells #[.int .i64 k, .int .i64 k, .slice TA tn tc9] 36)).alloc (.cells #[.int .i64 0, .int .i64 0, .slice none 0 0] 36)).heap.size = w.heap.size + 1 + 1 + 1 := by simp
  generalize (((w.alloc (.cells #[.int .i64 M, .int .i64 0, .slice A n c] 36)).alloc (.cells #[.int .i64 k, .int .i64 k, .slice TA tn tc9] 36)).alloc (.cells #[.int .i64 0, .int .i64 0, .slice none 0 0] 36)) = W0 at h DM DZ bz hsz ⊢
  obtain ⟨y0, y1, y2, _, _, _⟩ := Mbx.cells DM
  have pcp := rCopy_any (R := (M : Int)) (C := (0 : Int)) h (by rw [hn1.out]; omega)
  go_wp2_with fail
  with_reducible refine (pcp).mono ?_
  rintro e w1 ⟨A2, c2, rfl, hO, hb, hgt⟩
  clear y0 y1 y2 pcp
  replace h := h.on hb
  replace DM := DM.on hb
  replace DZ := DZ.on hb
  replace bz := bz.trans (hb.mono bz.size)
  have hs1 := hb.size
  clear hb
  replace hO := hO.less (B' := w.heap.size) (by omega)
  have DO := Blk.new w1 [.int .i64 M, .int .i64 0, .slice A2 n c2] 36
  have hbA := (Below.refl _ w1).alloc (Nat.le_refl _) (.cells #[.int .i64 M, .int .i64 0, .slice A2 n c2] 36)
  replace h := h.on hbA
  replace DM := DM.on hbA
  replace DZ := DZ.on hbA
  replace hO := hO.alloc_ (.cells #[.int .i64 M, .int .i64 0, .slice A2 n c2] 36)
  clear hbA
  replace bz := bz.alloc bz.size (.cells #[.int .i64 M, .int .i64 0, .slice A2 n c2] 36)
  obtain ⟨y0, y1, y2, _, _, _⟩ := Mbx.cells DM
  obtain ⟨v0, v1, v2, v3, v4, v5⟩ := Mbx.cells DO
  obtain ⟨z0, z1, z2, z3, z4, z5⟩ := Mbx.cells DZ
  have DZ9 := Mbx.put DZ M 0 A2 n c2
  obtain ⟨c00, c11, c22, _, _, _⟩ := Mbx.cells DZ9
  have hO9 := hO.grown_ (row := some (w.heap.size + 1 + 1)) (w' := (((w1.alloc (.cells #[.int .i64 M, .int .i64 0, .slice A2 n c2] 36)).setCell ⟨w.heap.size + 1 + 1, 0, none⟩ (.int .i64 M)).setCell ⟨w.heap.size + 1 + 1, 1, none⟩ (.int .i64 0)).setCell ⟨w.heap.size + 1 + 1, 2, none⟩ (.slice A2 n c2)) (grown_setCell (grown_setCell (grown_setCell (World.grownBy.refl (w1.alloc (.cells #[.int .i64 M, .int .i64 0, .slice A2 n c2] 36)) _) 0 _) 1 _) 2 _) (fun a e => by have := hgt a e; simp; omega)
  have bz9 := ((bz.setCell (p := ⟨w.heap.size + 1 + 1, 0, none⟩) (by simp; omega) (.int .i64 M)).setCell (p := ⟨w.heap.size + 1 + 1, 1, none⟩) (by simp; omega) (.int .i64 0)).setCell (p := ⟨w.heap.size + 1 + 1, 2, none⟩) (by simp; omega) (.slice A2 n c2)
  go_wp2_with fail
  go_loopw [9] (fun i wr => i = .int .i64 0 ∧ wr = (w1.alloc (.cells #[.int .i64 M, .int .i64 0, .slice A2 n c2] 36))) (fun i _ => 0)
  case atStart => exact ⟨rfl, rfl⟩
  case round =>
    obtain ⟨rfl, rfl⟩ := hrel
    go_wp2_with fail
    refine bodyPost_ret (v := mV M 0 A2 n c2) (by simp [results, Try.results26, go_sem, c00, c11, c22]) rfl ?_
    exact ⟨A2, c2, l, rfl, hO9, ⟨hll.out, h.2.2, fun k hk => by rw [hn1.out] at hk; omega⟩, bz9⟩
end Go.Proofs.Ytcdbjlmegkcaiaa
