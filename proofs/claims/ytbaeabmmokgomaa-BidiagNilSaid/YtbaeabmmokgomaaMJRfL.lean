/-
  Layer 9, walks: rows, and columns, reflected, by the reference. (Written by wip/tools/gen_rfl.py.)
-/
import Derived.Test.YtbaeabmmokgomaaMJRfJ
namespace Go.Proofs.Ytbaeabmmokgomaa
open Go.RowKit Go.Bw
set_option linter.unusedVariables false
set_option linter.unusedSimpArgs false
attribute [local go_sem] run_store_float

/-- a matrix in new memory -/
def MatQ (w : World) (R C : Int) (n : Nat) (F : Nat → Option Nat) (e : Ending) (w' : World) : Prop := ∃ A2 c2 L, e = .returned (mV R C A2 n c2) ∧ OwnF w' w.heap.size A2 c2 L ∧ Is L n F ∧ Below w.heap.size w w'

set_option maxRecDepth 100000 in
set_option maxHeartbeats 16000000 in
theorem rLeft_any {w : World} {A VA : Option Addr} {M q n c m vc t p f : Nat} {l v : List Int} (h : FL w A n c l) (hv : FL w VA m vc v) (ht : t ≤ 18446744073709551615) (hM : M ≤ 512) (hq : q ≤ 512) (hn : n = M * q) (hm : 0 < m) (hp : p + m ≤ M) (hf : f ≤ q) (hvb : ∀ a, VA = some a → a.block < w.heap.size) (hab : 0 < n → ∀ a, A = some a → a.block < w.heap.size) :
    Calls Try.prog 42 #[mV M q A n c, .int .i64 p, .int .i64 f, rV VA m vc t] w (MatQ w M q n (tg (lP (eqA (af t) (some 0)) p m f (q - f)) (lF l v q p m (af t)) l q)) := by
  have hmx := hv.max
  have hn1 := h.max
  have n4 : n ≤ 262144 := by rw [hn]; exact Nat.le_trans (Nat.mul_le_mul hM hq) (by decide)
  have hll := h.1
  have HN := Lib.hid hn
  clear hn
  have bz := (((Below.refl _ w).alloc (Nat.le_refl _) (.cells #[.int .i64 (M : Int), .int .i64 (q : Int), .slice A n c] 24)).alloc (by simp) (.cells #[.slice VA m vc, .float .f64 t] 51)).alloc (by simp; omega) (.cells #[.int .i64 0, .int .i64 0, .slice none 0 0] 24)
  have DM := ((Blk.new w [.int .i64 (M : Int), .int .i64 (q : Int), .slice A n c] 24).alloc (.cells #[.slice VA m vc, .float .f64 t] 51)).alloc (.cells #[.int .i64 0, .int .i64 0, .slice none 0 0] 24)
  have DH := (Blk.new (w.alloc (.cells #[.int .i64 (M : Int), .int .i64 (q : Int), .slice A n c] 24)) [.slice VA m vc, .float .f64 t] 51).alloc (.cells #[.int .i64 0, .int .i64 0, .slice none 0 0] 24)
  have DZ := Blk.new ((w.alloc (.cells #[.int .i64 (M : Int), .int .i64 (q : Int), .slice A n c] 24)).alloc (.cells #[.slice VA m vc, .float .f64 t] 51)) [.int .i64 0, .int .i64 0, .slice none 0 0] 24
  have hsz : (((w.alloc (.cells #[.int .i64 (M : Int), .int .i64 (q : Int), .slice A n c] 24)).alloc (.cells #[.slice VA m vc, .float .f64 t] 51)).alloc (.cells #[.int .i64 0, .int .i64 0, .slice none 0 0] 24)).heap.size = w.heap.size + 1 + 1 + 1 := by simp
  simp only [World.size_alloc] at DH DZ
  replace h := h.on bz
  replace hv := hv.on bz
  have p0 : (0 : Int) ≤ p := by omega
  have f0 : (0 : Int) ≤ f := by omega
  have m0 : (0 : Int) < m := by omega
  have b0 : (0 : Nat) ≤ 18446744073709551615 := by omega
  have HZ : Hid (eqA (af t) (some 0) = (FloatKind.f64.format.order t 0 == some .eq)) := Lib.hid (by rw [← af_zero, eq_is ht b0])
  go_enter Try.func42, Try.ntmps42
  go_upto_region 1 with fail
  generalize (((w.alloc (.cells #[.int .i64 (M : Int), .int .i64 (q : Int), .slice A n c] 24)).alloc (.cells #[.slice VA m vc, .float .f64 t] 51)).alloc (.cells #[.int .i64 0, .int .i64 0, .slice none 0 0] 24)) = W0 at h hv DM DH DZ bz hsz ⊢
  have pcp := rCopy_any (R := (M : Int)) (C := (q : Int)) h (by omega)
  obtain ⟨y0, y1, y2, y3, y4, y5⟩ := Mbx.cells DM
  obtain ⟨u0, u1, u2, u3⟩ := Rbx.cells DH
  go_wp2_with fail
  with_reducible refine (pcp).mono ?_
  rintro e w1 ⟨A2, c2, rfl, hO, hb, hgt⟩
  clear y0 y1 y2 y3 y4 y5 u0 u1 u2 u3 pcp
  replace h := h.on hb
  replace hv := hv.on hb
  replace DM := DM.on hb
  replace DH := DH.on hb
  replace DZ := DZ.on hb
  replace bz := bz.trans (hb.mono bz.size)
  have hs1 := hb.size
  clear hb
  replace hO := hO.less (B' := w.heap.size) (by omega)
  have hgX : ∀ a, A2 = some a → a.block < w1.heap.size := fun a e => (hO.gt e).2
  have DK := Blk.new w1 [.int .i64 M, .int .i64 q, .slice A2 n c2] 24
  have hbA := (Below.refl _ w1).alloc (Nat.le_refl _) (.cells #[.int .i64 M, .int .i64 q, .slice A2 n c2] 24)
  replace h := h.on hbA
  replace hv := hv.on hbA
  replace DM := DM.on hbA
  replace DH := DH.on hbA
  replace DZ := DZ.on hbA
  replace hO := hO.alloc_ (.cells #[.int .i64 M, .int .i64 q, .slice A2 n c2] 24)
  clear hbA
  replace bz := bz.alloc bz.size (.cells #[.int .i64 M, .int .i64 q, .slice A2 n c2] 24)
  have hVA : ∀ a, VA = some a → ∀ b, A2 = some b → a.block ≠ b.block := fun a e b e2 => by have := hvb a e; have := hgt b e2; omega
  have hAA : 0 < n → ∀ a, A = some a → ∀ b, A2 = some b → a.block ≠ b.block := fun h0 a e b e2 => by have := hab h0 a e; have := hgt b e2; omega
  have hgt2 : ∀ b, A2 = some b → w.heap.size + 1 + 1 + 1 ≤ b.block := fun b e => by have := hgt b e; omega
  obtain ⟨KK, hKK⟩ : ∃ KK, w1.heap.size = KK := ⟨_, rfl⟩
  rw [hKK] at DK hgX
  have hKs : w.heap.size + 1 + 1 + 1 ≤ KK := by omega
  have HKK := Lib.hid hKK
  obtain ⟨y0, y1, y2, y3, y4, y5⟩ := Mbx.cells DM
  obtain ⟨u0, u1, u2, u3⟩ := Rbx.cells DH
  obtain ⟨k0, k1, k2, k3, k4, k5⟩ := Mbx.cells DK
  cases cz : (FloatKind.f64.format.order t 0 == some .eq)
  · rw [cz] at HZ
    go_wp2_with fail
    clear y0 y1 y2 y3 y4 y5 u0 u1 u2 u3 k0 k1 k2 k3 k4 k5
    generalize (w1.alloc (.cells #[.int .i64 M, .int .i64 q, .slice A2 n c2] 24)) = w5 at h hv DM DH DZ DK hO bz ⊢
    have hMr : Mr l l M q (lP (eqA (af t) (some 0)) p m f 0) (lF l v q p m (af t)) := Mr.start (by rw [hll, HN.out]) h.2.2 (fun a b _ _ => by unfold lP; simp <;> omega)
    have hm5 : m ≤ 512 := by omega
    go_loopw [10, 11, 12, 13, 14, 15] (fun i i2 i3 i4 i5 i6 wr => ∃ (k : Nat) (L : List Int), k ≤ q - f ∧ i = .int .i64 ((f + k : Nat) : Int) ∧ Mr L l M q (lP (eqA (af t) (some 0)) p m f k) (lF l v q p m (af t)) ∧ OwnF wr w.heap.size A2 c2 L ∧ FL wr A n c l ∧ FL wr VA m vc v ∧ Mbx wr w.heap.size M q A n c ∧ Rbx wr (w.heap.size + 1) VA m vc t ∧ Mbx wr (w.heap.size + 1 + 1) 0 0 none 0 0 ∧ Mbx wr KK M q A2 n c2 ∧ Below w.heap.size w wr) (fun i _ _ _ _ _ _ => q - (intOf i).toNat)
    case atStart => exact ⟨0, l, Nat.zero_le _, by simp, hMr, hO, h, hv, DM, DH, DZ, DK, bz⟩
    case round =>
      clear hMr hO hv DM DH DZ DK bz h
      obtain ⟨k, L, hk, rfl, hMr, hO, h, hv, DM, DH, DZ, DK, bz⟩ := hrel
      obtain ⟨kk, hkk⟩ : ∃ kk, f + k = kk := ⟨_, rfl⟩
      rw [hkk]
      have kk0 : (0 : Int) ≤ kk := by omega
      by_cases hlt : k < q - f
      · have kk1 : (kk : Int) < (q : Int) := by omega
        have hML := hMr.len
        have hLn : L.length = n := by rw [hML, HN.out]
        have hq0 : 0 < q := by omega
        obtain ⟨y0, y1, y2, y3, y4, y5⟩ := Mbx.cells DM
        obtain ⟨u0, u1, u2, u3⟩ := Rbx.cells DH
        have hn0 : 0 < n := by rw [HN.out]; exact Nat.mul_pos (by omega) hq0
        obtain ⟨g2, hA2, _, _⟩ := hO.form (by rw [hLn]; exact hn0)
        go_wp2_with fail
        clear y0 y1 y2 y3 y4 y5 u0 u1 u2 u3
        obtain ⟨wo, hwo⟩ : ∃ x, x = wr := ⟨_, rfl⟩
        subst hwo
        have HW0 : Hid (af 0 = sumA (fun i => aop .mul (fa (D v i)) ((fun i => ma l q (p + i) kk) i)) 0) := Lib.hid af_zero
        go_loopw [11, 12, 13] (fun acc i i3 wr => ∃ (j r : Nat), j ≤ m ∧ i = .int .i64 j ∧ acc = .float .f64 r ∧ Hid (af r = sumA (fun i => aop .mul (fa (D v i)) ((fun i => ma l q (p + i) kk) i)) j) ∧ r ≤ 18446744073709551615 ∧ Dr wo wr) (fun _ i _ _ => m - (intOf i).toNat)
        case atStart => exact ⟨0, 0, Nat.zero_le _, rfl, rfl, HW0, b0, Dr.refl _⟩
        case round =>
          clear HW0
          obtain ⟨j, r, hj, rfl, rfl, HN2, br, dr⟩ := hrel
          have hb2 := dr.below wo.heap.size
          have DM2 := DM.on hb2
          have DH2 := DH.on hb2
          obtain ⟨y0, y1, y2, y3, y4, y5⟩ := Mbx.cells DM2
          obtain ⟨u0, u1, u2, u3⟩ := Rbx.cells DH2
          by_cases hjt : j < m
          · have h2 := h.on hb2
            obtain ⟨pj, hpj⟩ : ∃ pj, p + j = pj := ⟨_, rfl⟩
            obtain ⟨y, hy⟩ : ∃ y, pj * q = y := ⟨_, rfl⟩
            obtain ⟨z, hz⟩ : ∃ z, y + kk = z := ⟨_, rfl⟩
            have hzn : z < n := by rw [← hz, ← hy, HN.out]; exact ix_lt (by omega) (by omega)
            have epj : (p : Int) + (j : Int) = (pj : Int) := by omega
            have ey : (pj : Int) * (q : Int) = (y : Int) := by exact_mod_cast hy
            have ez : (y : Int) + (kk : Int) = (z : Int) := by omega
            have wpj : IntKind.i64.wrap (pj : Int) = (pj : Int) := IntWalk.i64_in _ (by omega)
            have wy : IntKind.i64.wrap (y : Int) = (y : Int) := IntWalk.i64_in _ (by omega)
            have wz : IntKind.i64.wrap (z : Int) = (z : Int) := IntWalk.i64_in _ (by omega)
            have z0 : (0 : Int) ≤ z := by omega
            have z1 : (z : Int) < n := by omega
            have j0 : (0 : Int) ≤ j := by omega
            have j1 : (j : Int) < m := by omega
            have hv2 := hv.on hb2
            obtain ⟨adA, hA, _, hcA⟩ := h2.at_ hzn
            obtain ⟨adV, hV, _, hcV⟩ := hv2.at_ hjt
            have hm_ : fa (D l z) = (fun i => ma l q (p + i) kk) j := by show _ = fa (D l _); congr 2; rw [← hz, ← hy, ← hpj]
            obtain ⟨x0, x1⟩ := h2.2.2.at_ z
            obtain ⟨x2, x3⟩ := hv2.2.2.at_ j
            have bA : (D l z).toNat ≤ 18446744073709551615 := by omega
            have bV : (D v j).toNat ≤ 18446744073709551615 := by omega
            have HAz : Hid (af (D l z).toNat = (fun i => ma l q (p + i) kk) j) := Lib.hid hm_
            have HVj : Hid (af (D v j).toNat = fa (D v j)) := Lib.hid rfl
            generalize (D l z).toNat = YA at *
            generalize (D v j).toNat = YV at *
            subst hA
            subst hV
            clear hm_ x0 x1 x2 x3
            go_wp2_with fail
            clear y0 y1 y2 y3 y4 y5 u0 u1 u2 u3
            replace DM2 := DM2.drew
            replace DH2 := DH2.drew
            replace hcA : wr.drew.cell? (adA.add z) = some (.float .f64 YA) := hcA
            replace hcV : wr.drew.cell? (adV.add j) = some (.float .f64 YV) := hcV
            replace dr : Dr wo wr.drew := dr.trans ⟨1, rfl⟩
            have bz : Below wr.drew.heap.size wr.drew wr.drew := Below.refl _ _
            refine wp_region_held_drew (S := fun w9 : World => Mbx w9 w.heap.size M q (some adA) n c ∧ Rbx w9 (w.heap.size + 1) (some adV) m vc t ∧ w9.cell? (adA.add z) = some (.float .f64 YA) ∧ w9.cell? (adV.add j) = some (.float .f64 YV)) (by kernel_rfl) ⟨DM2, DH2, hcA, hcV⟩ (fun hS => ?_)
            generalize wr.drew = wl at hS DM2 DH2 dr hcA hcV bz ⊢
            refine wpAnyH_take (i := 0) (v := ?v0_1) rfl (by kernel_rfl) (by kernel_rfl) (by kernel_rfl) (fun _ _ _ h => h) (Or.inl ⟨by rfl, ?hy0_1⟩) (by assumption) ?rest0_1
            case hy0_1 => (intro w9 hSw; clear hSw; go_simp; try with_reducible rfl)
            try simp only [Act.put, List.setIfInBounds_toArray, List.set_cons_zero, List.set_cons_succ, List.getElem_toArray, List.getElem_cons_zero, List.getElem_cons_succ]
            refine wpAnyH_take (i := 1) (v := ?v1_2) rfl (by kernel_rfl) (by kernel_rfl) (by kernel_rfl) (fun _ _ _ h => h) (Or.inl ⟨by rfl, ?hy1_2⟩) (by assumption) ?rest1_2
            case hy1_2 => (intro w9 hSw; obtain ⟨ma1, ma2, ma3, ma4⟩ := hSw; obtain ⟨y0, y1, y2, _, _, _⟩ := Mbx.cells ma1; obtain ⟨u0, u1, _, _⟩ := Rbx.cells ma2; go_simp; try with_reducible rfl)
            try simp only [Act.put, List.setIfInBounds_toArray, List.set_cons_zero, List.set_cons_succ, List.getElem_toArray, List.getElem_cons_zero, List.getElem_cons_succ]
            refine wpAnyH_take (i := 2) (v := ?v2_3) rfl (by kernel_rfl) (by kernel_rfl) (by kernel_rfl) (fun _ _ _ h => h) (Or.inl ⟨by rfl, ?hy2_3⟩) (by assumption) ?rest2_3
            case hy2_3 => (intro w9 hSw; clear hSw; go_simp; try with_reducible rfl)
            try simp only [Act.put, List.setIfInBounds_toArray, List.set_cons_zero, List.set_cons_succ, List.getElem_toArray, List.getElem_cons_zero, List.getElem_cons_succ]
            refine wpAnyH_take (i := 3) (v := ?v3_4) rfl (by kernel_rfl) (by kernel_rfl) (by kernel_rfl) (fun _ _ _ h => h) (Or.inl ⟨by rfl, ?hy3_4⟩) (by assumption) ?rest3_4
            case hy3_4 => (intro w9 hSw; clear hSw; go_simp; try with_reducible rfl)
            try simp only [Act.put, List.setIfInBounds_toArray, List.set_cons_zero, List.set_cons_succ, List.getElem_toArray, List.getElem_cons_zero, List.getElem_cons_succ]
            refine wpAnyH_take (i := 4) (v := ?v4_5) rfl (by kernel_rfl) (by kernel_rfl) (by kernel_rfl) (fun _ _ _ h => h) (Or.inl ⟨by rfl, ?hy4_5⟩) (by assumption) ?rest4_5
            case hy4_5 => (intro w9 hSw; obtain ⟨ma1, ma2, ma3, ma4⟩ := hSw; obtain ⟨y0, y1, y2, _, _, _⟩ := Mbx.cells ma1; obtain ⟨u0, u1, _, _⟩ := Rbx.cells ma2; go_simp; try with_reducible rfl)
            try simp only [Act.put, List.setIfInBounds_toArray, List.set_cons_zero, List.set_cons_succ, List.getElem_toArray, List.getElem_cons_zero, List.getElem_cons_succ]
            refine wpAnyH_take (i := 5) (v := ?v5_6) rfl (by kernel_rfl) (by kernel_rfl) (by kernel_rfl) (fun _ _ _ h => h) (Or.inl ⟨by rfl, ?hy5_6⟩) (by assumption) ?rest5_6
            case hy5_6 => (intro w9 hSw; clear hSw; go_simp; try with_reducible rfl)
            try simp only [Act.put, List.setIfInBounds_toArray, List.set_cons_zero, List.set_cons_succ, List.getElem_toArray, List.getElem_cons_zero, List.getElem_cons_succ]
            refine wpAnyH_take (i := 6) (v := ?v6_7) rfl (by kernel_rfl) (by kernel_rfl) (by kernel_rfl) (fun _ _ _ h => h) (Or.inl ⟨by rfl, ?hy6_7⟩) (by assumption) ?rest6_7
            case hy6_7 => (intro w9 hSw; obtain ⟨ma1, ma2, ma3, ma4⟩ := hSw; obtain ⟨y0, y1, y2, _, _, _⟩ := Mbx.cells ma1; obtain ⟨u0, u1, _, _⟩ := Rbx.cells ma2; go_simp; try with_reducible rfl)
            try simp only [Act.put, List.setIfInBounds_toArray, List.set_cons_zero, List.set_cons_succ, List.getElem_toArray, List.getElem_cons_zero, List.getElem_cons_succ]
            refine wpAnyH_take (i := 7) (v := ?v7_8) rfl (by kernel_rfl) (by kernel_rfl) (by kernel_rfl) (fun _ _ _ h => h) (Or.inl ⟨by rfl, ?hy7_8⟩) (by assumption) ?rest7_8
            case hy7_8 => (intro w9 hSw; clear hSw; go_simp; try with_reducible rfl)
            try simp only [Act.put, List.setIfInBounds_toArray, List.set_cons_zero, List.set_cons_succ, List.getElem_toArray, List.getElem_cons_zero, List.getElem_cons_succ]
            refine wpAnyH_take (i := 8) (v := ?v8_9) rfl (by kernel_rfl) (by kernel_rfl) (by kernel_rfl) (fun _ _ _ h => h) (Or.inl ⟨by rfl, ?hy8_9⟩) (by assumption) ?rest8_9
            case hy8_9 => (intro w9 hSw; clear hSw; go_simp; try with_reducible rfl)
            try simp only [Act.put, List.setIfInBounds_toArray, List.set_cons_zero, List.set_cons_succ, List.getElem_toArray, List.getElem_cons_zero, List.getElem_cons_succ]
            refine wpAnyH_take (i := 9) (v := ?v9_10) rfl (by kernel_rfl) (by kernel_rfl) (by kernel_rfl) (fun _ _ _ h => h) (Or.inl ⟨by rfl, ?hy9_10⟩) (by assumption) ?rest9_10
            case hy9_10 => (intro w9 hSw; clear hSw; go_simp; try with_reducible rfl)
            try simp only [Act.put, List.setIfInBounds_toArray, List.set_cons_zero, List.set_cons_succ, List.getElem_toArray, List.getElem_cons_zero, List.getElem_cons_succ]
            refine wpAnyH_take (i := 10) (v := ?v10_11) rfl (by kernel_rfl) (by kernel_rfl) (by kernel_rfl) (fun _ _ _ h => h) (Or.inl ⟨by rfl, ?hy10_11⟩) (by assumption) ?rest10_11
            case hy10_11 => (intro w9 hSw; clear hSw; go_simp; try with_reducible rfl)
            try simp only [Act.put, List.setIfInBounds_toArray, List.set_cons_zero, List.set_cons_succ, List.getElem_toArray, List.getElem_cons_zero, List.getElem_cons_succ]
            refine wpAnyH_take (i := 11) (v := ?v11_12) rfl (by kernel_rfl) (by kernel_rfl) (by kernel_rfl) (fun _ _ _ h => h) (Or.inl ⟨by rfl, ?hy11_12⟩) (by assumption) ?rest11_12
            case hy11_12 => (intro w9 hSw; obtain ⟨ma1, ma2, ma3, ma4⟩ := hSw; obtain ⟨y0, y1, y2, _, _, _⟩ := Mbx.cells ma1; obtain ⟨u0, u1, _, _⟩ := Rbx.cells ma2; go_simp; try with_reducible rfl)
            try simp only [Act.put, List.setIfInBounds_toArray, List.set_cons_zero, List.set_cons_succ, List.getElem_toArray, List.getElem_cons_zero, List.getElem_cons_succ]
            refine wpAnyH_take (i := 12) (v := ?v12_13) rfl (by kernel_rfl) (by kernel_rfl) (by kernel_rfl) (fun _ _ _ h => h) (Or.inl ⟨by rfl, ?hy12_13⟩) (by assumption) ?rest12_13
            case hy12_13 => (intro w9 hSw; clear hSw; go_simp; try with_reducible rfl)
            try simp only [Act.put, List.setIfInBounds_toArray, List.set_cons_zero, List.set_cons_succ, List.getElem_toArray, List.getElem_cons_zero, List.getElem_cons_succ]
            refine wpAnyH_take (i := 13) (v := ?v13_14) rfl (by kernel_rfl) (by kernel_rfl) (by kernel_rfl) (fun _ _ _ h => h) (Or.inl ⟨by rfl, ?hy13_14⟩) (by assumption) ?rest13_14
            case hy13_14 => (intro w9 hSw; clear hSw; go_simp; try with_reducible rfl)
            try simp only [Act.put, List.setIfInBounds_toArray, List.set_cons_zero, List.set_cons_succ, List.getElem_toArray, List.getElem_cons_zero, List.getElem_cons_succ]
            refine wpAnyH_take (i := 14) (v := ?v14_15) rfl (by kernel_rfl) (by kernel_rfl) (by kernel_rfl) (fun _ _ _ h => h) (Or.inl ⟨by rfl, ?hy14_15⟩) (by assumption) ?rest14_15
            case hy14_15 => (intro w9 hSw; clear hSw; go_simp; try with_reducible rfl)
            try simp only [Act.put, List.setIfInBounds_toArray, List.set_cons_zero, List.set_cons_succ, List.getElem_toArray, List.getElem_cons_zero, List.getElem_cons_succ]
            refine wpAnyH_take (i := 15) (v := ?v15_16) rfl (by kernel_rfl) (by kernel_rfl) (by kernel_rfl) (fun _ _ _ h => h) (Or.inl ⟨by rfl, ?hy15_16⟩) (by assumption) ?rest15_16
            case hy15_16 => (intro w9 hSw; clear hSw; go_simp; try with_reducible rfl)
            try simp only [Act.put, List.setIfInBounds_toArray, List.set_cons_zero, List.set_cons_succ, List.getElem_toArray, List.getElem_cons_zero, List.getElem_cons_succ]
            refine wpAnyH_take (i := 16) (v := ?v16_17) rfl (by kernel_rfl) (by kernel_rfl) (by kernel_rfl) (fun _ _ _ h => h) (Or.inl ⟨by rfl, ?hy16_17⟩) (by assumption) ?rest16_17
            case hy16_17 => (intro w9 hSw; obtain ⟨ma1, ma2, ma3, ma4⟩ := hSw; obtain ⟨y0, y1, y2, _, _, _⟩ := Mbx.cells ma1; obtain ⟨u0, u1, _, _⟩ := Rbx.cells ma2; go_simp; try with_reducible rfl)
            try simp only [Act.put, List.setIfInBounds_toArray, List.set_cons_zero, List.set_cons_succ, List.getElem_toArray, List.getElem_cons_zero, List.getElem_cons_succ]
            refine wpAnyH_ready (rs := [17]) (by kernel_rfl) (by simp) ?_
            refine AllReadyH.cons rfl (fun K hK => ?_) AllReadyH.nil
            refine step_arith .mul (.inr (.inr (.inl rfl))) rfl _ _ _ _ YV YA rfl rfl rfl bV bA ?_
            intro r1 w11 hb hq1 b1 dq
            have H1 := Lib.hid hq1
            clear hq1 hb
            replace dr := dr.trans dq
            have hS1 := hS
            obtain ⟨t9, ht9⟩ := dq
            subst ht9
            clear hS; refine hK.out _ _ hS1 (fun hS => ?_); clear hK K
            try simp only [Act.put, List.setIfInBounds_toArray, List.set_cons_zero, List.set_cons_succ, List.getElem_toArray, List.getElem_cons_zero, List.getElem_cons_succ]
            refine wpAnyH_take (i := 18) (v := ?v18_18) rfl (by kernel_rfl) (by kernel_rfl) (by kernel_rfl) (fun _ _ _ h => h) (Or.inl ⟨by rfl, ?hy18_18⟩) (by assumption) ?rest18_18
            case hy18_18 => (intro w9 hSw; clear hSw; go_simp; try with_reducible rfl)
            try simp only [Act.put, List.setIfInBounds_toArray, List.set_cons_zero, List.set_cons_succ, List.getElem_toArray, List.getElem_cons_zero, List.getElem_cons_succ]
            refine wpAnyH_done (by kernel_rfl) ?_ _
            obtain ⟨r2, w12, e2, d2, h22, b22⟩ := run_add (P := Try.prog) 49 (x := r) (y := r1) br b1 (wl.drewN t9)
            have HK : Hid (af r2 = sumA (fun i => aop .mul (fa (D v i)) ((fun i => ma l q (p + i) kk) i)) (j + 1)) := Lib.hid (by rw [h22, HN2.out, H1.out, HAz.out, HVj.out]; rfl)
            clear h22 H1 HN2
            go_wp2_with fail
            go_roundw
            case rel => first | exact ⟨j + 1, r2, by omega, by go_num, rfl, HK, b22, dr.trans d2⟩ | exact ⟨j + 1, by omega, by omega, HK, dr.trans d2⟩
            case measure => simp [intOf]; omega
          · obtain rfl : j = m := by omega
            have hO2 := hO.on_ hb2
            have h2 := h.on hb2
            have hv2 := hv.on hb2
            have DZ2 := DZ.on hb2
            have DK2 := DK.on hb2
            have bz2 := bz.trans (hb2.mono bz.size)
            obtain ⟨r3, w3, e3, d3, h3, b3⟩ := run_mul (P := Try.prog) 49 (x := t) (y := r) ht br wr
            have HW : Hid (af r3 = lnW v (fun i => ma l q (p + i) kk) (af t) j) := Lib.hid (by rw [h3, HN2.out]; rfl)
            clear h3 HN2
            have hb3 := d3.below wr.heap.size
            replace hO2 := hO2.on_ hb3
            replace h2 := h2.on hb3
            replace hv2 := hv2.on hb3
            replace DM2 := DM2.on hb3
            replace DH2 := DH2.on hb3
            replace DZ2 := DZ2.on hb3
            replace DK2 := DK2.on hb3
            replace bz2 := bz2.trans (hb3.mono bz2.size)
            go_wp2_with fail
            clear y0 y1 y2 y3 y4 y5 u0 u1 u2 u3 e3
            have hT := Tn.start hMr.wd (fun i => p * q + kk + i * q) (lnF v (fun i => ma l q (p + i) kk) (af t) j)
            clear hO h hv DM DH DZ DK bz dr d3 hb2 hb3
            go_loopw [14, 15] (fun i i2 wr => ∃ (j2 : Nat) (L2 : List Int), j2 ≤ j ∧ i = .int .i64 j2 ∧ Tn L L2 (fun i => p * q + kk + i * q) j2 (lnF v (fun i => ma l q (p + i) kk) (af t) j) ∧ OwnF wr w.heap.size A2 c2 L2 ∧ FL wr A n c l ∧ FL wr VA j vc v ∧ Mbx wr w.heap.size M q A n c ∧ Rbx wr (w.heap.size + 1) VA j vc t ∧ Mbx wr (w.heap.size + 1 + 1) 0 0 none 0 0 ∧ Mbx wr KK M q A2 n c2 ∧ Below w.heap.size w wr) (fun i _ _ => j - (intOf i).toNat)
            case atStart => exact ⟨0, L, Nat.zero_le _, rfl, hT, hO2, h2, hv2, DM2, DH2, DZ2, DK2, bz2⟩
            case round =>
              clear hT hO2 h2 hv2 DM2 DH2 DZ2 DK2 bz2
              obtain ⟨j2, L2, hj2, rfl, hT, hO, h, hv, DM, DH, DZ, DK, bz⟩ := hrel
              obtain ⟨y0, y1, y2, y3, y4, y5⟩ := Mbx.cells DM
              obtain ⟨u0, u1, u2, u3⟩ := Rbx.cells DH
              by_cases hjt2 : j2 < j
              · skip
                obtain ⟨pj, hpj⟩ : ∃ pj, p + j2 = pj := ⟨_, rfl⟩
                obtain ⟨y, hy⟩ : ∃ y, pj * q = y := ⟨_, rfl⟩
                obtain ⟨z, hz⟩ : ∃ z, y + kk = z := ⟨_, rfl⟩
                have hzn : z < n := by rw [← hz, ← hy, HN.out]; exact ix_lt (by omega) (by omega)
                have epj : (p : Int) + (j2 : Int) = (pj : Int) := by omega
                have ey : (pj : Int) * (q : Int) = (y : Int) := by exact_mod_cast hy
                have ez : (y : Int) + (kk : Int) = (z : Int) := by omega
                have wpj : IntKind.i64.wrap (pj : Int) = (pj : Int) := IntWalk.i64_in _ (by omega)
                have wy : IntKind.i64.wrap (y : Int) = (y : Int) := IntWalk.i64_in _ (by omega)
                have wz : IntKind.i64.wrap (z : Int) = (z : Int) := IntWalk.i64_in _ (by omega)
                have z0 : (0 : Int) ≤ z := by omega
                have z1 : (z : Int) < n := by omega
                have j0 : (0 : Int) ≤ j2 := by omega
                have j1 : (j2 : Int) < j := by omega
                obtain ⟨adA, hA, hbA, hcA⟩ := h.at_ hzn
                obtain ⟨adV, hV, hbV, hcV⟩ := hv.at_ hjt2
                have hm_ : fa (D l z) = (fun i => ma l q (p + i) kk) j2 := by show _ = fa (D l _); congr 2; rw [← hz, ← hy, ← hpj]
                have hpos : p * q + kk + j2 * q = z := by rw [← hz, ← hy, ← hpj, Nat.add_mul]; omega
                obtain ⟨x0, x1⟩ := h.2.2.at_ z
                obtain ⟨x2, x3⟩ := hv.2.2.at_ j2
                have bA : (D l z).toNat ≤ 18446744073709551615 := by omega
                have bV : (D v j2).toNat ≤ 18446744073709551615 := by omega
                have HAz : Hid (af (D l z).toNat = (fun i => ma l q (p + i) kk) j2) := Lib.hid hm_
                have HVj : Hid (af (D v j2).toNat = fa (D v j2)) := Lib.hid rfl
                generalize hYA : (D l z).toNat = YA at *
                generalize (D v j2).toNat = YV at *
                have hlen2 := hT.len
                subst hA2
                have hVg : adV.block ≠ g2 := hVA adV hV _ rfl
                have hAg : adA.block ≠ g2 := hAA hn0 adA hA _ rfl
                subst hA
                subst hV
                obtain ⟨hy4, hy5⟩ := hO.at' (k := z) (by rw [hlen2, hLn]; exact hzn)
                have hcap := hO.ge
                obtain ⟨r5, w15, e5, d5, h5, b5⟩ := run_mul (P := Try.prog) 49 (x := YV) (y := r3) bV b3 wr
                have H5 : Hid (af r5 = aop .mul (fa (D v j2)) (lnW v (fun i => ma l q (p + i) kk) (af t) j)) := Lib.hid (by rw [h5, HVj.out, HW.out])
                clear h5 HVj
                have hb5 := d5.below wr.heap.size
                clear hm_ x0 x1 x2 x3
                go_wp2_with fail
                clear y0 y1 y2 y3 y4 y5 u0 u1 u2 u3 e5 hcA hcV hy4 hy5 d5
                replace h := h.on hb5
                replace hv := hv.on hb5
                replace DM := DM.on hb5
                replace DH := DH.on hb5
                replace DZ := DZ.on hb5
                replace DK := DK.on hb5
                replace hO := hO.on_ hb5
                replace bz := bz.trans (hb5.mono bz.size)
                clear hb5
                replace h := h.drew
                replace hv := hv.drew
                replace DM := DM.drew
                replace DH := DH.drew
                replace DZ := DZ.drew
                replace DK := DK.drew
                replace hO := hO.drew
                replace bz := bz.drew
                have hcA := h.2.1.at_some (k := z) (by rw [hll]; exact hzn)
                rw [hYA] at hcA
                refine wp_region_held_drew (S := fun w9 : World => Mbx w9 w.heap.size M q (some adA) n c ∧ Mbx w9 KK M q (some ⟨g2, 0, none⟩) n c2 ∧ w9.cell? (adA.add z) = some (.float .f64 YA)) (by kernel_rfl) ⟨DM, DK, hcA⟩ (fun hS => ?_)
                refine wpAnyH_take (i := 0) (v := ?v0_19) rfl (by kernel_rfl) (by kernel_rfl) (by kernel_rfl) (fun _ _ _ h => h) (Or.inl ⟨by rfl, ?hy0_19⟩) (by assumption) ?rest0_19
                case hy0_19 => (intro w9 hSw; clear hSw; go_simp; try with_reducible rfl)
                try simp only [Act.put, List.setIfInBounds_toArray, List.set_cons_zero, List.set_cons_succ, List.getElem_toArray, List.getElem_cons_zero, List.getElem_cons_succ]
                refine wpAnyH_take (i := 1) (v := ?v1_20) rfl (by kernel_rfl) (by kernel_rfl) (by kernel_rfl) (fun _ _ _ h => h) (Or.inl ⟨by rfl, ?hy1_20⟩) (by assumption) ?rest1_20
                case hy1_20 => (intro w9 hSw; obtain ⟨ma1, ma2, ma3⟩ := hSw; obtain ⟨y0, y1, y2, _, _, _⟩ := Mbx.cells ma1; obtain ⟨u0, u1, u2, _, _, _⟩ := Mbx.cells ma2; go_simp; try with_reducible rfl)
                try simp only [Act.put, List.setIfInBounds_toArray, List.set_cons_zero, List.set_cons_succ, List.getElem_toArray, List.getElem_cons_zero, List.getElem_cons_succ]
                refine wpAnyH_take (i := 2) (v := ?v2_21) rfl (by kernel_rfl) (by kernel_rfl) (by kernel_rfl) (fun _ _ _ h => h) (Or.inl ⟨by rfl, ?hy2_21⟩) (by assumption) ?rest2_21
                case hy2_21 => (intro w9 hSw; clear hSw; go_simp; try with_reducible rfl)
                try simp only [Act.put, List.setIfInBounds_toArray, List.set_cons_zero, List.set_cons_succ, List.getElem_toArray, List.getElem_cons_zero, List.getElem_cons_succ]
                refine wpAnyH_take (i := 3) (v := ?v3_22) rfl (by kernel_rfl) (by kernel_rfl) (by kernel_rfl) (fun _ _ _ h => h) (Or.inl ⟨by rfl, ?hy3_22⟩) (by assumption) ?rest3_22
                case hy3_22 => (intro w9 hSw; clear hSw; go_simp; try with_reducible rfl)
                try simp only [Act.put, List.setIfInBounds_toArray, List.set_cons_zero, List.set_cons_succ, List.getElem_toArray, List.getElem_cons_zero, List.getElem_cons_succ]
                refine wpAnyH_take (i := 4) (v := ?v4_23) rfl (by kernel_rfl) (by kernel_rfl) (by kernel_rfl) (fun _ _ _ h => h) (Or.inl ⟨by rfl, ?hy4_23⟩) (by assumption) ?rest4_23
                case hy4_23 => (intro w9 hSw; clear hSw; go_simp; try with_reducible rfl)
                try simp only [Act.put, List.setIfInBounds_toArray, List.set_cons_zero, List.set_cons_succ, List.getElem_toArray, List.getElem_cons_zero, List.getElem_cons_succ]
                refine wpAnyH_take (i := 5) (v := ?v5_24) rfl (by kernel_rfl) (by kernel_rfl) (by kernel_rfl) (fun _ _ _ h => h) (Or.inl ⟨by rfl, ?hy5_24⟩) (by assumption) ?rest5_24
                case hy5_24 => (intro w9 hSw; clear hSw; go_simp; try with_reducible rfl)
                try simp only [Act.put, List.setIfInBounds_toArray, List.set_cons_zero, List.set_cons_succ, List.getElem_toArray, List.getElem_cons_zero, List.getElem_cons_succ]
                refine wpAnyH_take (i := 6) (v := ?v6_25) rfl (by kernel_rfl) (by kernel_rfl) (by kernel_rfl) (fun _ _ _ h => h) (Or.inl ⟨by rfl, ?hy6_25⟩) (by assumption) ?rest6_25
                case hy6_25 => (intro w9 hSw; obtain ⟨ma1, ma2, ma3⟩ := hSw; obtain ⟨y0, y1, y2, _, _, _⟩ := Mbx.cells ma1; obtain ⟨u0, u1, u2, _, _, _⟩ := Mbx.cells ma2; go_simp; try with_reducible rfl)
                try simp only [Act.put, List.setIfInBounds_toArray, List.set_cons_zero, List.set_cons_succ, List.getElem_toArray, List.getElem_cons_zero, List.getElem_cons_succ]
                refine wpAnyH_take (i := 7) (v := ?v7_26) rfl (by kernel_rfl) (by kernel_rfl) (by kernel_rfl) (fun _ _ _ h => h) (Or.inl ⟨by rfl, ?hy7_26⟩) (by assumption) ?rest7_26
                case hy7_26 => (intro w9 hSw; clear hSw; go_simp; try with_reducible rfl)
                try simp only [Act.put, List.setIfInBounds_toArray, List.set_cons_zero, List.set_cons_succ, List.getElem_toArray, List.getElem_cons_zero, List.getElem_cons_succ]
                refine wpAnyH_take (i := 8) (v := ?v8_27) rfl (by kernel_rfl) (by kernel_rfl) (by kernel_rfl) (fun _ _ _ h => h) (Or.inl ⟨by rfl, ?hy8_27⟩) (by assumption) ?rest8_27
                case hy8_27 => (intro w9 hSw; clear hSw; go_simp; try with_reducible rfl)
                try simp only [Act.put, List.setIfInBounds_toArray, List.set_cons_zero, List.set_cons_succ, List.getElem_toArray, List.getElem_cons_zero, List.getElem_cons_succ]
                refine wpAnyH_take (i := 9) (v := ?v9_28) rfl (by kernel_rfl) (by kernel_rfl) (by kernel_rfl) (fun _ _ _ h => h) (Or.inl ⟨by rfl, ?hy9_28⟩) (by assumption) ?rest9_28
                case hy9_28 => (intro w9 hSw; clear hSw; go_simp; try with_reducible rfl)
                try simp only [Act.put, List.setIfInBounds_toArray, List.set_cons_zero, List.set_cons_succ, List.getElem_toArray, List.getElem_cons_zero, List.getElem_cons_succ]
                refine wpAnyH_take (i := 10) (v := ?v10_29) rfl (by kernel_rfl) (by kernel_rfl) (by kernel_rfl) (fun _ _ _ h => h) (Or.inl ⟨by rfl, ?hy10_29⟩) (by assumption) ?rest10_29
                case hy10_29 => (intro w9 hSw; clear hSw; go_simp; try with_reducible rfl)
                try simp only [Act.put, List.setIfInBounds_toArray, List.set_cons_zero, List.set_cons_succ, List.getElem_toArray, List.getElem_cons_zero, List.getElem_cons_succ]
                refine wpAnyH_take (i := 11) (v := ?v11_30) rfl (by kernel_rfl) (by kernel_rfl) (by kernel_rfl) (fun _ _ _ h => h) (Or.inl ⟨by rfl, ?hy11_30⟩) (by assumption) ?rest11_30
                case hy11_30 => (intro w9 hSw; obtain ⟨ma1, ma2, ma3⟩ := hSw; obtain ⟨y0, y1, y2, _, _, _⟩ := Mbx.cells ma1; obtain ⟨u0, u1, u2, _, _, _⟩ := Mbx.cells ma2; go_simp; try with_reducible rfl)
                try simp only [Act.put, List.setIfInBounds_toArray, List.set_cons_zero, List.set_cons_succ, List.getElem_toArray, List.getElem_cons_zero, List.getElem_cons_succ]
                refine wpAnyH_take (i := 12) (v := ?v12_31) rfl (by kernel_rfl) (by kernel_rfl) (by kernel_rfl) (fun _ _ _ h => h) (Or.inl ⟨by rfl, ?hy12_31⟩) (by assumption) ?rest12_31
                case hy12_31 => (intro w9 hSw; clear hSw; go_simp; try with_reducible rfl)
                try simp only [Act.put, List.setIfInBounds_toArray, List.set_cons_zero, List.set_cons_succ, List.getElem_toArray, List.getElem_cons_zero, List.getElem_cons_succ]
                refine wpAnyH_take (i := 13) (v := ?v13_32) rfl (by kernel_rfl) (by kernel_rfl) (by kernel_rfl) (fun _ _ _ h => h) (Or.inl ⟨by rfl, ?hy13_32⟩) (by assumption) ?rest13_32
                case hy13_32 => (intro w9 hSw; clear hSw; go_simp; try with_reducible rfl)
                try simp only [Act.put, List.setIfInBounds_toArray, List.set_cons_zero, List.set_cons_succ, List.getElem_toArray, List.getElem_cons_zero, List.getElem_cons_succ]
                refine wpAnyH_take (i := 14) (v := ?v14_33) rfl (by kernel_rfl) (by kernel_rfl) (by kernel_rfl) (fun _ _ _ h => h) (Or.inl ⟨by rfl, ?hy14_33⟩) (by assumption) ?rest14_33
                case hy14_33 => (intro w9 hSw; clear hSw; go_simp; try with_reducible rfl)
                try simp only [Act.put, List.setIfInBounds_toArray, List.set_cons_zero, List.set_cons_succ, List.getElem_toArray, List.getElem_cons_zero, List.getElem_cons_succ]
                refine wpAnyH_take (i := 15) (v := ?v15_34) rfl (by kernel_rfl) (by kernel_rfl) (by kernel_rfl) (fun _ _ _ h => h) (Or.inl ⟨by rfl, ?hy15_34⟩) (by assumption) ?rest15_34
                case hy15_34 => (intro w9 hSw; clear hSw; go_simp; try with_reducible rfl)
                try simp only [Act.put, List.setIfInBounds_toArray, List.set_cons_zero, List.set_cons_succ, List.getElem_toArray, List.getElem_cons_zero, List.getElem_cons_succ]
                refine wpAnyH_take (i := 16) (v := ?v16_35) rfl (by kernel_rfl) (by kernel_rfl) (by kernel_rfl) (fun _ _ _ h => h) (Or.inl ⟨by rfl, ?hy16_35⟩) (by assumption) ?rest16_35
                case hy16_35 => (intro w9 hSw; obtain ⟨ma1, ma2, ma3⟩ := hSw; obtain ⟨y0, y1, y2, _, _, _⟩ := Mbx.cells ma1; obtain ⟨u0, u1, u2, _, _, _⟩ := Mbx.cells ma2; go_simp; try with_reducible rfl)
                try simp only [Act.put, List.setIfInBounds_toArray, List.set_cons_zero, List.set_cons_succ, List.getElem_toArray, List.getElem_cons_zero, List.getElem_cons_succ]
                refine wpAnyH_take (i := 17) (v := ?v17_36) rfl (by kernel_rfl) (by kernel_rfl) (by kernel_rfl) (fun _ _ _ h => h) (Or.inl ⟨by rfl, ?hy17_36⟩) (by assumption) ?rest17_36
                case hy17_36 => (intro w9 hSw; clear hSw; go_simp; try with_reducible rfl)
                try simp only [Act.put, List.setIfInBounds_toArray, List.set_cons_zero, List.set_cons_succ, List.getElem_toArray, List.getElem_cons_zero, List.getElem_cons_succ]
                refine wpAnyH_take (i := 18) (v := ?v18_37) rfl (by kernel_rfl) (by kernel_rfl) (by kernel_rfl) (fun _ _ _ h => h) (Or.inl ⟨by rfl, ?hy18_37⟩) (by assumption) ?rest18_37
                case hy18_37 => (intro w9 hSw; clear hSw; go_simp; try with_reducible rfl)
                try simp only [Act.put, List.setIfInBounds_toArray, List.set_cons_zero, List.set_cons_succ, List.getElem_toArray, List.getElem_cons_zero, List.getElem_cons_succ]
                refine wpAnyH_take (i := 19) (v := ?v19_38) rfl (by kernel_rfl) (by kernel_rfl) (by kernel_rfl) (fun _ _ _ h => h) (Or.inl ⟨by rfl, ?hy19_38⟩) (by assumption) ?rest19_38
                case hy19_38 => (intro w9 hSw; clear hSw; go_simp; try with_reducible rfl)
                try simp only [Act.put, List.setIfInBounds_toArray, List.set_cons_zero, List.set_cons_succ, List.getElem_toArray, List.getElem_cons_zero, List.getElem_cons_succ]
                refine wpAnyH_take (i := 20) (v := ?v20_39) rfl (by kernel_rfl) (by kernel_rfl) (by kernel_rfl) (fun _ _ _ h => h) (Or.inl ⟨by rfl, ?hy20_39⟩) (by assumption) ?rest20_39
                case hy20_39 => (intro w9 hSw; clear hSw; go_simp; try with_reducible rfl)
                try simp only [Act.put, List.setIfInBounds_toArray, List.set_cons_zero, List.set_cons_succ, List.getElem_toArray, List.getElem_cons_zero, List.getElem_cons_succ]
                refine wpAnyH_take (i := 21) (v := ?v21_40) rfl (by kernel_rfl) (by kernel_rfl) (by kernel_rfl) (fun _ _ _ h => h) (Or.inl ⟨by rfl, ?hy21_40⟩) (by assumption) ?rest21_40
                case hy21_40 => (intro w9 hSw; obtain ⟨ma1, ma2, ma3⟩ := hSw; obtain ⟨y0, y1, y2, _, _, _⟩ := Mbx.cells ma1; obtain ⟨u0, u1, u2, _, _, _⟩ := Mbx.cells ma2; go_simp; try with_reducible rfl)
                try simp only [Act.put, List.setIfInBounds_toArray, List.set_cons_zero, List.set_cons_succ, List.getElem_toArray, List.getElem_cons_zero, List.getElem_cons_succ]
                refine wpAnyH_take (i := 22) (v := ?v22_41) rfl (by kernel_rfl) (by kernel_rfl) (by kernel_rfl) (fun _ _ _ h => h) (Or.inl ⟨by rfl, ?hy22_41⟩) (by assumption) ?rest22_41
                case hy22_41 => (intro w9 hSw; clear hSw; go_simp; try with_reducible rfl)
                try simp only [Act.put, List.setIfInBounds_toArray, List.set_cons_zero, List.set_cons_succ, List.getElem_toArray, List.getElem_cons_zero, List.getElem_cons_succ]
                refine wpAnyH_ready (rs := [23]) (by kernel_rfl) (by simp) ?_
                refine AllReadyH.cons rfl (fun K hK => ?_) AllReadyH.nil
                refine step_arith .sub (.inr (.inl rfl)) rfl _ _ _ _ YA r5 rfl rfl rfl bA b5 ?_
                intro r6 w16 hb h6 b6 hdr
                have H6 := Lib.hid h6
                clear h6 hdr
                replace h := h.on hb
                replace hv := hv.on hb
                replace DM := DM.on hb
                replace DH := DH.on hb
                replace DZ := DZ.on hb
                replace DK := DK.on hb
                replace hO := hO.on_ hb
                replace bz := bz.trans (hb.mono bz.size)
                clear hb
                replace hcA := h.2.1.at_some (k := z) (by rw [hll]; exact hzn)
                rw [hYA] at hcA
                clear hS; refine hK.out _ _ ⟨DM, DK, hcA⟩ (fun hS => ?_); clear hK K
                try simp only [Act.put, List.setIfInBounds_toArray, List.set_cons_zero, List.set_cons_succ, List.getElem_toArray, List.getElem_cons_zero, List.getElem_cons_succ]
                refine wpAnyH_take (i := 24) (v := ?v24_42) rfl (by kernel_rfl) (by kernel_rfl) (by kernel_rfl) (fun _ _ _ h => h) (Or.inl ⟨by rfl, ?hy24_42⟩) (by assumption) ?rest24_42
                case hy24_42 => (intro w9 hSw; clear hSw; go_simp; try with_reducible rfl)
                try simp only [Act.put, List.setIfInBounds_toArray, List.set_cons_zero, List.set_cons_succ, List.getElem_toArray, List.getElem_cons_zero, List.getElem_cons_succ]
                obtain ⟨hy4, hy5⟩ := hO.at' (k := z) (by rw [hlen2, hLn]; exact hzn)
                refine wpAnyH_ready (rs := [25]) (by kernel_rfl) (by simp) ?_
                refine AllReadyH.cons rfl (fun K hK => ?_) AllReadyH.nil
                go_simp
                clear hy4 hy5
                have hgs : w16.grownBy (w16.setCell ⟨g2, z, none⟩ (.float .f64 r6)) (some g2) := grown_setCell (World.grownBy.refl w16 _) _ _
                replace DM := DM.grown hgs (by simp; have := hgt2 _ rfl; simp at this; omega)
                replace DH := DH.grown hgs (by simp; have := hgt2 _ rfl; simp at this; omega)
                replace DZ := DZ.grown hgs (by simp; have := hgt2 _ rfl; simp at this; omega)
                replace DK := DK.grown hgs (by simp; have := hgX _ rfl; simp at this; omega)
                replace h := h.farB hgs (fun a e => by injection e with e; subst e; exact hAg)
                replace hv := hv.farB hgs (fun a e => by injection e with e; subst e; exact hVg)
                have hO9 : OwnF (w16.setCell ⟨g2, z, none⟩ (.float .f64 r6)) w.heap.size (some ⟨g2, 0, none⟩) c2 (L2.set z r6) := hO.set_ z r6
                replace bz := bz.setCell (p := ⟨g2, z, none⟩) (by have := hgt2 _ rfl; simp at this ⊢; omega) (.float .f64 r6)
                replace hcA := h.2.1.at_some (k := z) (by rw [hll]; exact hzn)
                rw [hYA] at hcA
                clear hS; refine hK.out _ _ ⟨DM, DK, hcA⟩ (fun hS => ?_); clear hK K
                try simp only [Act.put, List.setIfInBounds_toArray, List.set_cons_zero, List.set_cons_succ, List.getElem_toArray, List.getElem_cons_zero, List.getElem_cons_succ]
                refine wpAnyH_done (by kernel_rfl) ?_ _
                have hT4 := hT.next (x := (r6 : Int)) (by omega) (by omega) (by show p * q + kk + j2 * q < _; rw [hpos, hLn]; exact hzn) (fun i hi e => by have hi2 : i * q < j2 * q := Nat.mul_lt_mul_of_pos_right hi hq0; have e2 : p * q + kk + i * q = p * q + kk + j2 * q := e; omega) (by rw [fa_nat, H6.out, H5.out, HAz.out]; rfl)
                have hT5 : Tn L (L2.set z r6) (fun i => p * q + kk + i * q) (j2 + 1) (lnF v (fun i => ma l q (p + i) kk) (af t) j) := by have h9 := hT4; simp only [hpos] at h9; exact h9
                clear hT4 hT hO
                go_wp2_with fail
                go_roundw
                case rel => first | exact ⟨j2 + 1, _, by omega, by go_num, hT5, hO9, h, hv, DM, DH, DZ, DK, bz⟩ | exact ⟨j2 + 1, _, by omega, by omega, hT5, hO9, h, hv, DM, DH, DZ, DK, bz⟩
                case measure => simp [intOf]; omega
              · obtain rfl : j2 = j := by omega
                have hT9 : Tn L L2 (fun i => p * q + kk + i * q) (if eqA (af t) (some 0) = true then 0 else j2) (lnF v (fun i => fa (D L (p * q + kk + i * q))) (af t) j2) := by
                  rw [HZ.out, if_neg (by decide)]
                  refine ⟨hT.len, hT.wd, fun i hi => (hT.new i hi).trans ?_, hT.old⟩
                  refine lnF_congr (fun i hi => ?_) hi
                  show ma l q _ _ = fa (D L _)
                  rw [show p * q + kk + i * q = (p + i) * q + kk by rw [Nat.add_mul]; omega]
                  exact (hMr.old (p + i) kk (by omega) (by omega) (by unfold lP; simp <;> omega)).symm
                have hM9 := hMr.left (o := p * q + kk) (by omega) (by omega) hp hT9
                clear hT hMr
                go_wp2_with fail
                go_roundw
                case rel => exact ⟨k + 1, L2, by omega, by go_num, hM9, hO, h, hv, DM, DH, DZ, DK, bz⟩
                case measure => simp [intOf]; omega
      · obtain rfl : k = q - f := by omega
        have kk2 : ¬ (kk : Int) < (q : Int) := by omega
        obtain ⟨y0, y1, y2, y3, y4, y5⟩ := Mbx.cells DM
        obtain ⟨u0, u1, u2, u3⟩ := Rbx.cells DH
        obtain ⟨v0, v1, v2, v3, v4, v5⟩ := Mbx.cells DK
        obtain ⟨z0, z1, z2, z3, z4, z5⟩ := Mbx.cells DZ
        have DZ9 := Mbx.put DZ M q A2 n c2
        obtain ⟨c00, c11, c22, _, _, _⟩ := Mbx.cells DZ9
        have hO9 := hO.grown_ (row := some (w.heap.size + 1 + 1)) (w' := ((wr.setCell ⟨w.heap.size + 1 + 1, 0, none⟩ (.int .i64 M)).setCell ⟨w.heap.size + 1 + 1, 1, none⟩ (.int .i64 q)).setCell ⟨w.heap.size + 1 + 1, 2, none⟩ (.slice A2 n c2)) (grown_setCell (grown_setCell (grown_setCell (World.grownBy.refl wr _) 0 _) 1 _) 2 _) (fun a e => by have := hgt2 a e; simp; omega)
        have bz9 := ((bz.setCell (p := ⟨w.heap.size + 1 + 1, 0, none⟩) (by simp; omega) (.int .i64 M)).setCell (p := ⟨w.heap.size + 1 + 1, 1, none⟩) (by simp; omega) (.int .i64 q)).setCell (p := ⟨w.heap.size + 1 + 1, 2, none⟩) (by simp; omega) (.slice A2 n c2)
        have hI := hMr.is
        rw [← HN.out] at hI
        go_wp2_with fail
        refine bodyPost_ret (v := mV M q A2 n c2) (by simp [results, Try.results42, go_sem, c00, c11, c22]) rfl ?_
        exact ⟨A2, c2, L, rfl, hO9, hI, bz9⟩
  · rw [cz] at HZ
    clear y0 y1 y2 y3 y4 y5 u0 u1 u2 u3 k0 k1 k2 k3 k4 k5
    obtain ⟨y0, y1, y2, y3, y4, y5⟩ := Mbx.cells DM
    obtain ⟨u0, u1, u2, u3⟩ := Rbx.cells DH
    obtain ⟨v0, v1, v2, v3, v4, v5⟩ := Mbx.cells DK
    obtain ⟨z0, z1, z2, z3, z4, z5⟩ := Mbx.cells DZ
    have DZ9 := Mbx.put DZ M q A2 n c2
    obtain ⟨c00, c11, c22, _, _, _⟩ := Mbx.cells DZ9
    have hO9 := hO.grown_ (row := some (w.heap.size + 1 + 1)) (w' := (((w1.alloc (.cells #[.int .i64 M, .int .i64 q, .slice A2 n c2] 24)).setCell ⟨w.heap.size + 1 + 1, 0, none⟩ (.int .i64 M)).setCell ⟨w.heap.size + 1 + 1, 1, none⟩ (.int .i64 q)).setCell ⟨w.heap.size + 1 + 1, 2, none⟩ (.slice A2 n c2)) (grown_setCell (grown_setCell (grown_setCell (World.grownBy.refl (w1.alloc (.cells #[.int .i64 M, .int .i64 q, .slice A2 n c2] 24)) _) 0 _) 1 _) 2 _) (fun a e => by have := hgt2 a e; simp; omega)
    have bz9 := ((bz.setCell (p := ⟨w.heap.size + 1 + 1, 0, none⟩) (by simp; omega) (.int .i64 M)).setCell (p := ⟨w.heap.size + 1 + 1, 1, none⟩) (by simp; omega) (.int .i64 q)).setCell (p := ⟨w.heap.size + 1 + 1, 2, none⟩) (by simp; omega) (.slice A2 n c2)
    have hI := Is.refl h.2.2
    rw [hll] at hI
    go_wp2_with fail
    refine bodyPost_ret (v := mV M q A2 n c2) (by simp [results, Try.results42, go_sem, c00, c11, c22]) rfl ?_
    exact ⟨A2, c2, l, rfl, hO9, hI.congr (fun i _ => by unfold tg lP; rw [HZ.out]; simp), bz9⟩

set_option maxRecDepth 100000 in
set_option maxHeartbeats 16000000 in
theorem rRight_any {w : World} {A VA : Option Addr} {M q n c m vc t p f : Nat} {l v : List Int} (h : FL w A n c l) (hv : FL w VA m vc v) (ht : t ≤ 18446744073709551615) (hM : M ≤ 512) (hq : q ≤ 512) (hn : n = M * q) (hm : 0 < m) (hp : p + m ≤ q) (hf : f ≤ M) (hvb : ∀ a, VA = some a → a.block < w.heap.size) (hab : 0 < n → ∀ a, A = some a → a.block < w.heap.size) :
    Calls Try.prog 43 #[mV M q A n c, .int .i64 p, .int .i64 f, rV VA m vc t] w (MatQ w M q n (tg (rP (eqA (af t) (some 0)) p m f (M - f)) (rF l v q p m (af t)) l q)) := by
  have hmx := hv.max
  have hn1 := h.max
  have n4 : n ≤ 262144 := by rw [hn]; exact Nat.le_trans (Nat.mul_le_mul hM hq) (by decide)
  have hll := h.1
  have HN := Lib.hid hn
  clear hn
  have bz := (((Below.refl _ w).alloc (Nat.le_refl _) (.cells #[.int .i64 (M : Int), .int .i64 (q : Int), .slice A n c] 24)).alloc (by simp) (.cells #[.slice VA m vc, .float .f64 t] 51)).alloc (by simp; omega) (.cells #[.int .i64 0, .int .i64 0, .slice none 0 0] 24)
  have DM := ((Blk.new w [.int .i64 (M : Int), .int .i64 (q : Int), .slice A n c] 24).alloc (.cells #[.slice VA m vc, .float .f64 t] 51)).alloc (.cells #[.int .i64 0, .int .i64 0, .slice none 0 0] 24)
  have DH := (Blk.new (w.alloc (.cells #[.int .i64 (M : Int), .int .i64 (q : Int), .slice A n c] 24)) [.slice VA m vc, .float .f64 t] 51).alloc (.cells #[.int .i64 0, .int .i64 0, .slice none 0 0] 24)
  have DZ := Blk.new ((w.alloc (.cells #[.int .i64 (M : Int), .int .i64 (q : Int), .slice A n c] 24)).alloc (.cells #[.slice VA m vc, .float .f64 t] 51)) [.int .i64 0, .int .i64 0, .slice none 0 0] 24
  have hsz : (((w.alloc (.cells #[.int .i64 (M : Int), .int .i64 (q : Int), .slice A n c] 24)).alloc (.cells #[.slice VA m vc, .float .f64 t] 51)).alloc (.cells #[.int .i64 0, .int .i64 0, .slice none 0 0] 24)).heap.size = w.heap.size + 1 + 1 + 1 := by simp
  simp only [World.size_alloc] at DH DZ
  replace h := h.on bz
  replace hv := hv.on bz
  have p0 : (0 : Int) ≤ p := by omega
  have f0 : (0 : Int) ≤ f := by omega
  have m0 : (0 : Int) < m := by omega
  have b0 : (0 : Nat) ≤ 18446744073709551615 := by omega
  have HZ : Hid (eqA (af t) (some 0) = (FloatKind.f64.format.order t 0 == some .eq)) := Lib.hid (by rw [← af_zero, eq_is ht b0])
  go_enter Try.func43, Try.ntmps43
  go_upto_region 1 with fail
  generalize (((w.alloc (.cells #[.int .i64 (M : Int), .int .i64 (q : Int), .slice A n c] 24)).alloc (.cells #[.slice VA m vc, .float .f64 t] 51)).alloc (.cells #[.int .i64 0, .int .i64 0, .slice none 0 0] 24)) = W0 at h hv DM DH DZ bz hsz ⊢
  have pcp := rCopy_any (R := (M : Int)) (C := (q : Int)) h (by omega)
  obtain ⟨y0, y1, y2, y3, y4, y5⟩ := Mbx.cells DM
  obtain ⟨u0, u1, u2, u3⟩ := Rbx.cells DH
  go_wp2_with fail
  with_reducible refine (pcp).mono ?_
  rintro e w1 ⟨A2, c2, rfl, hO, hb, hgt⟩
  clear y0 y1 y2 y3 y4 y5 u0 u1 u2 u3 pcp
  replace h := h.on hb
  replace hv := hv.on hb
  replace DM := DM.on hb
  replace DH := DH.on hb
  replace DZ := DZ.on hb
  replace bz := bz.trans (hb.mono bz.size)
  have hs1 := hb.size
  clear hb
  replace hO := hO.less (B' := w.heap.size) (by omega)
  have hgX : ∀ a, A2 = some a → a.block < w1.heap.size := fun a e => (hO.gt e).2
  have DK := Blk.new w1 [.int .i64 M, .int .i64 q, .slice A2 n c2] 24
  have hbA := (Below.refl _ w1).alloc (Nat.le_refl _) (.cells #[.int .i64 M, .int .i64 q, .slice A2 n c2] 24)
  replace h := h.on hbA
  replace hv := hv.on hbA
  replace DM := DM.on hbA
  replace DH := DH.on hbA
  replace DZ := DZ.on hbA
  replace hO := hO.alloc_ (.cells #[.int .i64 M, .int .i64 q, .slice A2 n c2] 24)
  clear hbA
  replace bz := bz.alloc bz.size (.cells #[.int .i64 M, .int .i64 q, .slice A2 n c2] 24)
  have hVA : ∀ a, VA = some a → ∀ b, A2 = some b → a.block ≠ b.block := fun a e b e2 => by have := hvb a e; have := hgt b e2; omega
  have hAA : 0 < n → ∀ a, A = some a → ∀ b, A2 = some b → a.block ≠ b.block := fun h0 a e b e2 => by have := hab h0 a e; have := hgt b e2; omega
  have hgt2 : ∀ b, A2 = some b → w.heap.size + 1 + 1 + 1 ≤ b.block := fun b e => by have := hgt b e; omega
  obtain ⟨KK, hKK⟩ : ∃ KK, w1.heap.size = KK := ⟨_, rfl⟩
  rw [hKK] at DK hgX
  have hKs : w.heap.size + 1 + 1 + 1 ≤ KK := by omega
  have HKK := Lib.hid hKK
  obtain ⟨y0, y1, y2, y3, y4, y5⟩ := Mbx.cells DM
  obtain ⟨u0, u1, u2, u3⟩ := Rbx.cells DH
  obtain ⟨k0, k1, k2, k3, k4, k5⟩ := Mbx.cells DK
  cases cz : (FloatKind.f64.format.order t 0 == some .eq)
  · rw [cz] at HZ
    go_wp2_with fail
    clear y0 y1 y2 y3 y4 y5 u0 u1 u2 u3 k0 k1 k2 k3 k4 k5
    generalize (w1.alloc (.cells #[.int .i64 M, .int .i64 q, .slice A2 n c2] 24)) = w5 at h hv DM DH DZ DK hO bz ⊢
    have hMr : Mr l l M q (rP (eqA (af t) (some 0)) p m f 0) (rF l v q p m (af t)) := Mr.start (by rw [hll, HN.out]) h.2.2 (fun a b _ _ => by unfold rP; simp <;> omega)
    have hm5 : m ≤ 512 := by omega
    go_loopw [10, 11, 12, 13, 14, 15] (fun i i2 i3 i4 i5 i6 wr => ∃ (k : Nat) (L : List Int), k ≤ M - f ∧ i = .int .i64 ((f + k : Nat) : Int) ∧ Mr L l M q (rP (eqA (af t) (some 0)) p m f k) (rF l v q p m (af t)) ∧ OwnF wr w.heap.size A2 c2 L ∧ FL wr A n c l ∧ FL wr VA m vc v ∧ Mbx wr w.heap.size M q A n c ∧ Rbx wr (w.heap.size + 1) VA m vc t ∧ Mbx wr (w.heap.size + 1 + 1) 0 0 none 0 0 ∧ Mbx wr KK M q A2 n c2 ∧ Below w.heap.size w wr) (fun i _ _ _ _ _ _ => M - (intOf i).toNat)
    case atStart => exact ⟨0, l, Nat.zero_le _, by simp, hMr, hO, h, hv, DM, DH, DZ, DK, bz⟩
    case round =>
      clear hMr hO hv DM DH DZ DK bz h
      obtain ⟨k, L, hk, rfl, hMr, hO, h, hv, DM, DH, DZ, DK, bz⟩ := hrel
      obtain ⟨kk, hkk⟩ : ∃ kk, f + k = kk := ⟨_, rfl⟩
      rw [hkk]
      have kk0 : (0 : Int) ≤ kk := by omega
      by_cases hlt : k < M - f
      · have kk1 : (kk : Int) < (M : Int) := by omega
        have hML := hMr.len
        have hLn : L.length = n := by rw [hML, HN.out]
        have hq0 : 0 < q := by omega
        obtain ⟨y0, y1, y2, y3, y4, y5⟩ := Mbx.cells DM
        obtain ⟨u0, u1, u2, u3⟩ := Rbx.cells DH
        have hn0 : 0 < n := by rw [HN.out]; exact Nat.mul_pos (by omega) hq0
        obtain ⟨g2, hA2, _, _⟩ := hO.form (by rw [hLn]; exact hn0)
        go_wp2_with fail
        clear y0 y1 y2 y3 y4 y5 u0 u1 u2 u3
        obtain ⟨wo, hwo⟩ : ∃ x, x = wr := ⟨_, rfl⟩
        subst hwo
        have HW0 : Hid (af 0 = sumA (fun i => aop .mul (fa (D v i)) ((fun i => ma l q kk (p + i)) i)) 0) := Lib.hid af_zero
        go_loopw [11, 12, 13] (fun acc i i3 wr => ∃ (j r : Nat), j ≤ m ∧ i = .int .i64 j ∧ acc = .float .f64 r ∧ Hid (af r = sumA (fun i => aop .mul (fa (D v i)) ((fun i => ma l q kk (p + i)) i)) j) ∧ r ≤ 18446744073709551615 ∧ Dr wo wr) (fun _ i _ _ => m - (intOf i).toNat)
        case atStart => exact ⟨0, 0, Nat.zero_le _, rfl, rfl, HW0, b0, Dr.refl _⟩
        case round =>
          clear HW0
          obtain ⟨j, r, hj, rfl, rfl, HN2, br, dr⟩ := hrel
          have hb2 := dr.below wo.heap.size
          have DM2 := DM.on hb2
          have DH2 := DH.on hb2
          obtain ⟨y0, y1, y2, y3, y4, y5⟩ := Mbx.cells DM2
          obtain ⟨u0, u1, u2, u3⟩ := Rbx.cells DH2
          by_cases hjt : j < m
          · have h2 := h.on hb2
            obtain ⟨y, hy⟩ : ∃ y, kk * q = y := ⟨_, rfl⟩
            obtain ⟨y9, hy9⟩ : ∃ y9, y + p = y9 := ⟨_, rfl⟩
            obtain ⟨z, hz⟩ : ∃ z, y9 + j = z := ⟨_, rfl⟩
            have hzn : z < n := by rw [← hz, ← hy9, ← hy, HN.out, Nat.add_assoc]; exact ix_lt (by omega) (by omega)
            have ey : (kk : Int) * (q : Int) = (y : Int) := by exact_mod_cast hy
            have ey9 : (y : Int) + (p : Int) = (y9 : Int) := by omega
            have ez : (y9 : Int) + (j : Int) = (z : Int) := by omega
            have wy9 : IntKind.i64.wrap (y9 : Int) = (y9 : Int) := IntWalk.i64_in _ (by omega)
            have wy : IntKind.i64.wrap (y : Int) = (y : Int) := IntWalk.i64_in _ (by omega)
            have wz : IntKind.i64.wrap (z : Int) = (z : Int) := IntWalk.i64_in _ (by omega)
            have z0 : (0 : Int) ≤ z := by omega
            have z1 : (z : Int) < n := by omega
            have j0 : (0 : Int) ≤ j := by omega
            have j1 : (j : Int) < m := by omega
            have hv2 := hv.on hb2
            obtain ⟨adA, hA, _, hcA⟩ := h2.at_ hzn
            obtain ⟨adV, hV, _, hcV⟩ := hv2.at_ hjt
            have hm_ : fa (D l z) = (fun i => ma l q kk (p + i)) j := by show _ = fa (D l _); congr 2; rw [← hz, ← hy9, ← hy]; omega
            obtain ⟨x0, x1⟩ := h2.2.2.at_ z
            obtain ⟨x2, x3⟩ := hv2.2.2.at_ j
            have bA : (D l z).toNat ≤ 18446744073709551615 := by omega
            have bV : (D v j).toNat ≤ 18446744073709551615 := by omega
            have HAz : Hid (af (D l z).toNat = (fun i => ma l q kk (p + i)) j) := Lib.hid hm_
            have HVj : Hid (af (D v j).toNat = fa (D v j)) := Lib.hid rfl
            generalize (D l z).toNat = YA at *
            generalize (D v j).toNat = YV at *
            subst hA
            subst hV
            clear hm_ x0 x1 x2 x3
            go_wp2_with fail
            clear y0 y1 y2 y3 y4 y5 u0 u1 u2 u3
            replace DM2 := DM2.drew
            replace DH2 := DH2.drew
            replace hcA : wr.drew.cell? (adA.add z) = some (.float .f64 YA) := hcA
            replace hcV : wr.drew.cell? (adV.add j) = some (.float .f64 YV) := hcV
            replace dr : Dr wo wr.drew := dr.trans ⟨1, rfl⟩
            have bz : Below wr.drew.heap.size wr.drew wr.drew := Below.refl _ _
            refine wp_region_held_drew (S := fun w9 : World => Mbx w9 w.heap.size M q (some adA) n c ∧ Rbx w9 (w.heap.size + 1) (some adV) m vc t ∧ w9.cell? (adA.add z) = some (.float .f64 YA) ∧ w9.cell? (adV.add j) = some (.float .f64 YV)) (by kernel_rfl) ⟨DM2, DH2, hcA, hcV⟩ (fun hS => ?_)
            generalize wr.drew = wl at hS DM2 DH2 dr hcA hcV bz ⊢
            refine wpAnyH_take (i := 0) (v := ?v0_43) rfl (by kernel_rfl) (by kernel_rfl) (by kernel_rfl) (fun _ _ _ h => h) (Or.inl ⟨by rfl, ?hy0_43⟩) (by assumption) ?rest0_43
            case hy0_43 => (intro w9 hSw; clear hSw; go_simp; try with_reducible rfl)
            try simp only [Act.put, List.setIfInBounds_toArray, List.set_cons_zero, List.set_cons_succ, List.getElem_toArray, List.getElem_cons_zero, List.getElem_cons_succ]
            refine wpAnyH_take (i := 1) (v := ?v1_44) rfl (by kernel_rfl) (by kernel_rfl) (by kernel_rfl) (fun _ _ _ h => h) (Or.inl ⟨by rfl, ?hy1_44⟩) (by assumption) ?rest1_44
            case hy1_44 => (intro w9 hSw; obtain ⟨ma1, ma2, ma3, ma4⟩ := hSw; obtain ⟨y0, y1, y2, _, _, _⟩ := Mbx.cells ma1; obtain ⟨u0, u1, _, _⟩ := Rbx.cells ma2; go_simp; try with_reducible rfl)
            try simp only [Act.put, List.setIfInBounds_toArray, List.set_cons_zero, List.set_cons_succ, List.getElem_toArray, List.getElem_cons_zero, List.getElem_cons_succ]
            refine wpAnyH_take (i := 2) (v := ?v2_45) rfl (by kernel_rfl) (by kernel_rfl) (by kernel_rfl) (fun _ _ _ h => h) (Or.inl ⟨by rfl, ?hy2_45⟩) (by assumption) ?rest2_45
            case hy2_45 => (intro w9 hSw; clear hSw; go_simp; try with_reducible rfl)
            try simp only [Act.put, List.setIfInBounds_toArray, List.set_cons_zero, List.set_cons_succ, List.getElem_toArray, List.getElem_cons_zero, List.getElem_cons_succ]
            refine wpAnyH_take (i := 3) (v := ?v3_46) rfl (by kernel_rfl) (by kernel_rfl) (by kernel_rfl) (fun _ _ _ h => h) (Or.inl ⟨by rfl, ?hy3_46⟩) (by assumption) ?rest3_46
            case hy3_46 => (intro w9 hSw; clear hSw; go_simp; try with_reducible rfl)
            try simp only [Act.put, List.setIfInBounds_toArray, List.set_cons_zero, List.set_cons_succ, List.getElem_toArray, List.getElem_cons_zero, List.getElem_cons_succ]
            refine wpAnyH_take (i := 4) (v := ?v4_47) rfl (by kernel_rfl) (by kernel_rfl) (by kernel_rfl) (fun _ _ _ h => h) (Or.inl ⟨by rfl, ?hy4_47⟩) (by assumption) ?rest4_47
            case hy4_47 => (intro w9 hSw; obtain ⟨ma1, ma2, ma3, ma4⟩ := hSw; obtain ⟨y0, y1, y2, _, _, _⟩ := Mbx.cells ma1; obtain ⟨u0, u1, _, _⟩ := Rbx.cells ma2; go_simp; try with_reducible rfl)
            try simp only [Act.put, List.setIfInBounds_toArray, List.set_cons_zero, List.set_cons_succ, List.getElem_toArray, List.getElem_cons_zero, List.getElem_cons_succ]
            refine wpAnyH_take (i := 5) (v := ?v5_48) rfl (by kernel_rfl) (by kernel_rfl) (by kernel_rfl) (fun _ _ _ h => h) (Or.inl ⟨by rfl, ?hy5_48⟩) (by assumption) ?rest5_48
            case hy5_48 => (intro w9 hSw; clear hSw; go_simp; try with_reducible rfl)
            try simp only [Act.put, List.setIfInBounds_toArray, List.set_cons_zero, List.set_cons_succ, List.getElem_toArray, List.getElem_cons_zero, List.getElem_cons_succ]
            refine wpAnyH_take (i := 6) (v := ?v6_49) rfl (by kernel_rfl) (by kernel_rfl) (by kernel_rfl) (fun _ _ _ h => h) (Or.inl ⟨by rfl, ?hy6_49⟩) (by assumption) ?rest6_49
            case hy6_49 => (intro w9 hSw; clear hSw; go_simp; try with_reducible rfl)
            try simp only [Act.put, List.setIfInBounds_toArray, List.set_cons_zero, List.set_cons_succ, List.getElem_toArray, List.getElem_cons_zero, List.getElem_cons_succ]
            refine wpAnyH_take (i := 7) (v := ?v7_50) rfl (by kernel_rfl) (by kernel_rfl) (by kernel_rfl) (fun _ _ _ h => h) (Or.inl ⟨by rfl, ?hy7_50⟩) (by assumption) ?rest7_50
            case hy7_50 => (intro w9 hSw; clear hSw; go_simp; try with_reducible rfl)
            try simp only [Act.put, List.setIfInBounds_toArray, List.set_cons_zero, List.set_cons_succ, List.getElem_toArray, List.getElem_cons_zero, List.getElem_cons_succ]
            refine wpAnyH_take (i := 8) (v := ?v8_51) rfl (by kernel_rfl) (by kernel_rfl) (by kernel_rfl) (fun _ _ _ h => h) (Or.inl ⟨by rfl, ?hy8_51⟩) (by assumption) ?rest8_51
            case hy8_51 => (intro w9 hSw; clear hSw; go_simp; try with_reducible rfl)
            try simp only [Act.put, List.setIfInBounds_toArray, List.set_cons_zero, List.set_cons_succ, List.getElem_toArray, List.getElem_cons_zero, List.getElem_cons_succ]
            refine wpAnyH_take (i := 9) (v := ?v9_52) rfl (by kernel_rfl) (by kernel_rfl) (by kernel_rfl) (fun _ _ _ h => h) (Or.inl ⟨by rfl, ?hy9_52⟩) (by assumption) ?rest9_52
            case hy9_52 => (intro w9 hSw; clear hSw; go_simp; try with_reducible rfl)
            try simp only [Act.put, List.setIfInBounds_toArray, List.set_cons_zero, List.set_cons_succ, List.getElem_toArray, List.getElem_cons_zero, List.getElem_cons_succ]
            refine wpAnyH_take (i := 10) (v := ?v10_53) rfl (by kernel_rfl) (by kernel_rfl) (by kernel_rfl) (fun _ _ _ h => h) (Or.inl ⟨by rfl, ?hy10_53⟩) (by assumption) ?rest10_53
            case hy10_53 => (intro w9 hSw; clear hSw; go_simp; try with_reducible rfl)
            try simp only [Act.put, List.setIfInBounds_toArray, List.set_cons_zero, List.set_cons_succ, List.getElem_toArray, List.getElem_cons_zero, List.getElem_cons_succ]
            refine wpAnyH_take (i := 11) (v := ?v11_54) rfl (by kernel_rfl) (by kernel_rfl) (by kernel_rfl) (fun _ _ _ h => h) (Or.inl ⟨by rfl, ?hy11_54⟩) (by assumption) ?rest11_54
            case hy11_54 => (intro w9 hSw; obtain ⟨ma1, ma2, ma3, ma4⟩ := hSw; obtain ⟨y0, y1, y2, _, _, _⟩ := Mbx.cells ma1; obtain ⟨u0, u1, _, _⟩ := Rbx.cells ma2; go_simp; try with_reducible rfl)
            try simp only [Act.put, List.setIfInBounds_toArray, List.set_cons_zero, List.set_cons_succ, List.getElem_toArray, List.getElem_cons_zero, List.getElem_cons_succ]
            refine wpAnyH_take (i := 12) (v := ?v12_55) rfl (by kernel_rfl) (by kernel_rfl) (by kernel_rfl) (fun _ _ _ h => h) (Or.inl ⟨by rfl, ?hy12_55⟩) (by assumption) ?rest12_55
            case hy12_55 => (intro w9 hSw; clear hSw; go_simp; try with_reducible rfl)
            try simp only [Act.put, List.setIfInBounds_toArray, List.set_cons_zero, List.set_cons_succ, List.getElem_toArray, List.getElem_cons_zero, List.getElem_cons_succ]
            refine wpAnyH_take (i := 13) (v := ?v13_56) rfl (by kernel_rfl) (by kernel_rfl) (by kernel_rfl) (fun _ _ _ h => h) (Or.inl ⟨by rfl, ?hy13_56⟩) (by assumption) ?rest13_56
            case hy13_56 => (intro w9 hSw; obtain ⟨ma1, ma2, ma3, ma4⟩ := hSw; obtain ⟨y0, y1, y2, _, _, _⟩ := Mbx.cells ma1; obtain ⟨u0, u1, _, _⟩ := Rbx.cells ma2; go_simp; try with_reducible rfl)
            try simp only [Act.put, List.setIfInBounds_toArray, List.set_cons_zero, List.set_cons_succ, List.getElem_toArray, List.getElem_cons_zero, List.getElem_cons_succ]
            refine wpAnyH_take (i := 14) (v := ?v14_57) rfl (by kernel_rfl) (by kernel_rfl) (by kernel_rfl) (fun _ _ _ h => h) (Or.inl ⟨by rfl, ?hy14_57⟩) (by assumption) ?rest14_57
            case hy14_57 => (intro w9 hSw; clear hSw; go_simp; try with_reducible rfl)
            try simp only [Act.put, List.setIfInBounds_toArray, List.set_cons_zero, List.set_cons_succ, List.getElem_toArray, List.getElem_cons_zero, List.getElem_cons_succ]
            refine wpAnyH_take (i := 15) (v := ?v15_58) rfl (by kernel_rfl) (by kernel_rfl) (by kernel_rfl) (fun _ _ _ h => h) (Or.inl ⟨by rfl, ?hy15_58⟩) (by assumption) ?rest15_58
            case hy15_58 => (intro w9 hSw; clear hSw; go_simp; try with_reducible rfl)
            try simp only [Act.put, List.setIfInBounds_toArray, List.set_cons_zero, List.set_cons_succ, List.getElem_toArray, List.getElem_cons_zero, List.getElem_cons_succ]
            refine wpAnyH_take (i := 16) (v := ?v16_59) rfl (by kernel_rfl) (by kernel_rfl) (by kernel_rfl) (fun _ _ _ h => h) (Or.inl ⟨by rfl, ?hy16_59⟩) (by assumption) ?rest16_59
            case hy16_59 => (intro w9 hSw; obtain ⟨ma1, ma2, ma3, ma4⟩ := hSw; obtain ⟨y0, y1, y2, _, _, _⟩ := Mbx.cells ma1; obtain ⟨u0, u1, _, _⟩ := Rbx.cells ma2; go_simp; try with_reducible rfl)
            try simp only [Act.put, List.setIfInBounds_toArray, List.set_cons_zero, List.set_cons_succ, List.getElem_toArray, List.getElem_cons_zero, List.getElem_cons_succ]
            refine wpAnyH_ready (rs := [17]) (by kernel_rfl) (by simp) ?_
            refine AllReadyH.cons rfl (fun K hK => ?_) AllReadyH.nil
            refine step_arith .mul (.inr (.inr (.inl rfl))) rfl _ _ _ _ YA YV rfl rfl rfl bA bV ?_
            intro r1 w11 hb hq1 b1 dq
            have H1 := Lib.hid hq1
            clear hq1 hb
            replace dr := dr.trans dq
            have hS1 := hS
            obtain ⟨t9, ht9⟩ := dq
            subst ht9
            clear hS; refine hK.out _ _ hS1 (fun hS => ?_); clear hK K
            try simp only [Act.put, List.setIfInBounds_toArray, List.set_cons_zero, List.set_cons_succ, List.getElem_toArray, List.getElem_cons_zero, List.getElem_cons_succ]
            refine wpAnyH_take (i := 18) (v := ?v18_60) rfl (by kernel_rfl) (by kernel_rfl) (by kernel_rfl) (fun _ _ _ h => h) (Or.inl ⟨by rfl, ?hy18_60⟩) (by assumption) ?rest18_60
            case hy18_60 => (intro w9 hSw; clear hSw; go_simp; try with_reducible rfl)
            try simp only [Act.put, List.setIfInBounds_toArray, List.set_cons_zero, List.set_cons_succ, List.getElem_toArray, List.getElem_cons_zero, List.getElem_cons_succ]
            refine wpAnyH_done (by kernel_rfl) ?_ _
            obtain ⟨r2, w12, e2, d2, h22, b22⟩ := run_add (P := Try.prog) 49 (x := r) (y := r1) br b1 (wl.drewN t9)
            have HK : Hid (af r2 = sumA (fun i => aop .mul (fa (D v i)) ((fun i => ma l q kk (p + i)) i)) (j + 1)) := Lib.hid (by rw [h22, HN2.out, H1.out, mul_comm_A, HAz.out, HVj.out]; rfl)
            clear h22 H1 HN2
            go_wp2_with fail
            go_roundw
            case rel => first | exact ⟨j + 1, r2, by omega, by go_num, rfl, HK, b22, dr.trans d2⟩ | exact ⟨j + 1, by omega, by omega, HK, dr.trans d2⟩
            case measure => simp [intOf]; omega
          · obtain rfl : j = m := by omega
            have hO2 := hO.on_ hb2
            have h2 := h.on hb2
            have hv2 := hv.on hb2
            have DZ2 := DZ.on hb2
            have DK2 := DK.on hb2
            have bz2 := bz.trans (hb2.mono bz.size)
            obtain ⟨r3, w3, e3, d3, h3, b3⟩ := run_mul (P := Try.prog) 49 (x := t) (y := r) ht br wr
            have HW : Hid (af r3 = lnW v (fun i => ma l q kk (p + i)) (af t) j) := Lib.hid (by rw [h3, HN2.out]; rfl)
            clear h3 HN2
            have hb3 := d3.below wr.heap.size
            replace hO2 := hO2.on_ hb3
            replace h2 := h2.on hb3
            replace hv2 := hv2.on hb3
            replace DM2 := DM2.on hb3
            replace DH2 := DH2.on hb3
            replace DZ2 := DZ2.on hb3
            replace DK2 := DK2.on hb3
            replace bz2 := bz2.trans (hb3.mono bz2.size)
            go_wp2_with fail
            clear y0 y1 y2 y3 y4 y5 u0 u1 u2 u3 e3
            have hT := Tn.start hMr.wd (fun i => kk * q + p + i * 1) (lnF v (fun i => ma l q kk (p + i)) (af t) j)
            clear hO h hv DM DH DZ DK bz dr d3 hb2 hb3
            go_loopw [14, 15] (fun i i2 wr => ∃ (j2 : Nat) (L2 : List Int), j2 ≤ j ∧ i = .int .i64 j2 ∧ Tn L L2 (fun i => kk * q + p + i * 1) j2 (lnF v (fun i => ma l q kk (p + i)) (af t) j) ∧ OwnF wr w.heap.size A2 c2 L2 ∧ FL wr A n c l ∧ FL wr VA j vc v ∧ Mbx wr w.heap.size M q A n c ∧ Rbx wr (w.heap.size + 1) VA j vc t ∧ Mbx wr (w.heap.size + 1 + 1) 0 0 none 0 0 ∧ Mbx wr KK M q A2 n c2 ∧ Below w.heap.size w wr) (fun i _ _ => j - (intOf i).toNat)
            case atStart => exact ⟨0, L, Nat.zero_le _, rfl, hT, hO2, h2, hv2, DM2, DH2, DZ2, DK2, bz2⟩
            case round =>
              clear hT hO2 h2 hv2 DM2 DH2 DZ2 DK2 bz2
              obtain ⟨j2, L2, hj2, rfl, hT, hO, h, hv, DM, DH, DZ, DK, bz⟩ := hrel
              obtain ⟨y0, y1, y2, y3, y4, y5⟩ := Mbx.cells DM
              obtain ⟨u0, u1, u2, u3⟩ := Rbx.cells DH
              by_cases hjt2 : j2 < j
              · skip
                obtain ⟨y, hy⟩ : ∃ y, kk * q = y := ⟨_, rfl⟩
                obtain ⟨y9, hy9⟩ : ∃ y9, y + p = y9 := ⟨_, rfl⟩
                obtain ⟨z, hz⟩ : ∃ z, y9 + j2 = z := ⟨_, rfl⟩
                have hzn : z < n := by rw [← hz, ← hy9, ← hy, HN.out, Nat.add_assoc]; exact ix_lt (by omega) (by omega)
                have ey : (kk : Int) * (q : Int) = (y : Int) := by exact_mod_cast hy
                have ey9 : (y : Int) + (p : Int) = (y9 : Int) := by omega
                have ez : (y9 : Int) + (j2 : Int) = (z : Int) := by omega
                have wy9 : IntKind.i64.wrap (y9 : Int) = (y9 : Int) := IntWalk.i64_in _ (by omega)
                have wy : IntKind.i64.wrap (y : Int) = (y : Int) := IntWalk.i64_in _ (by omega)
                have wz : IntKind.i64.wrap (z : Int) = (z : Int) := IntWalk.i64_in _ (by omega)
                have z0 : (0 : Int) ≤ z := by omega
                have z1 : (z : Int) < n := by omega
                have j0 : (0 : Int) ≤ j2 := by omega
                have j1 : (j2 : Int) < j := by omega
                obtain ⟨adA, hA, hbA, hcA⟩ := h.at_ hzn
                obtain ⟨adV, hV, hbV, hcV⟩ := hv.at_ hjt2
                have hm_ : fa (D l z) = (fun i => ma l q kk (p + i)) j2 := by show _ = fa (D l _); congr 2; rw [← hz, ← hy9, ← hy]; omega
                have hpos : kk * q + p + j2 * 1 = z := by rw [← hz, ← hy9, ← hy]; omega
                obtain ⟨x0, x1⟩ := h.2.2.at_ z
                obtain ⟨x2, x3⟩ := hv.2.2.at_ j2
                have bA : (D l z).toNat ≤ 18446744073709551615 := by omega
                have bV : (D v j2).toNat ≤ 18446744073709551615 := by omega
                have HAz : Hid (af (D l z).toNat = (fun i => ma l q kk (p + i)) j2) := Lib.hid hm_
                have HVj : Hid (af (D v j2).toNat = fa (D v j2)) := Lib.hid rfl
                generalize hYA : (D l z).toNat = YA at *
                generalize (D v j2).toNat = YV at *
                have hlen2 := hT.len
                subst hA2
                have hVg : adV.block ≠ g2 := hVA adV hV _ rfl
                have hAg : adA.block ≠ g2 := hAA hn0 adA hA _ rfl
                subst hA
                subst hV
                obtain ⟨hy4, hy5⟩ := hO.at' (k := z) (by rw [hlen2, hLn]; exact hzn)
                have hcap := hO.ge
                obtain ⟨r5, w15, e5, d5, h5, b5⟩ := run_mul (P := Try.prog) 49 (x := r3) (y := YV) b3 bV wr
                have H5 : Hid (af r5 = aop .mul (fa (D v j2)) (lnW v (fun i => ma l q kk (p + i)) (af t) j)) := Lib.hid (by rw [h5, mul_comm_A, HVj.out, HW.out])
                clear h5 HVj
                have hb5 := d5.below wr.heap.size
                clear hm_ x0 x1 x2 x3
                go_wp2_with fail
                clear y0 y1 y2 y3 y4 y5 u0 u1 u2 u3 e5 hcA hcV hy4 hy5 d5
                replace h := h.on hb5
                replace hv := hv.on hb5
                replace DM := DM.on hb5
                replace DH := DH.on hb5
                replace DZ := DZ.on hb5
                replace DK := DK.on hb5
                replace hO := hO.on_ hb5
                replace bz := bz.trans (hb5.mono bz.size)
                clear hb5
                replace h := h.drew
                replace hv := hv.drew
                replace DM := DM.drew
                replace DH := DH.drew
                replace DZ := DZ.drew
                replace DK := DK.drew
                replace hO := hO.drew
                replace bz := bz.drew
                have hcA := h.2.1.at_some (k := z) (by rw [hll]; exact hzn)
                rw [hYA] at hcA
                refine wp_region_held_drew (S := fun w9 : World => Mbx w9 w.heap.size M q (some adA) n c ∧ Mbx w9 KK M q (some ⟨g2, 0, none⟩) n c2 ∧ w9.cell? (adA.add z) = some (.float .f64 YA)) (by kernel_rfl) ⟨DM, DK, hcA⟩ (fun hS => ?_)
                refine wpAnyH_take (i := 0) (v := ?v0_61) rfl (by kernel_rfl) (by kernel_rfl) (by kernel_rfl) (fun _ _ _ h => h) (Or.inl ⟨by rfl, ?hy0_61⟩) (by assumption) ?rest0_61
                case hy0_61 => (intro w9 hSw; clear hSw; go_simp; try with_reducible rfl)
                try simp only [Act.put, List.setIfInBounds_toArray, List.set_cons_zero, List.set_cons_succ, List.getElem_toArray, List.getElem_cons_zero, List.getElem_cons_succ]
                refine wpAnyH_take (i := 1) (v := ?v1_62) rfl (by kernel_rfl) (by kernel_rfl) (by kernel_rfl) (fun _ _ _ h => h) (Or.inl ⟨by rfl, ?hy1_62⟩) (by assumption) ?rest1_62
                case hy1_62 => (intro w9 hSw; obtain ⟨ma1, ma2, ma3⟩ := hSw; obtain ⟨y0, y1, y2, _, _, _⟩ := Mbx.cells ma1; obtain ⟨u0, u1, u2, _, _, _⟩ := Mbx.cells ma2; go_simp; try with_reducible rfl)
                try simp only [Act.put, List.setIfInBounds_toArray, List.set_cons_zero, List.set_cons_succ, List.getElem_toArray, List.getElem_cons_zero, List.getElem_cons_succ]
                refine wpAnyH_take (i := 2) (v := ?v2_63) rfl (by kernel_rfl) (by kernel_rfl) (by kernel_rfl) (fun _ _ _ h => h) (Or.inl ⟨by rfl, ?hy2_63⟩) (by assumption) ?rest2_63
                case hy2_63 => (intro w9 hSw; clear hSw; go_simp; try with_reducible rfl)
                try simp only [Act.put, List.setIfInBounds_toArray, List.set_cons_zero, List.set_cons_succ, List.getElem_toArray, List.getElem_cons_zero, List.getElem_cons_succ]
                refine wpAnyH_take (i := 3) (v := ?v3_64) rfl (by kernel_rfl) (by kernel_rfl) (by kernel_rfl) (fun _ _ _ h => h) (Or.inl ⟨by rfl, ?hy3_64⟩) (by assumption) ?rest3_64
                case hy3_64 => (intro w9 hSw; clear hSw; go_simp; try with_reducible rfl)
                try simp only [Act.put, List.setIfInBounds_toArray, List.set_cons_zero, List.set_cons_succ, List.getElem_toArray, List.getElem_cons_zero, List.getElem_cons_succ]
                refine wpAnyH_take (i := 4) (v := ?v4_65) rfl (by kernel_rfl) (by kernel_rfl) (by kernel_rfl) (fun _ _ _ h => h) (Or.inl ⟨by rfl, ?hy4_65⟩) (by assumption) ?rest4_65
                case hy4_65 => (intro w9 hSw; obtain ⟨ma1, ma2, ma3⟩ := hSw; obtain ⟨y0, y1, y2, _, _, _⟩ := Mbx.cells ma1; obtain ⟨u0, u1, u2, _, _, _⟩ := Mbx.cells ma2; go_simp; try with_reducible rfl)
                try simp only [Act.put, List.setIfInBounds_toArray, List.set_cons_zero, List.set_cons_succ, List.getElem_toArray, List.getElem_cons_zero, List.getElem_cons_succ]
                refine wpAnyH_take (i := 5) (v := ?v5_66) rfl (by kernel_rfl) (by kernel_rfl) (by kernel_rfl) (fun _ _ _ h => h) (Or.inl ⟨by rfl, ?hy5_66⟩) (by assumption) ?rest5_66
                case hy5_66 => (intro w9 hSw; clear hSw; go_simp; try with_reducible rfl)
                try simp only [Act.put, List.setIfInBounds_toArray, List.set_cons_zero, List.set_cons_succ, List.getElem_toArray, List.getElem_cons_zero, List.getElem_cons_succ]
                refine wpAnyH_take (i := 6) (v := ?v6_67) rfl (by kernel_rfl) (by kernel_rfl) (by kernel_rfl) (fun _ _ _ h => h) (Or.inl ⟨by rfl, ?hy6_67⟩) (by assumption) ?rest6_67
                case hy6_67 => (intro w9 hSw; clear hSw; go_simp; try with_reducible rfl)
                try simp only [Act.put, List.setIfInBounds_toArray, List.set_cons_zero, List.set_cons_succ, List.getElem_toArray, List.getElem_cons_zero, List.getElem_cons_succ]
                refine wpAnyH_take (i := 7) (v := ?v7_68) rfl (by kernel_rfl) (by kernel_rfl) (by kernel_rfl) (fun _ _ _ h => h) (Or.inl ⟨by rfl, ?hy7_68⟩) (by assumption) ?rest7_68
                case hy7_68 => (intro w9 hSw; clear hSw; go_simp; try with_reducible rfl)
                try simp only [Act.put, List.setIfInBounds_toArray, List.set_cons_zero, List.set_cons_succ, List.getElem_toArray, List.getElem_cons_zero, List.getElem_cons_succ]
                refine wpAnyH_take (i := 8) (v := ?v8_69) rfl (by kernel_rfl) (by kernel_rfl) (by kernel_rfl) (fun _ _ _ h => h) (Or.inl ⟨by rfl, ?hy8_69⟩) (by assumption) ?rest8_69
                case hy8_69 => (intro w9 hSw; clear hSw; go_simp; try with_reducible rfl)
                try simp only [Act.put, List.setIfInBounds_toArray, List.set_cons_zero, List.set_cons_succ, List.getElem_toArray, List.getElem_cons_zero, List.getElem_cons_succ]
                refine wpAnyH_take (i := 9) (v := ?v9_70) rfl (by kernel_rfl) (by kernel_rfl) (by kernel_rfl) (fun _ _ _ h => h) (Or.inl ⟨by rfl, ?hy9_70⟩) (by assumption) ?rest9_70
                case hy9_70 => (intro w9 hSw; clear hSw; go_simp; try with_reducible rfl)
                try simp only [Act.put, List.setIfInBounds_toArray, List.set_cons_zero, List.set_cons_succ, List.getElem_toArray, List.getElem_cons_zero, List.getElem_cons_succ]
                refine wpAnyH_take (i := 10) (v := ?v10_71) rfl (by kernel_rfl) (by kernel_rfl) (by kernel_rfl) (fun _ _ _ h => h) (Or.inl ⟨by rfl, ?hy10_71⟩) (by assumption) ?rest10_71
                case hy10_71 => (intro w9 hSw; clear hSw; go_simp; try with_reducible rfl)
                try simp only [Act.put, List.setIfInBounds_toArray, List.set_cons_zero, List.set_cons_succ, List.getElem_toArray, List.getElem_cons_zero, List.getElem_cons_succ]
                refine wpAnyH_take (i := 11) (v := ?v11_72) rfl (by kernel_rfl) (by kernel_rfl) (by kernel_rfl) (fun _ _ _ h => h) (Or.inl ⟨by rfl, ?hy11_72⟩) (by assumption) ?rest11_72
                case hy11_72 => (intro w9 hSw; obtain ⟨ma1, ma2, ma3⟩ := hSw; obtain ⟨y0, y1, y2, _, _, _⟩ := Mbx.cells ma1; obtain ⟨u0, u1, u2, _, _, _⟩ := Mbx.cells ma2; go_simp; try with_reducible rfl)
                try simp only [Act.put, List.setIfInBounds_toArray, List.set_cons_zero, List.set_cons_succ, List.getElem_toArray, List.getElem_cons_zero, List.getElem_cons_succ]
                refine wpAnyH_take (i := 12) (v := ?v12_73) rfl (by kernel_rfl) (by kernel_rfl) (by kernel_rfl) (fun _ _ _ h => h) (Or.inl ⟨by rfl, ?hy12_73⟩) (by assumption) ?rest12_73
                case hy12_73 => (intro w9 hSw; clear hSw; go_simp; try with_reducible rfl)
                try simp only [Act.put, List.setIfInBounds_toArray, List.set_cons_zero, List.set_cons_succ, List.getElem_toArray, List.getElem_cons_zero, List.getElem_cons_succ]
                refine wpAnyH_take (i := 13) (v := ?v13_74) rfl (by kernel_rfl) (by kernel_rfl) (by kernel_rfl) (fun _ _ _ h => h) (Or.inl ⟨by rfl, ?hy13_74⟩) (by assumption) ?rest13_74
                case hy13_74 => (intro w9 hSw; clear hSw; go_simp; try with_reducible rfl)
                try simp only [Act.put, List.setIfInBounds_toArray, List.set_cons_zero, List.set_cons_succ, List.getElem_toArray, List.getElem_cons_zero, List.getElem_cons_succ]
                refine wpAnyH_take (i := 14) (v := ?v14_75) rfl (by kernel_rfl) (by kernel_rfl) (by kernel_rfl) (fun _ _ _ h => h) (Or.inl ⟨by rfl, ?hy14_75⟩) (by assumption) ?rest14_75
                case hy14_75 => (intro w9 hSw; obtain ⟨ma1, ma2, ma3⟩ := hSw; obtain ⟨y0, y1, y2, _, _, _⟩ := Mbx.cells ma1; obtain ⟨u0, u1, u2, _, _, _⟩ := Mbx.cells ma2; go_simp; try with_reducible rfl)
                try simp only [Act.put, List.setIfInBounds_toArray, List.set_cons_zero, List.set_cons_succ, List.getElem_toArray, List.getElem_cons_zero, List.getElem_cons_succ]
                refine wpAnyH_take (i := 15) (v := ?v15_76) rfl (by kernel_rfl) (by kernel_rfl) (by kernel_rfl) (fun _ _ _ h => h) (Or.inl ⟨by rfl, ?hy15_76⟩) (by assumption) ?rest15_76
                case hy15_76 => (intro w9 hSw; clear hSw; go_simp; try with_reducible rfl)
                try simp only [Act.put, List.setIfInBounds_toArray, List.set_cons_zero, List.set_cons_succ, List.getElem_toArray, List.getElem_cons_zero, List.getElem_cons_succ]
                refine wpAnyH_take (i := 16) (v := ?v16_77) rfl (by kernel_rfl) (by kernel_rfl) (by kernel_rfl) (fun _ _ _ h => h) (Or.inl ⟨by rfl, ?hy16_77⟩) (by assumption) ?rest16_77
                case hy16_77 => (intro w9 hSw; clear hSw; go_simp; try with_reducible rfl)
                try simp only [Act.put, List.setIfInBounds_toArray, List.set_cons_zero, List.set_cons_succ, List.getElem_toArray, List.getElem_cons_zero, List.getElem_cons_succ]
                refine wpAnyH_take (i := 17) (v := ?v17_78) rfl (by kernel_rfl) (by kernel_rfl) (by kernel_rfl) (fun _ _ _ h => h) (Or.inl ⟨by rfl, ?hy17_78⟩) (by assumption) ?rest17_78
                case hy17_78 => (intro w9 hSw; clear hSw; go_simp; try with_reducible rfl)
                try simp only [Act.put, List.setIfInBounds_toArray, List.set_cons_zero, List.set_cons_succ, List.getElem_toArray, List.getElem_cons_zero, List.getElem_cons_succ]
                refine wpAnyH_take (i := 18) (v := ?v18_79) rfl (by kernel_rfl) (by kernel_rfl) (by kernel_rfl) (fun _ _ _ h => h) (Or.inl ⟨by rfl, ?hy18_79⟩) (by assumption) ?rest18_79
                case hy18_79 => (intro w9 hSw; clear hSw; go_simp; try with_reducible rfl)
                try simp only [Act.put, List.setIfInBounds_toArray, List.set_cons_zero, List.set_cons_succ, List.getElem_toArray, List.getElem_cons_zero, List.getElem_cons_succ]
                refine wpAnyH_take (i := 19) (v := ?v19_80) rfl (by kernel_rfl) (by kernel_rfl) (by kernel_rfl) (fun _ _ _ h => h) (Or.inl ⟨by rfl, ?hy19_80⟩) (by assumption) ?rest19_80
                case hy19_80 => (intro w9 hSw; clear hSw; go_simp; try with_reducible rfl)
                try simp only [Act.put, List.setIfInBounds_toArray, List.set_cons_zero, List.set_cons_succ, List.getElem_toArray, List.getElem_cons_zero, List.getElem_cons_succ]
                refine wpAnyH_take (i := 20) (v := ?v20_81) rfl (by kernel_rfl) (by kernel_rfl) (by kernel_rfl) (fun _ _ _ h => h) (Or.inl ⟨by rfl, ?hy20_81⟩) (by assumption) ?rest20_81
                case hy20_81 => (intro w9 hSw; clear hSw; go_simp; try with_reducible rfl)
                try simp only [Act.put, List.setIfInBounds_toArray, List.set_cons_zero, List.set_cons_succ, List.getElem_toArray, List.getElem_cons_zero, List.getElem_cons_succ]
                refine wpAnyH_take (i := 21) (v := ?v21_82) rfl (by kernel_rfl) (by kernel_rfl) (by kernel_rfl) (fun _ _ _ h => h) (Or.inl ⟨by rfl, ?hy21_82⟩) (by assumption) ?rest21_82
                case hy21_82 => (intro w9 hSw; obtain ⟨ma1, ma2, ma3⟩ := hSw; obtain ⟨y0, y1, y2, _, _, _⟩ := Mbx.cells ma1; obtain ⟨u0, u1, u2, _, _, _⟩ := Mbx.cells ma2; go_simp; try with_reducible rfl)
                try simp only [Act.put, List.setIfInBounds_toArray, List.set_cons_zero, List.set_cons_succ, List.getElem_toArray, List.getElem_cons_zero, List.getElem_cons_succ]
                refine wpAnyH_take (i := 22) (v := ?v22_83) rfl (by kernel_rfl) (by kernel_rfl) (by kernel_rfl) (fun _ _ _ h => h) (Or.inl ⟨by rfl, ?hy22_83⟩) (by assumption) ?rest22_83
                case hy22_83 => (intro w9 hSw; clear hSw; go_simp; try with_reducible rfl)
                try simp only [Act.put, List.setIfInBounds_toArray, List.set_cons_zero, List.set_cons_succ, List.getElem_toArray, List.getElem_cons_zero, List.getElem_cons_succ]
                refine wpAnyH_ready (rs := [23]) (by kernel_rfl) (by simp) ?_
                refine AllReadyH.cons rfl (fun K hK => ?_) AllReadyH.nil
                refine step_arith .sub (.inr (.inl rfl)) rfl _ _ _ _ YA r5 rfl rfl rfl bA b5 ?_
                intro r6 w16 hb h6 b6 hdr
                have H6 := Lib.hid h6
                clear h6 hdr
                replace h := h.on hb
                replace hv := hv.on hb
                replace DM := DM.on hb
                replace DH := DH.on hb
                replace DZ := DZ.on hb
                replace DK := DK.on hb
                replace hO := hO.on_ hb
                replace bz := bz.trans (hb.mono bz.size)
                clear hb
                replace hcA := h.2.1.at_some (k := z) (by rw [hll]; exact hzn)
                rw [hYA] at hcA
                clear hS; refine hK.out _ _ ⟨DM, DK, hcA⟩ (fun hS => ?_); clear hK K
                try simp only [Act.put, List.setIfInBounds_toArray, List.set_cons_zero, List.set_cons_succ, List.getElem_toArray, List.getElem_cons_zero, List.getElem_cons_succ]
                refine wpAnyH_take (i := 24) (v := ?v24_84) rfl (by kernel_rfl) (by kernel_rfl) (by kernel_rfl) (fun _ _ _ h => h) (Or.inl ⟨by rfl, ?hy24_84⟩) (by assumption) ?rest24_84
                case hy24_84 => (intro w9 hSw; clear hSw; go_simp; try with_reducible rfl)
                try simp only [Act.put, List.setIfInBounds_toArray, List.set_cons_zero, List.set_cons_succ, List.getElem_toArray, List.getElem_cons_zero, List.getElem_cons_succ]
                obtain ⟨hy4, hy5⟩ := hO.at' (k := z) (by rw [hlen2, hLn]; exact hzn)
                refine wpAnyH_ready (rs := [25]) (by kernel_rfl) (by simp) ?_
                refine AllReadyH.cons rfl (fun K hK => ?_) AllReadyH.nil
                go_simp
                clear hy4 hy5
                have hgs : w16.grownBy (w16.setCell ⟨g2, z, none⟩ (.float .f64 r6)) (some g2) := grown_setCell (World.grownBy.refl w16 _) _ _
                replace DM := DM.grown hgs (by simp; have := hgt2 _ rfl; simp at this; omega)
                replace DH := DH.grown hgs (by simp; have := hgt2 _ rfl; simp at this; omega)
                replace DZ := DZ.grown hgs (by simp; have := hgt2 _ rfl; simp at this; omega)
                replace DK := DK.grown hgs (by simp; have := hgX _ rfl; simp at this; omega)
                replace h := h.farB hgs (fun a e => by injection e with e; subst e; exact hAg)
                replace hv := hv.farB hgs (fun a e => by injection e with e; subst e; exact hVg)
                have hO9 : OwnF (w16.setCell ⟨g2, z, none⟩ (.float .f64 r6)) w.heap.size (some ⟨g2, 0, none⟩) c2 (L2.set z r6) := hO.set_ z r6
                replace bz := bz.setCell (p := ⟨g2, z, none⟩) (by have := hgt2 _ rfl; simp at this ⊢; omega) (.float .f64 r6)
                replace hcA := h.2.1.at_some (k := z) (by rw [hll]; exact hzn)
                rw [hYA] at hcA
                clear hS; refine hK.out _ _ ⟨DM, DK, hcA⟩ (fun hS => ?_); clear hK K
                try simp only [Act.put, List.setIfInBounds_toArray, List.set_cons_zero, List.set_cons_succ, List.getElem_toArray, List.getElem_cons_zero, List.getElem_cons_succ]
                refine wpAnyH_done (by kernel_rfl) ?_ _
                have hT4 := hT.next (x := (r6 : Int)) (by omega) (by omega) (by show kk * q + p + j2 * 1 < _; rw [hpos, hLn]; exact hzn) (fun i hi e => by have e2 : kk * q + p + i * 1 = kk * q + p + j2 * 1 := e; omega) (by rw [fa_nat, H6.out, H5.out, HAz.out]; rfl)
                have hT5 : Tn L (L2.set z r6) (fun i => kk * q + p + i * 1) (j2 + 1) (lnF v (fun i => ma l q kk (p + i)) (af t) j) := by have h9 := hT4; simp only [hpos] at h9; exact h9
                clear hT4 hT hO
                go_wp2_with fail
                go_roundw
                case rel => first | exact ⟨j2 + 1, _, by omega, by go_num, hT5, hO9, h, hv, DM, DH, DZ, DK, bz⟩ | exact ⟨j2 + 1, _, by omega, by omega, hT5, hO9, h, hv, DM, DH, DZ, DK, bz⟩
                case measure => simp [intOf]; omega
              · obtain rfl : j2 = j := by omega
                have hT9 : Tn L L2 (fun i => kk * q + p + i * 1) (if eqA (af t) (some 0) = true then 0 else j2) (lnF v (fun i => fa (D L (kk * q + p + i * 1))) (af t) j2) := by
                  rw [HZ.out, if_neg (by decide)]
                  refine ⟨hT.len, hT.wd, fun i hi => (hT.new i hi).trans ?_, hT.old⟩
                  refine lnF_congr (fun i hi => ?_) hi
                  show ma l q _ _ = fa (D L _)
                  rw [show kk * q + p + i * 1 = kk * q + (p + i) by omega]
                  exact (hMr.old kk (p + i) (by omega) (by omega) (by unfold rP; simp <;> omega)).symm
                have hM9 := hMr.right (o := kk * q + p) (by rw [hkk]) (by omega) hp hT9
                clear hT hMr
                go_wp2_with fail
                go_roundw
                case rel => exact ⟨k + 1, L2, by omega, by go_num, hM9, hO, h, hv, DM, DH, DZ, DK, bz⟩
                case measure => simp [intOf]; omega
      · obtain rfl : k = M - f := by omega
        have kk2 : ¬ (kk : Int) < (M : Int) := by omega
        obtain ⟨y0, y1, y2, y3, y4, y5⟩ := Mbx.cells DM
        obtain ⟨u0, u1, u2, u3⟩ := Rbx.cells DH
        obtain ⟨v0, v1, v2, v3, v4, v5⟩ := Mbx.cells DK
        obtain ⟨z0, z1, z2, z3, z4, z5⟩ := Mbx.cells DZ
        have DZ9 := Mbx.put DZ M q A2 n c2
        obtain ⟨c00, c11, c22, _, _, _⟩ := Mbx.cells DZ9
        have hO9 := hO.grown_ (row := some (w.heap.size + 1 + 1)) (w' := ((wr.setCell ⟨w.heap.size + 1 + 1, 0, none⟩ (.int .i64 M)).setCell ⟨w.heap.size + 1 + 1, 1, none⟩ (.int .i64 q)).setCell ⟨w.heap.size + 1 + 1, 2, none⟩ (.slice A2 n c2)) (grown_setCell (grown_setCell (grown_setCell (World.grownBy.refl wr _) 0 _) 1 _) 2 _) (fun a e => by have := hgt2 a e; simp; omega)
        have bz9 := ((bz.setCell (p := ⟨w.heap.size + 1 + 1, 0, none⟩) (by simp; omega) (.int .i64 M)).setCell (p := ⟨w.heap.size + 1 + 1, 1, none⟩) (by simp; omega) (.int .i64 q)).setCell (p := ⟨w.heap.size + 1 + 1, 2, none⟩) (by simp; omega) (.slice A2 n c2)
        have hI := hMr.is
        rw [← HN.out] at hI
        go_wp2_with fail
        refine bodyPost_ret (v := mV M q A2 n c2) (by simp [results, Try.results43, go_sem, c00, c11, c22]) rfl ?_
        exact ⟨A2, c2, L, rfl, hO9, hI, bz9⟩
  · rw [cz] at HZ
    clear y0 y1 y2 y3 y4 y5 u0 u1 u2 u3 k0 k1 k2 k3 k4 k5
    obtain ⟨y0, y1, y2, y3, y4, y5⟩ := Mbx.cells DM
    obtain ⟨u0, u1, u2, u3⟩ := Rbx.cells DH
    obtain ⟨v0, v1, v2, v3, v4, v5⟩ := Mbx.cells DK
    obtain ⟨z0, z1, z2, z3, z4, z5⟩ := Mbx.cells DZ
    have DZ9 := Mbx.put DZ M q A2 n c2
    obtain ⟨c00, c11, c22, _, _, _⟩ := Mbx.cells DZ9
    have hO9 := hO.grown_ (row := some (w.heap.size + 1 + 1)) (w' := (((w1.alloc (.cells #[.int .i64 M, .int .i64 q, .slice A2 n c2] 24)).setCell ⟨w.heap.size + 1 + 1, 0, none⟩ (.int .i64 M)).setCell ⟨w.heap.size + 1 + 1, 1, none⟩ (.int .i64 q)).setCell ⟨w.heap.size + 1 + 1, 2, none⟩ (.slice A2 n c2)) (grown_setCell (grown_setCell (grown_setCell (World.grownBy.refl (w1.alloc (.cells #[.int .i64 M, .int .i64 q, .slice A2 n c2] 24)) _) 0 _) 1 _) 2 _) (fun a e => by have := hgt2 a e; simp; omega)
    have bz9 := ((bz.setCell (p := ⟨w.heap.size + 1 + 1, 0, none⟩) (by simp; omega) (.int .i64 M)).setCell (p := ⟨w.heap.size + 1 + 1, 1, none⟩) (by simp; omega) (.int .i64 q)).setCell (p := ⟨w.heap.size + 1 + 1, 2, none⟩) (by simp; omega) (.slice A2 n c2)
    have hI := Is.refl h.2.2
    rw [hll] at hI
    go_wp2_with fail
    refine bodyPost_ret (v := mV M q A2 n c2) (by simp [results, Try.results43, go_sem, c00, c11, c22]) rfl ?_
    exact ⟨A2, c2, l, rfl, hO9, hI.congr (fun i _ => by unfold tg rP; rw [HZ.out]; simp), bz9⟩
end Go.Proofs.Ytbaeabmmokgomaa
