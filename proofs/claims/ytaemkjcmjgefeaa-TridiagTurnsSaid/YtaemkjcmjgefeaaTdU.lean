/-
  Layer 10, walks: I, and whether reflections belong to n rows, by the program.
-/
import Derived.Test.YtaemkjcmjgefeaaTdW
import Derived.Test.YtaemkjcmjgefeaaTdG
namespace Go.Proofs.Ytaemkjcmjgefeaa
open Go.RowKit Go.Bw
set_option linter.unusedVariables false
set_option linter.unusedSimpArgs false
attribute [local go_sem] run_store_float

set_option maxRecDepth 100000 in
set_option maxHeartbeats 8000000 in
theorem tunit_any (n : Nat) (hn : n ≤ 512) (w : World) : Calls Try.prog 35 #[.int .i64 n] w (MatQ w n n (n * n) (oneF n n)) := by
  have h0 := oneF_zero n
  obtain ⟨N, hN⟩ : ∃ N, n * n = N := ⟨_, rfl⟩
  have n4 : N ≤ 262144 := by rw [← hN]; exact Nat.le_trans (Nat.mul_le_mul hn hn) (by decide)
  have pn := fun W => tnoughts_any (N := N) hN.symm hn W
  rw [hN] at h0 ⊢
  have HN := Lib.hid hN
  clear hN
  have DZ := Blk.new w [.int .i64 0, .int .i64 0, .slice none 0 0] 24
  have bz := (Below.refl _ w).alloc (Nat.le_refl _) (.cells #[.int .i64 0, .int .i64 0, .slice none 0 0] 24)
  go_enter Try.func35, Try.ntmps35
  go_wp2_with fail
  with_reducible refine (pn _).mono ?_
  rintro e w1 ⟨g, rfl, HR, hg, hb⟩
  rw [World.size_alloc] at hg
  replace DZ := DZ.on hb
  replace bz := bz.trans (hb.mono bz.size)
  have DK := Blk.new w1 [.int .i64 n, .int .i64 n, .slice (some ⟨g, 0, none⟩) N N] 24
  obtain ⟨KK, eK⟩ : ∃ H, w1.heap.size = H := ⟨_, rfl⟩
  have hgK := HR.lt
  rw [eK] at DK hgK
  replace DZ := DZ.alloc (.cells #[.int .i64 n, .int .i64 n, .slice (some ⟨g, 0, none⟩) N N] 24)
  replace HR := HR.alloc (.cells #[.int .i64 n, .int .i64 n, .slice (some ⟨g, 0, none⟩) N N] 24)
  replace bz := bz.alloc bz.size (.cells #[.int .i64 n, .int .i64 n, .slice (some ⟨g, 0, none⟩) N N] 24)
  clear hb pn
  go_wp2_with fail
  try simp only [eK] at ⊢
  clear eK
  generalize w1.alloc (.cells #[.int .i64 n, .int .i64 n, .slice (some ⟨g, 0, none⟩) N N] 24) = W2 at DZ HR DK bz ⊢
  go_loopw [8, 4] (fun i i2 wr => ∃ (k : Nat) (L : List Int), k ≤ n ∧ i = .int .i64 k ∧ Is L N (oneF n k) ∧ RowF wr g L ∧ Mbx wr w.heap.size 0 0 none 0 0 ∧ Mbx wr KK n n (some ⟨g, 0, none⟩) N N ∧ Below w.heap.size w wr) (fun i _ _ => n - (intOf i).toNat)
  case atStart => exact ⟨0, _, Nat.zero_le _, rfl, h0, HR, DZ, DK, bz⟩
  case round =>
    clear h0 HR DZ DK bz
    obtain ⟨k, L, hk, rfl, hI, HR, DZ, DK, bz⟩ := hrel
    obtain ⟨k0, k1, k2, k3, k4, k5⟩ := Mbx.cells DK
    have hlen := hI.len
    by_cases hlt : k < n
    · obtain ⟨y, hy⟩ : ∃ y, k * n = y := ⟨_, rfl⟩
      obtain ⟨z, hz⟩ : ∃ z, y + k = z := ⟨_, rfl⟩
      have hzN : z < N := by rw [← hz, ← hy, ← HN.out]; exact ix_lt hlt hlt
      have hI2 := oneF_next hI hlt (by rw [hy]; exact hz) hzN
      have ey : (k : Int) * (n : Int) = (y : Int) := by exact_mod_cast hy
      have ez : (y : Int) + (k : Int) = (z : Int) := by omega
      have wy : IntKind.i64.wrap (y : Int) = (y : Int) := IntWalk.i64_in _ (by omega)
      have wz : IntKind.i64.wrap (z : Int) = (z : Int) := IntWalk.i64_in _ (by omega)
      have z0 : (0 : Int) ≤ z := by omega
      have z1 : (z : Int) < N := by omega
      have kk : (k : Int) < n := by omega
      obtain ⟨hy4, hy5⟩ := HR.at_ (k := z) (by rw [hlen]; exact hzN)
      clear hy hz
      go_wp2_with fail
      have HR2 : RowF (wr.setCell ⟨g, z, none⟩ (.float .f64 4607182418800017408)) g (L.set z 4607182418800017408) := HR.set_ z 4607182418800017408
      have DZ2 := DZ.far (p := ⟨g, z, none⟩) (by show w.heap.size ≠ g; omega) (.float .f64 4607182418800017408)
      have DK2 := DK.far (p := ⟨g, z, none⟩) (by show KK ≠ g; omega) (.float .f64 4607182418800017408)
      have bz2 := bz.setCell (p := ⟨g, z, none⟩) (by show w.heap.size ≤ g; omega) (.float .f64 4607182418800017408)
      go_roundw
      case rel => exact ⟨k + 1, _, by omega, by go_num, hI2, HR2, DZ2, DK2, bz2⟩
      case measure => simp [intOf]; omega
    · obtain rfl : k = n := by omega
      have kk : ¬ (k : Int) < k := by omega
      obtain ⟨z0, z1, z2, z3, z4, z5⟩ := Mbx.cells DZ
      go_wp2_with fail
      obtain ⟨x0, x1, x2, _, _, _⟩ := Mbx.cells (Mbx.put DZ k k (some ⟨g, 0, none⟩) N N)
      refine bodyPost_ret (v := mV k k (some ⟨g, 0, none⟩) N N) (by simp [results, Try.results35, go_sem, x0, x1, x2]) rfl ?_
      have hgs : wr.grownBy (((wr.setCell ⟨w.heap.size, 0, none⟩ (.int .i64 k)).setCell ⟨w.heap.size, 1, none⟩ (.int .i64 k)).setCell ⟨w.heap.size, 2, none⟩ (.slice (some ⟨g, 0, none⟩) N N)) (some w.heap.size) := grown_setCell (grown_setCell (grown_setCell (World.grownBy.refl wr _) 0 _) 1 _) 2 _
      have hO := (RowF.grown HR hgs (by simp; omega)).owned (B := w.heap.size) (by rw [hlen]; omega) (by omega)
      rw [hlen] at hO
      exact ⟨_, _, L, rfl, hO, hI, bz.grown hgs bz.size (fun b e => by injection e with e; omega)⟩
set_option maxRecDepth 100000 in
set_option maxHeartbeats 8000000 in
theorem treduces_any {n K c : Nat} {A : Option Addr} {hs : List Re} {w : World} {b : Bool} (h : Rl w A K c hs) (n5 : n ≤ 512) (hb : b = true ↔ (K = n - 2 ∧ ∀ (k : Nat) (r : Re), hs[k]? = some r → r.l.length = n - 1 - k)) :
    Calls Try.prog 34 #[.int .i64 n, .slice A K c] w (Ans w (.bool b)) := by
  have HLL := Lib.hid h.1
  have hmx := h.2.1
  have w2 : IntKind.i64.wrap ((n : Int) - 2) = (n : Int) - 2 := IntWalk.i64_in _ (by omega)
  have w1 : IntKind.i64.wrap ((n : Int) - 1) = (n : Int) - 1 := IntWalk.i64_in _ (by omega)
  have HB := Lib.hid hb
  clear hb
  have bz := Below.refl w.heap.size w
  by_cases hK : K = n - 2
  · have HK := Lib.hid hK
    rcases Nat.lt_or_ge n 3 with c1 | c1
    · have K0 : K = 0 := by omega
      clear hK
      subst K0
      have hb1 : b = true := HB.out.2 ⟨HK.out, fun j r hr => by rw [List.eq_nil_of_length_eq_zero HLL.out] at hr; simp at hr⟩
      subst hb1
      rcases Nat.lt_or_ge n 2 with c2 | c2
      · have c3 : ¬ (0 : Int) ≤ (n : Int) - 2 := by omega
        have c4 : (n : Int) - 2 < 0 := by omega
        have c5 : (n : Int) - 2 ≤ 0 := by omega
        have c6 : ¬ (2 : Int) ≤ (n : Int) := by omega
        go_enter Try.func34, Try.ntmps34
        go_wp2_with fail
        go_loopw [15, 5, 6] (fun i i2 i3 wr => i = .int .i64 0 ∧ w = wr) (fun _ _ _ _ => 0)
        case atStart => exact ⟨rfl, rfl⟩
        case round =>
          obtain ⟨rfl, rfl⟩ := hrel
          go_wp2_with fail
          go_ret
          exact ⟨rfl, bz⟩
      · obtain rfl : n = 2 := by omega
        go_enter Try.func34, Try.ntmps34
        go_wp2_with fail
        go_loopw [15, 5, 6] (fun i i2 i3 wr => i = .int .i64 0 ∧ w = wr) (fun _ _ _ _ => 0)
        case atStart => exact ⟨rfl, rfl⟩
        case round =>
          obtain ⟨rfl, rfl⟩ := hrel
          go_wp2_with fail
          go_ret
          exact ⟨rfl, bz⟩
    · obtain ⟨x, hx⟩ : ∃ x, n - 2 = x := ⟨_, rfl⟩
      have e2 : (n : Int) - 2 = (x : Int) := by omega
      have c3 : ¬ (x : Int) ≤ 0 := by omega
      have c4 : (0 : Int) < (x : Int) := by omega
      have c5 : ¬ (x : Int) < 0 := by omega
      have c6 : (0 : Int) ≤ (x : Int) := by omega
      have d0 : ((K : Int) != (x : Int)) = false := by rw [hK, hx]; simp
      rw [e2] at w2
      clear hx hK
      go_enter Try.func34, Try.ntmps34
      go_wp2_with fail
      go_loopw [15, 5, 6] (fun i i2 i3 wr => ∃ (k : Nat), k ≤ K ∧ i = .int .i64 k ∧ Hid (∀ (j : Nat) (r : Re), j < k → hs[j]? = some r → r.l.length = n - 1 - j) ∧ Below w.heap.size w wr) (fun i _ _ _ => K - (intOf i).toNat)
      case atStart => exact ⟨0, Nat.zero_le _, rfl, Lib.hid (fun j r hj => absurd hj (Nat.not_lt_zero j)), bz⟩
      case round =>
        clear bz
        obtain ⟨k, hk, rfl, HG, bz⟩ := hrel
        by_cases hlt : k < K
        · obtain ⟨e, ad, ea, he, rfl, hE, hl, hc0, hc1, hv, bt⟩ := (h.on bz).at_ (k := k) hlt
          have hvm := hv.max
          have k0 : (0 : Int) ≤ k := by omega
          have k1 : (k : Int) < K := by omega
          obtain ⟨y, hy⟩ : ∃ y, n - 1 - k = y := ⟨_, rfl⟩
          have e1 : (n : Int) - 1 - (k : Int) = (y : Int) := by have := HK.out; omega
          have w3 : IntKind.i64.wrap (y : Int) = (y : Int) := IntWalk.i64_in _ (by omega)
          have HY := Lib.hid hy
          have HE := Lib.hid he
          have bz2 := bz.alloc bz.size (.cells #[.slice e.A e.l.length e.c, .float .f64 e.t] 41)
          clear hy he hv
          by_cases hg : e.l.length = y
          · have d : ((e.l.length : Int) != (y : Int)) = false := by rw [hg]; simp
            have HG2 : Hid (∀ (j : Nat) (r : Re), j < k + 1 → hs[j]? = some r → r.l.length = n - 1 - j) := Lib.hid (fun j r hj hr => by
              rcases Nat.lt_or_ge j k with g | g
              · exact HG.out j r g hr
              · obtain rfl : j = k := by omega
                have h9 := HE.out
                rw [h9] at hr
                injection hr with hr
                rw [← hr, hg, HY.out])
            clear hg
            go_wp2_with fail
            go_roundw
            case rel => exact ⟨k + 1, by omega, by go_num, HG2, bz2⟩
            case measure => simp [intOf]; omega
          · have d : ((e.l.length : Int) != (y : Int)) = true := by simpa using (by omega : ¬ (e.l.length : Int) = (y : Int))
            have hb0 : b = false := by
              cases hb9 : b
              · rfl
              · exact absurd ((HB.out.1 hb9).2 k e HE.out) (by rw [HY.out]; exact hg)
            subst hb0
            clear hg
            go_wp2_with fail
            go_ret
            exact ⟨rfl, bz2⟩
        · obtain rfl : k = K := by omega
          have k1 : ¬ (k : Int) < k := by omega
          have hb1 : b = true := HB.out.2 ⟨HK.out, fun j r hr => HG.out j r (by have := (List.getElem?_eq_some_iff.1 hr).1; rw [HLL.out] at this; exact this) hr⟩
          subst hb1
          go_wp2_with fail
          go_ret
          exact ⟨rfl, bz⟩
  · have hb0 : b = false := by
      cases hb9 : b
      · rfl
      · exact absurd (HB.out.1 hb9).1 hK
    subst hb0
    rcases Nat.lt_or_ge n 2 with c2 | c2
    · have c3 : ¬ (0 : Int) ≤ (n : Int) - 2 := by omega
      have c4 : (n : Int) - 2 < 0 := by omega
      have c5 : (n : Int) - 2 ≤ 0 := by omega
      have c6 : ¬ (2 : Int) ≤ (n : Int) := by omega
      have d0 : ((K : Int) != 0) = true := by simpa using (by omega : ¬ (K : Int) = 0)
      have d1 : ¬ (K : Int) = 0 := by omega
      have d2 : ¬ K = 0 := by omega
      clear hK
      go_enter Try.func34, Try.ntmps34
      go_wp2_with fail
      go_ret
      exact ⟨rfl, bz⟩
    · obtain ⟨x, hx⟩ : ∃ x, n - 2 = x := ⟨_, rfl⟩
      have e2 : (n : Int) - 2 = (x : Int) := by omega
      have c6 : (0 : Int) ≤ (x : Int) := by omega
      have d0 : ((K : Int) != (x : Int)) = true := by simpa using (by omega : ¬ (K : Int) = (x : Int))
      rw [e2] at w2
      rcases Nat.eq_zero_or_pos x with x0 | x0
      · subst x0
        have d2 : ((K : Int) != 0) = true := by simpa using d0
        have d1 : ¬ K = 0 := by omega
        clear hx hK
        go_enter Try.func34, Try.ntmps34
        go_wp2_with fail
        go_ret
        exact ⟨rfl, bz⟩
      · have c3 : ¬ (x : Int) ≤ 0 := by omega
        have c4 : (0 : Int) < (x : Int) := by omega
        have c5 : ¬ (x : Int) < 0 := by omega
        clear hx hK
        go_enter Try.func34, Try.ntmps34
        go_wp2_with fail
        go_ret
        exact ⟨rfl, bz⟩
end Go.Proofs.Ytaemkjcmjgefeaa
