/-
  Layer 7, walks: the reference's Shares.
-/
import Derived.Test.YtceoefgjjekgaaaVxI
namespace Go.Proofs.Ytceoefgjjekgaaa
open Go.RowKit Go.Bw Go.Sort Go.Shelf
set_option linter.unusedVariables false
set_option linter.unusedSimpArgs false

/-- have two lists a number in common? -/
def shR (a b : List Int) : Bool := decide (∃ i, i < a.length ∧ ∃ k, k < b.length ∧ D a i = D b k)

section
variable {w : World} {A : Option Addr} {n cd c s : Nat} {r r2 : Ru} {v u : Vu} {K : Int} {B : Nat} {l : List Int}
set_option maxRecDepth 100000 in
set_option maxHeartbeats 4000000 in
theorem rShares_any (h : Rk w A n cd r v c) (h2 : Rk w A n cd r2 u c) :
    Calls Try.prog 43 #[r.V, r2.V] w (Ans w (.bool (shR (v.ats c) (u.ats c)))) := by
  have DR := (Blk.new w r.L 51).alloc (.cells r2.L.toArray 51)
  have D2 := Blk.new (w.alloc (.cells r.L.toArray 51)) r2.L 51
  rw [World.size_alloc] at D2
  have bw := ((Below.refl _ w).alloc (Nat.le_refl _) (.cells r.L.toArray 51)).alloc (by simp) (.cells r2.L.toArray 51)
  have g1 := (h.on bw).num
  have g2 := (h2.on bw).num
  have l1 := h.n2
  have l2 := h2.n2
  obtain ⟨L1, hL1⟩ : ∃ L, v.ats c = L := ⟨_, rfl⟩
  obtain ⟨L2, hL2⟩ : ∃ L, u.ats c = L := ⟨_, rfl⟩
  rw [hL1] at g1 l1 ⊢
  rw [hL2] at g2 l2 ⊢
  have m1 := g1.length
  have m2 := g2.length
  clear h h2 hL1 hL2
  obtain ⟨RES, hRES⟩ : ∃ R, shR L1 L2 = R := ⟨_, rfl⟩
  rw [hRES]
  have HY := Lib.hid (show ∀ i k, i < L1.length → k < L2.length → D L1 i = D L2 k → RES = true from fun i k hi hk e => by rw [← hRES]; exact decide_eq_true ⟨i, hi, k, hk, e⟩)
  have HN := Lib.hid (show (∀ i k, i < L1.length → k < L2.length → D L1 i ≠ D L2 k) → RES = false from fun g => by rw [← hRES]; exact decide_eq_false (fun ⟨i, hi, k, hk, e⟩ => g i k hi hk e))
  clear hRES
  obtain ⟨A', n', c', R, C, A2, n2, c2, b⟩ := r
  obtain ⟨A3, n3, c3, R3, C3, A4, n4, c4, b4⟩ := r2
  simp only at g1 g2 l1 l2
  subst l1 l2
  obtain ⟨k0, k1, k2, k3, k4⟩ := Rbx.cells DR
  obtain ⟨z0, z1, z2, z3, z4⟩ := Rbx.cells D2
  go_enter Try.func43, Try.ntmps43
  go_wp2_with fail
  generalize (w.alloc _).alloc _ = W at DR D2 bw g1 g2 k0 k1 k2 k3 k4 z0 z1 z2 z3 z4 ⊢
  go_loopw [5] (fun i wr => ∃ (a t : Nat), a ≤ L1.length ∧ i = .int .i64 a ∧ wr = W.drewN t ∧ Hid (∀ a', a' < a → ∀ b', b' < L2.length → D L1 a' ≠ D L2 b')) (fun i _ => L1.length - (intOf i).toNat)
  case atStart => exact ⟨0, 0, Nat.zero_le _, rfl, rfl, Lib.hid (fun a' ha => by omega)⟩
  case round =>
    obtain ⟨a, t, ha, rfl, rfl, HA⟩ := hrel
    by_cases hla : a < L1.length
    · go_wp2_with fail
      go_loopw [6] (fun i wr => ∃ (b t : Nat), b ≤ L2.length ∧ i = .int .i64 b ∧ wr = W.drewN t ∧ Hid (∀ b', b' < b → D L1 a ≠ D L2 b')) (fun i _ => L2.length - (intOf i).toNat)
      case atStart => exact ⟨0, t, Nat.zero_le _, rfl, rfl, Lib.hid (fun a' ha => by omega)⟩
      case round =>
        obtain ⟨b, t2, hb, rfl, rfl, HB⟩ := hrel
        by_cases hlb : b < L2.length
        · obtain ⟨ad, rfl, hbl, hc⟩ := g1.at_ hla
          obtain ⟨ad2, rfl, hbl2, hc2⟩ := g2.at_ hlb
          have i0 : (0 : Int) ≤ a := by omega
          have i1 : (a : Int) < L1.length := by omega
          have j0 : (0 : Int) ≤ b := by omega
          have j1 : (b : Int) < L2.length := by omega
          have HYK := Lib.hid (HY.out a b hla hlb)
          have HBK := Lib.hid (show D L1 a ≠ D L2 b → ∀ b', b' < b + 1 → D L1 a ≠ D L2 b' from fun hne b' hb' => by
            rcases Nat.lt_or_ge b' b with q | q
            · exact HB.out b' q
            · obtain rfl : b' = b := by omega
              exact hne)
          obtain ⟨X, hX⟩ : ∃ X, D L1 a = X := ⟨_, rfl⟩
          obtain ⟨Y, hY⟩ : ∃ Y, D L2 b = Y := ⟨_, rfl⟩
          rw [hX] at hc HYK
          rw [hY] at hc2 HYK
          have HBK2 := Lib.hid (show X ≠ Y → ∀ b', b' < b + 1 → D L1 a ≠ D L2 b' from fun hne => HBK.out (by rw [hX, hY]; exact hne))
          clear hX hY HBK
          by_cases hxy : X = Y
          · have dx : (X == Y) = true := by simp [hxy]
            have hRT := HYK.out hxy
            subst hRT
            clear hxy
            go_wp2_with fail
            go_quiet (fail)
            go_wp2_with fail
            go_ret
            exact ⟨rfl, below_drewN (below_drewN bw _) _⟩
          · have dx : (X == Y) = false := by simp [hxy]
            have HB3 := Lib.hid (HBK2.out hxy)
            clear hxy
            go_wp2_with fail
            go_quiet (fail)
            go_wp2_with fail
            go_roundw
            case rel => exact ⟨b + 1, _, by omega, by go_num, by first | rfl | simp, HB3⟩
            case measure => simp [intOf]; omega
        · obtain rfl : b = L2.length := by omega
          have HA2 := Lib.hid (show ∀ a', a' < a + 1 → ∀ b', b' < L2.length → D L1 a' ≠ D L2 b' from fun a' ha' b' hb' => by
            rcases Nat.lt_or_ge a' a with q | q
            · exact HA.out a' q b' hb'
            · obtain rfl : a' = a := by omega
              exact HB.out b' hb')
          go_wp2_with fail
          go_roundw
          case rel => exact ⟨a + 1, _, by omega, by go_num, by first | rfl | simp, HA2⟩
          case measure => simp [intOf]; omega
    · obtain rfl : a = L1.length := by omega
      have hRF := HN.out (fun i k hi hk => HA.out i hi k hk)
      subst hRF
      go_wp2_with fail
      go_ret
      exact ⟨rfl, below_drewN bw _⟩
end
end Go.Proofs.Ytceoefgjjekgaaa
