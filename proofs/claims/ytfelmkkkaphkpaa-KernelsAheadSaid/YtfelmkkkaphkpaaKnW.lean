/-
  Layer 8, walks: the reference's Trmm. (Written by wip/tools/gen_knw.py.)
-/
import Derived.Test.YtfelmkkkaphkpaaKnT
namespace Go.Proofs.Ytfelmkkkaphkpaa
open Go.RowKit Go.Bw Go.Sort Go.Shelf
set_option linter.unusedVariables false
set_option linter.unusedSimpArgs false
attribute [local go_sem] run_store_float

/-- an entry of a triangle; unit: 1 on its diagonal -/
def trT (unit : Bool) (lt : List Int) (m i k : Nat) : Option Nat := if (unit && decide (k = i)) = true then some 4607182418800017408 else ma lt m i k
/-- the sum over a triangle's places from lo on, up to be -/
def trS (unit : Bool) (lt l : List Int) (m q i j lo be : Nat) : Option Nat := sumA (fun t => aop .mul (trT unit lt m i (lo + t)) (ma l q (lo + t) j)) (be - lo)
theorem trS_next {unit : Bool} {lt l : List Int} {m q i j lo k : Nat} (h : lo ≤ k) : trS unit lt l m q i j lo (k + 1) = aop .add (trS unit lt l m q i j lo k) (aop .mul (trT unit lt m i k) (ma l q k j)) := by
  unfold trS
  rw [show k + 1 - lo = (k - lo) + 1 by omega]
  show aop .add _ (aop .mul (trT unit lt m i (lo + (k - lo))) (ma l q (lo + (k - lo)) j)) = _
  rw [show lo + (k - lo) = k by omega]
theorem trS_start {unit : Bool} {lt l : List Int} {m q i j lo : Nat} : trS unit lt l m q i j lo lo = some 0 := by unfold trS; rw [Nat.sub_self]; rfl
/-- a triangle's row times a column -/
def trA (up unit : Bool) (lt l : List Int) (m q i j : Nat) : Option Nat := trS unit lt l m q i j (if up = true then i else 0) (if up = true then m else i + 1)
theorem af_one : af 4607182418800017408 = some 4607182418800017408 := by decide

section
variable {w : World} {m q n c : Nat} {A : Option Addr} {l : List Int}
set_option maxRecDepth 100000 in
set_option maxHeartbeats 8000000 in
theorem rTrmm_false {up : Bool} {nt ct : Nat} {At : Option Addr} {lt : List Int} (h : FL w A n c l) (hn : n = m * q) (hm : m ≤ 512) (hq : q ≤ 512) (ht : FL w At nt ct lt) (hnt : nt = m * m) :
    Calls Try.prog 48 #[.bool up, .bool false, mV m m At nt ct, mV m q A n c] w (NewMt w m q n (tg (fun a b => true) (fun i j => trA up false lt l m q i j) l q)) := by
  obtain ⟨f, hf⟩ : ∃ f : Nat → Nat → Option Nat, (fun i j => trA up false lt l m q i j) = f := ⟨_, rfl⟩
  have Hf := Lib.hid (show ∀ i j, trA up false lt l m q i j = f i j from fun i j => by rw [← hf])
  rw [hf]
  clear hf
  have hn4 : n ≤ 262144 := by rw [hn]; exact Nat.le_trans (Nat.mul_le_mul hm hq) (by omega)
  have HH := Lib.hid h
  have HN := Lib.hid hn
  clear h hn
  have HT := Lib.hid ht
  have HNT := Lib.hid hnt
  clear ht hnt
  have D0 := Blk.new w [.int .i64 m, .int .i64 m, .slice At nt ct] 24
  have D1 := Blk.new (w.alloc (.cells #[.int .i64 m, .int .i64 m, .slice At nt ct] 24)) [.int .i64 m, .int .i64 q, .slice A n c] 24
  replace D0 := D0.alloc (.cells #[.int .i64 m, .int .i64 q, .slice A n c] 24)
  simp only [World.size_alloc] at D1
  have D2 := Blk.new ((w.alloc (.cells #[.int .i64 m, .int .i64 m, .slice At nt ct] 24)).alloc (.cells #[.int .i64 m, .int .i64 q, .slice A n c] 24)) [.int .i64 0, .int .i64 0, .slice none 0 0] 24
  replace D0 := D0.alloc (.cells #[.int .i64 0, .int .i64 0, .slice none 0 0] 24)
  replace D1 := D1.alloc (.cells #[.int .i64 0, .int .i64 0, .slice none 0 0] 24)
  simp only [World.size_alloc] at D2
  have bw := (((Below.refl _ w).alloc (Nat.le_refl _) (.cells #[.int .i64 m, .int .i64 m, .slice At nt ct] 24)).alloc (by simp <;> omega) (.cells #[.int .i64 m, .int .i64 q, .slice A n c] 24)).alloc (by simp <;> omega) (.cells #[.int .i64 0, .int .i64 0, .slice none 0 0] 24)
  have hsz : (((w.alloc (.cells #[.int .i64 m, .int .i64 m, .slice At nt ct] 24)).alloc (.cells #[.int .i64 m, .int .i64 q, .slice A n c] 24)).alloc (.cells #[.int .i64 0, .int .i64 0, .slice none 0 0] 24)).heap.size = w.heap.size + 3 := by simp
  obtain ⟨d0_0, d0_1, d0_2, d0_f0, d0_f1, d0_f2⟩ := Mbx.cells D0
  obtain ⟨d1_0, d1_1, d1_2, d1_f0, d1_f1, d1_f2⟩ := Mbx.cells D1
  have pc := rCopy_any (m := m) (q := q) (HH.out.on bw) hn4
  go_enter Try.func48, Try.ntmps48
  go_wp2_with fail
  with_reducible refine pc.mono ?_
  rintro e w1 ⟨A2, c2, rfl, ho, hb⟩
  clear pc
  clear d0_0 d0_1 d0_2 d0_f0 d0_f1 d0_f2
  clear d1_0 d1_1 d1_2 d1_f0 d1_f1 d1_f2
  have hA2 : ∀ a, A2 = some a → w.heap.size + 3 ≤ a.block ∧ a.block < w1.heap.size := fun a e => by have := ho.gt e; rw [hsz] at this; exact this
  have hs1 := hb.size
  rw [hsz] at hs1
  replace D0 := (D0.on hb).alloc (.cells #[.int .i64 m, .int .i64 q, .slice A2 n c2] 24)
  replace D1 := (D1.on hb).alloc (.cells #[.int .i64 m, .int .i64 q, .slice A2 n c2] 24)
  replace D2 := (D2.on hb).alloc (.cells #[.int .i64 m, .int .i64 q, .slice A2 n c2] 24)
  have DO := Blk.new w1 [.int .i64 m, .int .i64 q, .slice A2 n c2] 24
  replace bw := (bw.trans (hb.mono bw.size)).alloc (by omega) (.cells #[.int .i64 m, .int .i64 q, .slice A2 n c2] 24)
  have hG : Gs w (w.heap.size + 3) [(w.heap.size, [.int .i64 m, .int .i64 m, .slice At nt ct]), (w.heap.size + 1, [.int .i64 m, .int .i64 q, .slice A n c]), (w.heap.size + 2, [.int .i64 0, .int .i64 0, .slice none 0 0]), (w1.heap.size, [.int .i64 m, .int .i64 q, .slice A2 n c2])] m q A2 c2 l l (fun a b => decide (a < 0 ∨ (a = 0 ∧ b < 0))) f (w1.alloc (.cells #[.int .i64 m, .int .i64 q, .slice A2 n c2] 24)) := {
    mr := Mr.start (by rw [← HN.out]; exact HH.out.1) HH.out.2.2 (fun a b h1 h2 => by simp <;> omega)
    own := ((ho.less (by rw [hsz]; exact Nat.le_refl _)).alloc_ _)
    bx := by intro b hb9; simp only [List.mem_cons, List.mem_nil_iff, or_false] at hb9; rcases hb9 with rfl | rfl | rfl | rfl
             · exact D0
             · exact D1
             · exact D2
             · exact DO
    ne := by intro b hb9 a ea; have := hA2 a ea; simp only [List.mem_cons, List.mem_nil_iff, or_false] at hb9; rcases hb9 with rfl | rfl | rfl | rfl <;> simp <;> omega
    bw := bw
    lo := by omega }
  clear hA2 hs1 hsz bw hb ho D0 D1 D2
  obtain ⟨dO_0, dO_1, dO_2, dO_f0, dO_f1, dO_f2⟩ := Mbx.cells DO
  have D0 : Blk (w1.alloc (.cells #[.int .i64 m, .int .i64 q, .slice A2 n c2] 24)) (w.heap.size) [.int .i64 m, .int .i64 m, .slice At nt ct] := hG.bx _ (.head _)
  have D1 : Blk (w1.alloc (.cells #[.int .i64 m, .int .i64 q, .slice A2 n c2] 24)) (w.heap.size + 1) [.int .i64 m, .int .i64 q, .slice A n c] := hG.bx _ (.tail _ (.head _))
  obtain ⟨d0_0, d0_1, d0_2, d0_f0, d0_f1, d0_f2⟩ := Mbx.cells D0
  obtain ⟨d1_0, d1_1, d1_2, d1_f0, d1_f1, d1_f2⟩ := Mbx.cells D1
  go_wp2_with fail
  obtain ⟨HO, hHO⟩ : ∃ HO, w1.heap.size = HO := ⟨_, rfl⟩
  clear d0_0 d0_1 d0_2 d0_f0 d0_f1 d0_f2
  clear d1_0 d1_1 d1_2 d1_f0 d1_f1 d1_f2
  clear dO_0 dO_1 dO_2 dO_f0 dO_f1 dO_f2
  clear DO D0 D1
  simp only [hHO] at hG ⊢
  clear hHO
  go_loopw [10] (fun i wr => ∃ (k : Nat) (L : List Int), k ≤ m ∧ i = .int .i64 k ∧ Gs w (w.heap.size + 3) [(w.heap.size, [.int .i64 m, .int .i64 m, .slice At nt ct]), (w.heap.size + 1, [.int .i64 m, .int .i64 q, .slice A n c]), (w.heap.size + 2, [.int .i64 0, .int .i64 0, .slice none 0 0]), (HO, [.int .i64 m, .int .i64 q, .slice A2 n c2])] m q A2 c2 l L (fun a b => decide (a < k ∨ (a = k ∧ b < 0))) f wr) (fun i _ => m - (intOf i).toNat)
  case atStart => exact ⟨0, l, Nat.zero_le _, rfl, hG⟩
  case round =>
    clear hG
    obtain ⟨i, L, hi, rfl, hG⟩ := hrel
    have D0 : Blk wr (w.heap.size) [.int .i64 m, .int .i64 m, .slice At nt ct] := hG.bx _ (.head _)
    have D1 : Blk wr (w.heap.size + 1) [.int .i64 m, .int .i64 q, .slice A n c] := hG.bx _ (.tail _ (.head _))
    have DZ : Blk wr (w.heap.size + 2) [.int .i64 0, .int .i64 0, .slice none 0 0] := hG.bx _ (.tail _ (.tail _ (.head _)))
    have DO : Blk wr HO [.int .i64 m, .int .i64 q, .slice A2 n c2] := hG.bx _ (.tail _ (.tail _ (.tail _ (.head _))))
    obtain ⟨d0_0, d0_1, d0_2, d0_f0, d0_f1, d0_f2⟩ := Mbx.cells D0
    obtain ⟨d1_0, d1_1, d1_2, d1_f0, d1_f1, d1_f2⟩ := Mbx.cells D1
    obtain ⟨dO_0, dO_1, dO_2, dO_f0, dO_f1, dO_f2⟩ := Mbx.cells DO
    obtain ⟨dz_0, dz_1, dz_2, dz_f0, dz_f1, dz_f2⟩ := Mbx.cells DZ
    by_cases hlt : i < m
    · have i0 : (0 : Int) ≤ i := by omega
      have i1 : (i : Int) < m := by omega
      cases up
      · have HF := Lib.hid (show ∀ i j, trS false lt l m q i j 0 (i + 1) = f i j from fun i j => Hf.out i j)
        have hi5 : i + 1 ≤ m := by omega
        go_wp2_with fail
        clear d0_0 d0_1 d0_2 d0_f0 d0_f1 d0_f2
        clear d1_0 d1_1 d1_2 d1_f0 d1_f1 d1_f2
        clear dO_0 dO_1 dO_2 dO_f0 dO_f1 dO_f2
        clear dz_0 dz_1 dz_2 dz_f0 dz_f1 dz_f2
        clear DO DZ D0 D1
        go_loopw [13] (fun j wr => ∃ (jj : Nat) (L : List Int), jj ≤ q ∧ j = .int .i64 jj ∧ Gs w (w.heap.size + 3) [(w.heap.size, [.int .i64 m, .int .i64 m, .slice At nt ct]), (w.heap.size + 1, [.int .i64 m, .int .i64 q, .slice A n c]), (w.heap.size + 2, [.int .i64 0, .int .i64 0, .slice none 0 0]), (HO, [.int .i64 m, .int .i64 q, .slice A2 n c2])] m q A2 c2 l L (fun a b => decide (a < i ∨ (a = i ∧ b < jj))) f wr) (fun j _ => q - (intOf j).toNat)
        case atStart => exact ⟨0, L, by omega, by go_num, hG⟩
        case round =>
          clear hG
          obtain ⟨j, L, hj, rfl, hG⟩ := hrel
          have D0 : Blk wr (w.heap.size) [.int .i64 m, .int .i64 m, .slice At nt ct] := hG.bx _ (.head _)
          have D1 : Blk wr (w.heap.size + 1) [.int .i64 m, .int .i64 q, .slice A n c] := hG.bx _ (.tail _ (.head _))
          have DZ : Blk wr (w.heap.size + 2) [.int .i64 0, .int .i64 0, .slice none 0 0] := hG.bx _ (.tail _ (.tail _ (.head _)))
          have DO : Blk wr HO [.int .i64 m, .int .i64 q, .slice A2 n c2] := hG.bx _ (.tail _ (.tail _ (.tail _ (.head _))))
          obtain ⟨d0_0, d0_1, d0_2, d0_f0, d0_f1, d0_f2⟩ := Mbx.cells D0
          obtain ⟨d1_0, d1_1, d1_2, d1_f0, d1_f1, d1_f2⟩ := Mbx.cells D1
          obtain ⟨dO_0, dO_1, dO_2, dO_f0, dO_f1, dO_f2⟩ := Mbx.cells DO
          obtain ⟨dz_0, dz_1, dz_2, dz_f0, dz_f1, dz_f2⟩ := Mbx.cells DZ
          by_cases hjt : j < q
          · have j0 : (0 : Int) ≤ j := by omega
            have j1 : (j : Int) < q := by omega
            have hjq : j < q := by omega
            have hKl := ix_lt hlt hjq
            rw [← hG.mr.len] at hKl
            have hX2 : i * q ≤ 512 * 512 := Nat.mul_le_mul (by omega) hq
            obtain ⟨X, hX⟩ : ∃ X, i * q = X := ⟨_, rfl⟩
            have hXi : (i : Int) * (q : Int) = (X : Int) := by exact_mod_cast hX
            obtain ⟨Kp, hKp⟩ : ∃ Kp, X + j = Kp := ⟨_, rfl⟩
            have hKi : (X : Int) + (j : Int) = (Kp : Int) := by exact_mod_cast hKp
            have HK := Lib.hid (show i * q + j = Kp by rw [hX, hKp])
            rw [hX, hKp] at hKl
            rw [hX] at hX2
            have hKn : Kp < n := by rw [HN.out, ← hG.mr.len]; exact hKl
            obtain ⟨g5, hA5, _, _⟩ := hG.own.at_ hKl
            subst hA5
            have k0 : (0 : Int) ≤ Kp := by omega
            have k1 : (Kp : Int) < n := by omega
            have v1 : IntKind.i64.wrap (X : Int) = X := by rw [IntKind.wrap_i64]; omega
            have v2 : IntKind.i64.wrap (Kp : Int) = Kp := by rw [IntKind.wrap_i64]; omega
            clear hX hKp
            go_wp2_with fail
            clear d0_0 d0_1 d0_2 d0_f0 d0_f1 d0_f2
            clear d1_0 d1_1 d1_2 d1_f0 d1_f1 d1_f2
            clear dO_0 dO_1 dO_2 dO_f0 dO_f1 dO_f2
            clear dz_0 dz_1 dz_2 dz_f0 dz_f1 dz_f2
            clear DO DZ D0 D1
            go_loopw [14, 15] (fun acc kk wr => ∃ (k r : Nat), 0 ≤ k ∧ k ≤ (i + 1) ∧ kk = .int .i64 k ∧ acc = .float .f64 r ∧ Hid (af r = trS false lt l m q i j 0 k) ∧ r ≤ 18446744073709551615 ∧ Gs w (w.heap.size + 3) [(w.heap.size, [.int .i64 m, .int .i64 m, .slice At nt ct]), (w.heap.size + 1, [.int .i64 m, .int .i64 q, .slice A n c]), (w.heap.size + 2, [.int .i64 0, .int .i64 0, .slice none 0 0]), (HO, [.int .i64 m, .int .i64 q, .slice (some ⟨g5, 0, none⟩) n c2])] m q (some ⟨g5, 0, none⟩) c2 l L (fun a b => decide (a < i ∨ (a = i ∧ b < j))) f wr) (fun _ kk _ => (i + 1) - (intOf kk).toNat)
            case atStart => exact ⟨0, 0, Nat.le_refl _, by omega, by first | rfl | go_num, rfl, Lib.hid (by rw [trS_start]; exact af_zero), by omega, hG⟩
            case round =>
              clear hG
              obtain ⟨k, r, hk1, hk2, rfl, rfl, HN5, br, hG⟩ := hrel
              have D0 : Blk wr (w.heap.size) [.int .i64 m, .int .i64 m, .slice At nt ct] := hG.bx _ (.head _)
              have D1 : Blk wr (w.heap.size + 1) [.int .i64 m, .int .i64 q, .slice A n c] := hG.bx _ (.tail _ (.head _))
              have DZ : Blk wr (w.heap.size + 2) [.int .i64 0, .int .i64 0, .slice none 0 0] := hG.bx _ (.tail _ (.tail _ (.head _)))
              have DO : Blk wr HO [.int .i64 m, .int .i64 q, .slice (some ⟨g5, 0, none⟩) n c2] := hG.bx _ (.tail _ (.tail _ (.tail _ (.head _))))
              obtain ⟨d0_0, d0_1, d0_2, d0_f0, d0_f1, d0_f2⟩ := Mbx.cells D0
              obtain ⟨d1_0, d1_1, d1_2, d1_f0, d1_f1, d1_f2⟩ := Mbx.cells D1
              obtain ⟨dO_0, dO_1, dO_2, dO_f0, dO_f1, dO_f2⟩ := Mbx.cells DO
              obtain ⟨dz_0, dz_1, dz_2, dz_f0, dz_f1, dz_f2⟩ := Mbx.cells DZ
              by_cases hkt : k < (i + 1)
              · have hkm : k < m := by omega
                have kc0 : (0 : Int) ≤ k := by omega
                have kc1 : (k : Int) ≤ i := by omega
                have Hn := Lib.hid (trS_next (unit := false) (lt := lt) (l := l) (m := m) (q := q) (i := i) (j := j) hk1)
                go_wp2_with fail
                with_reducible refine (rAt_any (HT.out.on hG.bw) HNT.out hm hm hlt hkm).mono ?_
                rintro e w1 ⟨rfl, hb⟩
                clear d0_0 d0_1 d0_2 d0_f0 d0_f1 d0_f2
                clear d1_0 d1_1 d1_2 d1_f0 d1_f1 d1_f2
                clear dO_0 dO_1 dO_2 dO_f0 dO_f1 dO_f2
                clear dz_0 dz_1 dz_2 dz_f0 dz_f1 dz_f2
                clear DO DZ D0 D1
                replace hG := hG.on hb
                obtain ⟨lz, uz⟩ := HT.out.2.2.at_ (i * m + k)
                have bZ : (D lt (i * m + k)).toNat ≤ 18446744073709551615 := by omega
                have HZ : Hid (af (D lt (i * m + k)).toNat = ma lt m i k) := Lib.hid rfl
                generalize (D lt (i * m + k)).toNat = Z9 at *
                clear lz uz hb
                obtain ⟨lz, uz⟩ := HH.out.2.2.at_ (k * q + j)
                have bY : (D l (k * q + j)).toNat ≤ 18446744073709551615 := by omega
                have HY : Hid (af (D l (k * q + j)).toNat = ma l q k j) := Lib.hid rfl
                have pa := fun W (hF : FL W A n c l) => rAt_any hF HN.out hm hq hkm hjq
                generalize (D l (k * q + j)).toNat = Y9 at *
                clear lz uz
                by_cases hki : k = i
                · have HE : Hid (af Z9 = trT false lt m i k) := Lib.hid (by rw [HZ.out]; rfl)
                  have kei : ((k : Int) == (i : Int)) = true := by simp [hki]
                  have HKI := Lib.hid hki
                  clear hki
                  have D0 : Blk w1 (w.heap.size) [.int .i64 m, .int .i64 m, .slice At nt ct] := hG.bx _ (.head _)
                  have D1 : Blk w1 (w.heap.size + 1) [.int .i64 m, .int .i64 q, .slice A n c] := hG.bx _ (.tail _ (.head _))
                  have DZ : Blk w1 (w.heap.size + 2) [.int .i64 0, .int .i64 0, .slice none 0 0] := hG.bx _ (.tail _ (.tail _ (.head _)))
                  have DO : Blk w1 HO [.int .i64 m, .int .i64 q, .slice (some ⟨g5, 0, none⟩) n c2] := hG.bx _ (.tail _ (.tail _ (.tail _ (.head _))))
                  obtain ⟨d0_0, d0_1, d0_2, d0_f0, d0_f1, d0_f2⟩ := Mbx.cells D0
                  obtain ⟨d1_0, d1_1, d1_2, d1_f0, d1_f1, d1_f2⟩ := Mbx.cells D1
                  obtain ⟨dO_0, dO_1, dO_2, dO_f0, dO_f1, dO_f2⟩ := Mbx.cells DO
                  obtain ⟨dz_0, dz_1, dz_2, dz_f0, dz_f1, dz_f2⟩ := Mbx.cells DZ
                  go_wp2_with fail
                  with_reducible refine (pa _ (HH.out.on hG.bw)).mono ?_
                  rintro e w2 ⟨rfl, hb⟩
                  clear d0_0 d0_1 d0_2 d0_f0 d0_f1 d0_f2
                  clear d1_0 d1_1 d1_2 d1_f0 d1_f1 d1_f2
                  clear dO_0 dO_1 dO_2 dO_f0 dO_f1 dO_f2
                  clear dz_0 dz_1 dz_2 dz_f0 dz_f1 dz_f2
                  clear DO DZ D0 D1
                  replace hG := hG.on hb
                  clear hb
                  obtain ⟨r1, w3, e1, d1, h1, b1⟩ := run_mul (P := Try.prog) 32 (x := Z9) (y := Y9) bZ bY w2
                  obtain ⟨r2, w4, e2, d2, h2, b2⟩ := run_add (P := Try.prog) 32 (x := r) (y := r1) br b1 w3
                  have HK9 : Hid (af r2 = trS false lt l m q i j 0 (k + 1)) := Lib.hid (by rw [Hn.out, h2, HN5.out, h1, HY.out, HE.out])
                  clear h1 h2
                  replace hG := hG.on (d1.trans d2).below
                  clear d1 d2
                  go_wp2_with fail
                  go_roundw
                  case rel => exact ⟨k + 1, r2, by omega, by omega, by go_num, rfl, HK9, b2, hG⟩
                  case measure => simp [intOf]; omega
                · have HE : Hid (af Z9 = trT false lt m i k) := Lib.hid (by rw [HZ.out]; unfold trT; rw [if_neg (by simp [hki])])
                  have kei : ((k : Int) == (i : Int)) = false := by simp; omega
                  have D0 : Blk w1 (w.heap.size) [.int .i64 m, .int .i64 m, .slice At nt ct] := hG.bx _ (.head _)
                  have D1 : Blk w1 (w.heap.size + 1) [.int .i64 m, .int .i64 q, .slice A n c] := hG.bx _ (.tail _ (.head _))
                  have DZ : Blk w1 (w.heap.size + 2) [.int .i64 0, .int .i64 0, .slice none 0 0] := hG.bx _ (.tail _ (.tail _ (.head _)))
                  have DO : Blk w1 HO [.int .i64 m, .int .i64 q, .slice (some ⟨g5, 0, none⟩) n c2] := hG.bx _ (.tail _ (.tail _ (.tail _ (.head _))))
                  obtain ⟨d0_0, d0_1, d0_2, d0_f0, d0_f1, d0_f2⟩ := Mbx.cells D0
                  obtain ⟨d1_0, d1_1, d1_2, d1_f0, d1_f1, d1_f2⟩ := Mbx.cells D1
                  obtain ⟨dO_0, dO_1, dO_2, dO_f0, dO_f1, dO_f2⟩ := Mbx.cells DO
                  obtain ⟨dz_0, dz_1, dz_2, dz_f0, dz_f1, dz_f2⟩ := Mbx.cells DZ
                  go_wp2_with fail
                  with_reducible refine (pa _ (HH.out.on hG.bw)).mono ?_
                  rintro e w2 ⟨rfl, hb⟩
                  clear d0_0 d0_1 d0_2 d0_f0 d0_f1 d0_f2
                  clear d1_0 d1_1 d1_2 d1_f0 d1_f1 d1_f2
                  clear dO_0 dO_1 dO_2 dO_f0 dO_f1 dO_f2
                  clear dz_0 dz_1 dz_2 dz_f0 dz_f1 dz_f2
                  clear DO DZ D0 D1
                  replace hG := hG.on hb
                  clear hb
                  obtain ⟨r1, w3, e1, d1, h1, b1⟩ := run_mul (P := Try.prog) 32 (x := Z9) (y := Y9) bZ bY w2
                  obtain ⟨r2, w4, e2, d2, h2, b2⟩ := run_add (P := Try.prog) 32 (x := r) (y := r1) br b1 w3
                  have HK9 : Hid (af r2 = trS false lt l m q i j 0 (k + 1)) := Lib.hid (by rw [Hn.out, h2, HN5.out, h1, HY.out, HE.out])
                  clear h1 h2
                  replace hG := hG.on (d1.trans d2).below
                  clear d1 d2
                  go_wp2_with fail
                  go_roundw
                  case rel => exact ⟨k + 1, r2, by omega, by omega, by go_num, rfl, HK9, b2, hG⟩
                  case measure => simp [intOf]; omega
              · have hke : k = (i + 1) := by omega
                rw [hke] at HN5
                have HR : Hid (af r = f i j) := Lib.hid (by rw [HN5.out]; exact HF.out i j)
                have kc1 : ¬ (k : Int) ≤ i := by omega
                clear hke
                obtain ⟨hc5, hf5⟩ := hG.cell hKl
                replace hG := hG.set (Q := fun a b => decide (a < i ∨ (a = i ∧ b < (j + 1)))) HK.out hlt hjq (r := r) HR.out br (fun a b h1 h2 => by simp only [← Bool.decide_or, decide_eq_decide]; omega)
                go_wp2_with fail
                go_roundw
                case rel => exact ⟨j + 1, _, by omega, by go_num, hG⟩
                case measure => simp [intOf]; omega
          · have hG9 := hG.congr (Q := fun a b => decide (a < (i + 1) ∨ (a = (i + 1) ∧ b < 0))) (fun a b h1 h2 => by simp only [decide_eq_decide]; omega)
            go_wp2_with fail
            go_roundw
            case rel => exact ⟨i + 1, L, by omega, by go_num, hG9⟩
            case measure => simp [intOf]; omega
      · have HF := Lib.hid (show ∀ i j, trS false lt l m q i j i m = f i j from fun i j => Hf.out i j)
        obtain ⟨to, hto⟩ : ∃ to : Int, (m : Int) - 1 = to := ⟨_, rfl⟩
        have to0 : 0 ≤ to ∧ to ≤ 511 := by omega
        go_wp2_with fail
        clear d0_0 d0_1 d0_2 d0_f0 d0_f1 d0_f2
        clear d1_0 d1_1 d1_2 d1_f0 d1_f1 d1_f2
        clear dO_0 dO_1 dO_2 dO_f0 dO_f1 dO_f2
        clear dz_0 dz_1 dz_2 dz_f0 dz_f1 dz_f2
        clear DO DZ D0 D1
        replace hG := hG.on (Below.refl _ _).drew
        have bz := Below.refl wr.drew.heap.size wr.drew
        refine wp_region_held_drew (S := fun w9 : World => Mbx w9 (w.heap.size + 1) m q A n c) (by kernel_rfl) (hG.bx _ (.tail _ (.head _))) (fun hS => ?_)
        generalize wr.drew = wd at hS hG  bz ⊢
        refine wpAnyH_take (i := 0) (v := ?v0_26) rfl (by kernel_rfl) (by kernel_rfl) (by kernel_rfl) (fun _ _ _ h => h) (Or.inl ⟨by rfl, ?hy0_26⟩) (by assumption) ?rest0_26
        case hy0_26 => (intro w9 hSw; clear hSw; go_simp; try with_reducible rfl)
        try simp only [Act.put, List.setIfInBounds_toArray, List.set_cons_zero, List.set_cons_succ, List.getElem_toArray, List.getElem_cons_zero, List.getElem_cons_succ]
        refine wpAnyH_take (i := 1) (v := ?v1_27) rfl (by kernel_rfl) (by kernel_rfl) (by kernel_rfl) (fun _ _ _ h => h) (Or.inl ⟨by rfl, ?hy1_27⟩) (by assumption) ?rest1_27
        case hy1_27 => (intro w9 hSw; clear hSw; go_simp; try with_reducible rfl)
        try simp only [Act.put, List.setIfInBounds_toArray, List.set_cons_zero, List.set_cons_succ, List.getElem_toArray, List.getElem_cons_zero, List.getElem_cons_succ]
        refine wpAnyH_take (i := 2) (v := ?v2_28) rfl (by kernel_rfl) (by kernel_rfl) (by kernel_rfl) (fun _ _ _ h => h) (Or.inl ⟨by rfl, ?hy2_28⟩) (by assumption) ?rest2_28
        case hy2_28 => (intro w9 hSw; obtain ⟨c0, c1, c2, f0, f1, f2⟩ := Mbx.cells (show Mbx w9 (w.heap.size + 1) m q A n c from hSw); go_simp; try with_reducible rfl)
        try simp only [Act.put, List.setIfInBounds_toArray, List.set_cons_zero, List.set_cons_succ, List.getElem_toArray, List.getElem_cons_zero, List.getElem_cons_succ]
        refine wpAnyH_take (i := 3) (v := ?v3_29) rfl (by kernel_rfl) (by kernel_rfl) (by kernel_rfl) (fun _ _ _ h => h) (Or.inl ⟨by rfl, ?hy3_29⟩) (by assumption) ?rest3_29
        case hy3_29 => (intro w9 hSw; clear hSw; go_simp; try with_reducible rfl)
        try simp only [Act.put, List.setIfInBounds_toArray, List.set_cons_zero, List.set_cons_succ, List.getElem_toArray, List.getElem_cons_zero, List.getElem_cons_succ]
        refine wpAnyH_take (i := 4) (v := ?v4_30) rfl (by kernel_rfl) (by kernel_rfl) (by kernel_rfl) (fun _ _ _ h => h) (Or.inl ⟨by rfl, ?hy4_30⟩) (by assumption) ?rest4_30
        case hy4_30 => (intro w9 hSw; clear hSw; go_simp; try with_reducible rfl)
        try simp only [Act.put, List.setIfInBounds_toArray, List.set_cons_zero, List.set_cons_succ, List.getElem_toArray, List.getElem_cons_zero, List.getElem_cons_succ]
        refine wpAnyH_take (i := 5) (v := ?v5_31) rfl (by kernel_rfl) (by kernel_rfl) (by kernel_rfl) (fun _ _ _ h => h) (Or.inl ⟨by rfl, ?hy5_31⟩) (by assumption) ?rest5_31
        case hy5_31 => (intro w9 hSw; clear hSw; go_simp; try with_reducible rfl)
        try simp only [Act.put, List.setIfInBounds_toArray, List.set_cons_zero, List.set_cons_succ, List.getElem_toArray, List.getElem_cons_zero, List.getElem_cons_succ]
        refine wpAnyH_done (by kernel_rfl) ?_ _
        clear bz hS
        have HTO := Lib.hid hto
        go_wp2_with fail
        go_loopw [13] (fun j wr => ∃ (jj : Nat) (L : List Int), jj ≤ q ∧ j = .int .i64 jj ∧ Gs w (w.heap.size + 3) [(w.heap.size, [.int .i64 m, .int .i64 m, .slice At nt ct]), (w.heap.size + 1, [.int .i64 m, .int .i64 q, .slice A n c]), (w.heap.size + 2, [.int .i64 0, .int .i64 0, .slice none 0 0]), (HO, [.int .i64 m, .int .i64 q, .slice A2 n c2])] m q A2 c2 l L (fun a b => decide (a < i ∨ (a = i ∧ b < jj))) f wr) (fun j _ => q - (intOf j).toNat)
        case atStart => exact ⟨0, L, by omega, by go_num, hG⟩
        case round =>
          clear hG
          obtain ⟨j, L, hj, rfl, hG⟩ := hrel
          have D0 : Blk wr (w.heap.size) [.int .i64 m, .int .i64 m, .slice At nt ct] := hG.bx _ (.head _)
          have D1 : Blk wr (w.heap.size + 1) [.int .i64 m, .int .i64 q, .slice A n c] := hG.bx _ (.tail _ (.head _))
          have DZ : Blk wr (w.heap.size + 2) [.int .i64 0, .int .i64 0, .slice none 0 0] := hG.bx _ (.tail _ (.tail _ (.head _)))
          have DO : Blk wr HO [.int .i64 m, .int .i64 q, .slice A2 n c2] := hG.bx _ (.tail _ (.tail _ (.tail _ (.head _))))
          obtain ⟨d0_0, d0_1, d0_2, d0_f0, d0_f1, d0_f2⟩ := Mbx.cells D0
          obtain ⟨d1_0, d1_1, d1_2, d1_f0, d1_f1, d1_f2⟩ := Mbx.cells D1
          obtain ⟨dO_0, dO_1, dO_2, dO_f0, dO_f1, dO_f2⟩ := Mbx.cells DO
          obtain ⟨dz_0, dz_1, dz_2, dz_f0, dz_f1, dz_f2⟩ := Mbx.cells DZ
          by_cases hjt : j < q
          · have j0 : (0 : Int) ≤ j := by omega
            have j1 : (j : Int) < q := by omega
            have hjq : j < q := by omega
            have hKl := ix_lt hlt hjq
            rw [← hG.mr.len] at hKl
            have hX2 : i * q ≤ 512 * 512 := Nat.mul_le_mul (by omega) hq
            obtain ⟨X, hX⟩ : ∃ X, i * q = X := ⟨_, rfl⟩
            have hXi : (i : Int) * (q : Int) = (X : Int) := by exact_mod_cast hX
            obtain ⟨Kp, hKp⟩ : ∃ Kp, X + j = Kp := ⟨_, rfl⟩
            have hKi : (X : Int) + (j : Int) = (Kp : Int) := by exact_mod_cast hKp
            have HK := Lib.hid (show i * q + j = Kp by rw [hX, hKp])
            rw [hX, hKp] at hKl
            rw [hX] at hX2
            have hKn : Kp < n := by rw [HN.out, ← hG.mr.len]; exact hKl
            obtain ⟨g5, hA5, _, _⟩ := hG.own.at_ hKl
            subst hA5
            have k0 : (0 : Int) ≤ Kp := by omega
            have k1 : (Kp : Int) < n := by omega
            have v1 : IntKind.i64.wrap (X : Int) = X := by rw [IntKind.wrap_i64]; omega
            have v2 : IntKind.i64.wrap (Kp : Int) = Kp := by rw [IntKind.wrap_i64]; omega
            clear hX hKp
            go_wp2_with fail
            clear d0_0 d0_1 d0_2 d0_f0 d0_f1 d0_f2
            clear d1_0 d1_1 d1_2 d1_f0 d1_f1 d1_f2
            clear dO_0 dO_1 dO_2 dO_f0 dO_f1 dO_f2
            clear dz_0 dz_1 dz_2 dz_f0 dz_f1 dz_f2
            clear DO DZ D0 D1
            go_loopw [14, 15] (fun acc kk wr => ∃ (k r : Nat), i ≤ k ∧ k ≤ m ∧ kk = .int .i64 k ∧ acc = .float .f64 r ∧ Hid (af r = trS false lt l m q i j i k) ∧ r ≤ 18446744073709551615 ∧ Gs w (w.heap.size + 3) [(w.heap.size, [.int .i64 m, .int .i64 m, .slice At nt ct]), (w.heap.size + 1, [.int .i64 m, .int .i64 q, .slice A n c]), (w.heap.size + 2, [.int .i64 0, .int .i64 0, .slice none 0 0]), (HO, [.int .i64 m, .int .i64 q, .slice (some ⟨g5, 0, none⟩) n c2])] m q (some ⟨g5, 0, none⟩) c2 l L (fun a b => decide (a < i ∨ (a = i ∧ b < j))) f wr) (fun _ kk _ => m - (intOf kk).toNat)
            case atStart => exact ⟨i, 0, Nat.le_refl _, by omega, by first | rfl | go_num, rfl, Lib.hid (by rw [trS_start]; exact af_zero), by omega, hG⟩
            case round =>
              clear hG
              obtain ⟨k, r, hk1, hk2, rfl, rfl, HN5, br, hG⟩ := hrel
              have D0 : Blk wr (w.heap.size) [.int .i64 m, .int .i64 m, .slice At nt ct] := hG.bx _ (.head _)
              have D1 : Blk wr (w.heap.size + 1) [.int .i64 m, .int .i64 q, .slice A n c] := hG.bx _ (.tail _ (.head _))
              have DZ : Blk wr (w.heap.size + 2) [.int .i64 0, .int .i64 0, .slice none 0 0] := hG.bx _ (.tail _ (.tail _ (.head _)))
              have DO : Blk wr HO [.int .i64 m, .int .i64 q, .slice (some ⟨g5, 0, none⟩) n c2] := hG.bx _ (.tail _ (.tail _ (.tail _ (.head _))))
              obtain ⟨d0_0, d0_1, d0_2, d0_f0, d0_f1, d0_f2⟩ := Mbx.cells D0
              obtain ⟨d1_0, d1_1, d1_2, d1_f0, d1_f1, d1_f2⟩ := Mbx.cells D1
              obtain ⟨dO_0, dO_1, dO_2, dO_f0, dO_f1, dO_f2⟩ := Mbx.cells DO
              obtain ⟨dz_0, dz_1, dz_2, dz_f0, dz_f1, dz_f2⟩ := Mbx.cells DZ
              by_cases hkt : k < m
              · have hkm : k < m := by omega
                have kc0 : (0 : Int) ≤ k := by omega
                have kc1 : (k : Int) ≤ to := by omega
                have Hn := Lib.hid (trS_next (unit := false) (lt := lt) (l := l) (m := m) (q := q) (i := i) (j := j) hk1)
                go_wp2_with fail
                with_reducible refine (rAt_any (HT.out.on hG.bw) HNT.out hm hm hlt hkm).mono ?_
                rintro e w1 ⟨rfl, hb⟩
                clear d0_0 d0_1 d0_2 d0_f0 d0_f1 d0_f2
                clear d1_0 d1_1 d1_2 d1_f0 d1_f1 d1_f2
                clear dO_0 dO_1 dO_2 dO_f0 dO_f1 dO_f2
                clear dz_0 dz_1 dz_2 dz_f0 dz_f1 dz_f2
                clear DO DZ D0 D1
                replace hG := hG.on hb
                obtain ⟨lz, uz⟩ := HT.out.2.2.at_ (i * m + k)
                have bZ : (D lt (i * m + k)).toNat ≤ 18446744073709551615 := by omega
                have HZ : Hid (af (D lt (i * m + k)).toNat = ma lt m i k) := Lib.hid rfl
                generalize (D lt (i * m + k)).toNat = Z9 at *
                clear lz uz hb
                obtain ⟨lz, uz⟩ := HH.out.2.2.at_ (k * q + j)
                have bY : (D l (k * q + j)).toNat ≤ 18446744073709551615 := by omega
                have HY : Hid (af (D l (k * q + j)).toNat = ma l q k j) := Lib.hid rfl
                have pa := fun W (hF : FL W A n c l) => rAt_any hF HN.out hm hq hkm hjq
                generalize (D l (k * q + j)).toNat = Y9 at *
                clear lz uz
                by_cases hki : k = i
                · have HE : Hid (af Z9 = trT false lt m i k) := Lib.hid (by rw [HZ.out]; rfl)
                  have kei : ((k : Int) == (i : Int)) = true := by simp [hki]
                  have HKI := Lib.hid hki
                  clear hki
                  have D0 : Blk w1 (w.heap.size) [.int .i64 m, .int .i64 m, .slice At nt ct] := hG.bx _ (.head _)
                  have D1 : Blk w1 (w.heap.size + 1) [.int .i64 m, .int .i64 q, .slice A n c] := hG.bx _ (.tail _ (.head _))
                  have DZ : Blk w1 (w.heap.size + 2) [.int .i64 0, .int .i64 0, .slice none 0 0] := hG.bx _ (.tail _ (.tail _ (.head _)))
                  have DO : Blk w1 HO [.int .i64 m, .int .i64 q, .slice (some ⟨g5, 0, none⟩) n c2] := hG.bx _ (.tail _ (.tail _ (.tail _ (.head _))))
                  obtain ⟨d0_0, d0_1, d0_2, d0_f0, d0_f1, d0_f2⟩ := Mbx.cells D0
                  obtain ⟨d1_0, d1_1, d1_2, d1_f0, d1_f1, d1_f2⟩ := Mbx.cells D1
                  obtain ⟨dO_0, dO_1, dO_2, dO_f0, dO_f1, dO_f2⟩ := Mbx.cells DO
                  obtain ⟨dz_0, dz_1, dz_2, dz_f0, dz_f1, dz_f2⟩ := Mbx.cells DZ
                  go_wp2_with fail
                  with_reducible refine (pa _ (HH.out.on hG.bw)).mono ?_
                  rintro e w2 ⟨rfl, hb⟩
                  clear d0_0 d0_1 d0_2 d0_f0 d0_f1 d0_f2
                  clear d1_0 d1_1 d1_2 d1_f0 d1_f1 d1_f2
                  clear dO_0 dO_1 dO_2 dO_f0 dO_f1 dO_f2
                  clear dz_0 dz_1 dz_2 dz_f0 dz_f1 dz_f2
                  clear DO DZ D0 D1
                  replace hG := hG.on hb
                  clear hb
                  obtain ⟨r1, w3, e1, d1, h1, b1⟩ := run_mul (P := Try.prog) 32 (x := Z9) (y := Y9) bZ bY w2
                  obtain ⟨r2, w4, e2, d2, h2, b2⟩ := run_add (P := Try.prog) 32 (x := r) (y := r1) br b1 w3
                  have HK9 : Hid (af r2 = trS false lt l m q i j i (k + 1)) := Lib.hid (by rw [Hn.out, h2, HN5.out, h1, HY.out, HE.out])
                  clear h1 h2
                  replace hG := hG.on (d1.trans d2).below
                  clear d1 d2
                  go_wp2_with fail
                  go_roundw
                  case rel => exact ⟨k + 1, r2, by omega, by omega, by go_num, rfl, HK9, b2, hG⟩
                  case measure => simp [intOf]; omega
                · have HE : Hid (af Z9 = trT false lt m i k) := Lib.hid (by rw [HZ.out]; unfold trT; rw [if_neg (by simp [hki])])
                  have kei : ((k : Int) == (i : Int)) = false := by simp; omega
                  have D0 : Blk w1 (w.heap.size) [.int .i64 m, .int .i64 m, .slice At nt ct] := hG.bx _ (.head _)
                  have D1 : Blk w1 (w.heap.size + 1) [.int .i64 m, .int .i64 q, .slice A n c] := hG.bx _ (.tail _ (.head _))
                  have DZ : Blk w1 (w.heap.size + 2) [.int .i64 0, .int .i64 0, .slice none 0 0] := hG.bx _ (.tail _ (.tail _ (.head _)))
                  have DO : Blk w1 HO [.int .i64 m, .int .i64 q, .slice (some ⟨g5, 0, none⟩) n c2] := hG.bx _ (.tail _ (.tail _ (.tail _ (.head _))))
                  obtain ⟨d0_0, d0_1, d0_2, d0_f0, d0_f1, d0_f2⟩ := Mbx.cells D0
                  obtain ⟨d1_0, d1_1, d1_2, d1_f0, d1_f1, d1_f2⟩ := Mbx.cells D1
                  obtain ⟨dO_0, dO_1, dO_2, dO_f0, dO_f1, dO_f2⟩ := Mbx.cells DO
                  obtain ⟨dz_0, dz_1, dz_2, dz_f0, dz_f1, dz_f2⟩ := Mbx.cells DZ
                  go_wp2_with fail
                  with_reducible refine (pa _ (HH.out.on hG.bw)).mono ?_
                  rintro e w2 ⟨rfl, hb⟩
                  clear d0_0 d0_1 d0_2 d0_f0 d0_f1 d0_f2
                  clear d1_0 d1_1 d1_2 d1_f0 d1_f1 d1_f2
                  clear dO_0 dO_1 dO_2 dO_f0 dO_f1 dO_f2
                  clear dz_0 dz_1 dz_2 dz_f0 dz_f1 dz_f2
                  clear DO DZ D0 D1
                  replace hG := hG.on hb
                  clear hb
                  obtain ⟨r1, w3, e1, d1, h1, b1⟩ := run_mul (P := Try.prog) 32 (x := Z9) (y := Y9) bZ bY w2
                  obtain ⟨r2, w4, e2, d2, h2, b2⟩ := run_add (P := Try.prog) 32 (x := r) (y := r1) br b1 w3
                  have HK9 : Hid (af r2 = trS false lt l m q i j i (k + 1)) := Lib.hid (by rw [Hn.out, h2, HN5.out, h1, HY.out, HE.out])
                  clear h1 h2
                  replace hG := hG.on (d1.trans d2).below
                  clear d1 d2
                  go_wp2_with fail
                  go_roundw
                  case rel => exact ⟨k + 1, r2, by omega, by omega, by go_num, rfl, HK9, b2, hG⟩
                  case measure => simp [intOf]; omega
              · have hke : k = m := by omega
                rw [hke] at HN5
                have HR : Hid (af r = f i j) := Lib.hid (by rw [HN5.out]; exact HF.out i j)
                have kc1 : ¬ (k : Int) ≤ to := by omega
                clear hke
                obtain ⟨hc5, hf5⟩ := hG.cell hKl
                replace hG := hG.set (Q := fun a b => decide (a < i ∨ (a = i ∧ b < (j + 1)))) HK.out hlt hjq (r := r) HR.out br (fun a b h1 h2 => by simp only [← Bool.decide_or, decide_eq_decide]; omega)
                go_wp2_with fail
                go_roundw
                case rel => exact ⟨j + 1, _, by omega, by go_num, hG⟩
                case measure => simp [intOf]; omega
          · have hG9 := hG.congr (Q := fun a b => decide (a < (i + 1) ∨ (a = (i + 1) ∧ b < 0))) (fun a b h1 h2 => by simp only [decide_eq_decide]; omega)
            go_wp2_with fail
            go_roundw
            case rel => exact ⟨i + 1, L, by omega, by go_num, hG9⟩
            case measure => simp [intOf]; omega
    · obtain rfl : i = m := by omega
      go_wp2_with fail
      refine bodyPost_ret (v := mV i q A2 n c2) (by simp [results, Try.results48, go_sem, *]) rfl ?_
      exact ⟨A2, c2, L, rfl, by rw [HN.out]; exact (hG.mr.congr (fun a b h1 h2 => by simp <;> omega)).is, by first | exact hG.own.less (by omega) | exact (hG.own.grown_ (set3_grown _ _ _ _ _) (fun a e e2 => by injection e2 with e3; exact hG.ne _ (.tail _ (.tail _ (.head _))) a e e3.symm)).less (by omega), by first | exact hG.bw | exact hG.bw.grown (set3_grown _ _ _ _ _) hG.bw.size (fun k e => by cases e; omega)⟩
end
end Go.Proofs.Ytfelmkkkaphkpaa
