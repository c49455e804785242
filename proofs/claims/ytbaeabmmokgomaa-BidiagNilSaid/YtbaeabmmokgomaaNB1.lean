/-
  Joined (by wip/tools/joinM.py) of BdD, BdF, BdI, BdJ, BdH, BdK, BdL, BdM, BdN.
-/
import Derived.Test.YtbaeabmmokgomaaNT1
import Derived.Test.YtbaeabmmokgomaaMJRfL
import Derived.Test.YtbaeabmmokgomaaMJRfE
import Derived.Test.YtbaeabmmokgomaaMJVxS
import Derived.Below
import Derived.OneCell
import Derived.Laws.OwnMore
import Derived.Laws.Rows
import Derived.Deep.AppendLies
import Derived.Deep.Draws
import Derived.OwnWalk
import Derived.Maps.AppendAt
import Derived.RegionTactic
import Derived.KernelRfl
import Derived.WalkKit
import Derived.WalkSpells
import Derived.WalkLawsBesides
import Derived.Deep.QuietTactic
import Derived.BigQuiet
import Derived.Lib.Hide
import Derived.Laws.Externs
import Derived.Outline
import Derived.Deep.RegionHeld3
import Derived.Deep.RegionWith
import Derived.WalkMore
import Derived.Deep.Cut
import Derived.Handy
namespace Go.Proofs.Ytbaeabmmokgomaa
open Go.RowKit Go.Bw
set_option linter.unusedVariables false
set_option linter.unusedSimpArgs false
attribute [local go_sem] run_store_float
def AtP (w : World) (x : Nat) (e : Ending) (w' : World) : Prop := e = .returned (.float .f64 x) ∧ Below w.heap.size w w'
set_option maxRecDepth 100000 in
set_option maxHeartbeats 4000000 in
theorem rat11_any {A : Option Addr} {m n N c i k : Nat} {L : List Int} {w : World} (h : FL w A N c L) (hN : N = m * n) (hm : m ≤ 512) (hn : n ≤ 512) (hi : i < m) (hk : k < n) :
    Calls Try.prog 40 #[mV m n A N c, .int .i64 i, .int .i64 k] w (AtP w (D L (i * n + k)).toNat) := by
  have n4 : N ≤ 262144 := by rw [hN]; exact Nat.le_trans (Nat.mul_le_mul hm hn) (by decide)
  obtain ⟨y, hy⟩ : ∃ y, i * n = y := ⟨_, rfl⟩
  obtain ⟨z, hz⟩ : ∃ z, y + k = z := ⟨_, rfl⟩
  have hzN : z < N := by rw [← hz, ← hy, hN]; exact ix_lt hi hk
  have ey : (i : Int) * (n : Int) = (y : Int) := by exact_mod_cast hy
  have ez : (y : Int) + (k : Int) = (z : Int) := by omega
  have wy : IntKind.i64.wrap (y : Int) = (y : Int) := IntWalk.i64_in _ (by omega)
  have wz : IntKind.i64.wrap (z : Int) = (z : Int) := IntWalk.i64_in _ (by omega)
  have z0 : (0 : Int) ≤ z := by omega
  have z1 : (z : Int) < N := by omega
  have bz := (Below.refl _ w).alloc (Nat.le_refl _) (.cells #[.int .i64 m, .int .i64 n, .slice A N c] 24)
  obtain ⟨ad, hA, hb, hc⟩ := (h.on bz).at_ hzN
  subst hA
  rw [hy, hz]
  generalize (D L z).toNat = Y at *
  clear hy hz hN h hzN
  go_enter Try.func40, Try.ntmps40
  go_wp2_with fail
  go_ret
  exact ⟨rfl, bz⟩
end Go.Proofs.Ytbaeabmmokgomaa
namespace Go.Proofs.Ytbaeabmmokgomaa
open Go.RowKit Go.Bw
set_option linter.unusedVariables false
set_option linter.unusedSimpArgs false
attribute [local go_sem] run_store_float
/-- a matrix of noughts in new memory -/
def NwP (w : World) (m n N : Nat) (e : Ending) (w' : World) : Prop := ∃ g, e = .returned (mV m n (some ⟨g, 0, none⟩) N N) ∧ RowF w' g (List.replicate N 0) ∧ w.heap.size ≤ g ∧ Below w.heap.size w w'
set_option maxRecDepth 100000 in
set_option maxHeartbeats 4000000 in
theorem rNew_any {m n N : Nat} (hN : N = m * n) (hm : m ≤ 512) (hn : n ≤ 512) (w : World) : Calls Try.prog 76 #[.int .i64 m, .int .i64 n] w (NwP w m n N) := by
  have n4 : N ≤ 262144 := by rw [hN]; exact Nat.le_trans (Nat.mul_le_mul hm hn) (by decide)
  have eN : (m : Int) * (n : Int) = (N : Int) := by rw [hN]; exact_mod_cast rfl
  have wN : IntKind.i64.wrap (N : Int) = (N : Int) := IntWalk.i64_in _ (by omega)
  have hmk := run_makeF N (by omega)
  have bz := ((Below.refl _ w).alloc (Nat.le_refl _) (.cells #[.int .i64 m, .int .i64 n, .slice (some ⟨w.heap.size + 1, 0, none⟩) N N] 24)).alloc (by simp) (.cells (LF (List.replicate N 0)).toArray 49)
  have HR := RowF.new (w.alloc (.cells #[.int .i64 m, .int .i64 n, .slice (some ⟨w.heap.size + 1, 0, none⟩) N N] 24)) (List.replicate N 0)
  rw [World.size_alloc] at HR
  clear hN
  go_enter Try.func76, Try.ntmps76
  go_wp2_with fail
  refine bodyPost_ret (v := mV m n (some ⟨w.heap.size + 1, 0, none⟩) N N) (by simp [results, Try.results76, go_sem]) rfl ?_
  exact ⟨w.heap.size + 1, rfl, HR, by omega, bz⟩
theorem oneF_zeroN (n N : Nat) : Is (List.replicate N 0) N (oneF n 0) := by
  refine ⟨by simp, fun x hx => ?_, fun k hk => ?_⟩
  · rw [List.eq_of_mem_replicate hx]; omega
  · rw [D_in (by simpa using hk), List.getElem_replicate]
    unfold oneF
    rw [if_neg (by omega)]
    exact fa_zero
set_option maxRecDepth 100000 in
set_option maxHeartbeats 8000000 in
theorem rEye_any (m n : Nat) (hm : m ≤ 512) (hnm : n ≤ m) (w : World) : Calls Try.prog 49 #[.int .i64 m, .int .i64 n] w (MatQ w m n (m * n) (oneF n n)) := by
  obtain ⟨N, hN⟩ : ∃ N, m * n = N := ⟨_, rfl⟩
  have h0 := oneF_zeroN n N
  have n4 : N ≤ 262144 := by rw [← hN]; exact Nat.le_trans (Nat.mul_le_mul hm (show n ≤ 512 by omega)) (by decide)
  have pn := fun W => rNew_any (N := N) hN.symm hm (by omega) W
  rw [hN]
  have HN := Lib.hid hN
  clear hN
  have DZ := Blk.new w [.int .i64 0, .int .i64 0, .slice none 0 0] 24
  have bz := (Below.refl _ w).alloc (Nat.le_refl _) (.cells #[.int .i64 0, .int .i64 0, .slice none 0 0] 24)
  go_enter Try.func49, Try.ntmps49
  go_wp2_with fail
  with_reducible refine (pn _).mono ?_
  rintro e w1 ⟨g, rfl, HR, hg, hb⟩
  rw [World.size_alloc] at hg
  replace DZ := DZ.on hb
  replace bz := bz.trans (hb.mono bz.size)
  have DK := Blk.new w1 [.int .i64 m, .int .i64 n, .slice (some ⟨g, 0, none⟩) N N] 24
  obtain ⟨KK, eK⟩ : ∃ H, w1.heap.size = H := ⟨_, rfl⟩
  have hgK := HR.lt
  rw [eK] at DK hgK
  replace DZ := DZ.alloc (.cells #[.int .i64 m, .int .i64 n, .slice (some ⟨g, 0, none⟩) N N] 24)
  replace HR := HR.alloc (.cells #[.int .i64 m, .int .i64 n, .slice (some ⟨g, 0, none⟩) N N] 24)
  replace bz := bz.alloc bz.size (.cells #[.int .i64 m, .int .i64 n, .slice (some ⟨g, 0, none⟩) N N] 24)
  clear hb pn
  go_wp2_with fail
  try simp only [eK] at ⊢
  clear eK
  generalize w1.alloc (.cells #[.int .i64 m, .int .i64 n, .slice (some ⟨g, 0, none⟩) N N] 24) = W2 at DZ HR DK bz ⊢
  go_loopw [6] (fun i wr => ∃ (k : Nat) (L : List Int), k ≤ n ∧ i = .int .i64 k ∧ Is L N (oneF n k) ∧ RowF wr g L ∧ Mbx wr w.heap.size 0 0 none 0 0 ∧ Mbx wr KK m n (some ⟨g, 0, none⟩) N N ∧ Below w.heap.size w wr) (fun i _ => n - (intOf i).toNat)
  case atStart => exact ⟨0, _, Nat.zero_le _, rfl, h0, HR, DZ, DK, bz⟩
  case round =>
    clear h0 HR DZ DK bz
    obtain ⟨k, L, hk, rfl, hI, HR, DZ, DK, bz⟩ := hrel
    obtain ⟨k0, k1, k2, k3, k4, k5⟩ := Mbx.cells DK
    have hlen := hI.len
    by_cases hlt : k < n
    · obtain ⟨y, hy⟩ : ∃ y, k * n = y := ⟨_, rfl⟩
      obtain ⟨z, hz⟩ : ∃ z, y + k = z := ⟨_, rfl⟩
      have hzN : z < N := by rw [← hz, ← hy, ← HN.out]; exact ix_lt (by omega) hlt
      have hI2 := oneF_next hI hlt (by rw [hy]; exact hz) hzN
      have ey : (k : Int) * (n : Int) = (y : Int) := by exact_mod_cast hy
      have ez : (y : Int) + (k : Int) = (z : Int) := by omega
      have wy : IntKind.i64.wrap (y : Int) = (y : Int) := IntWalk.i64_in _ (by omega)
      have wz : IntKind.i64.wrap (z : Int) = (z : Int) := IntWalk.i64_in _ (by omega)
      have z0 : (0 : Int) ≤ z := by omega
      have z1 : (z : Int) < N := by omega
      have kk : (k : Int) < n := by omega
      have km : (k : Int) < m := by omega
      obtain ⟨hy4, hy5⟩ := HR.at_ (k := z) (by rw [hlen]; exact hzN)
      clear hy hz
      go_wp2_with fail
      have HR2 : RowF (wr.setCell ⟨g, z, none⟩ (.float .f64 4607182418800017408)) g (L.set z 4607182418800017408) := HR.set_ z 4607182418800017408
      have DZ2 := DZ.far (p := ⟨g, z, none⟩) (by show w.heap.size ≠ g; omega) (.float .f64 4607182418800017408)
      have DK2 := DK.far (p := ⟨g, z, none⟩) (by show KK ≠ g; omega) (.float .f64 4607182418800017408)
      have bz2 := bz.setCell (p := ⟨g, z, none⟩) (by show w.heap.size ≤ g; omega) (.float .f64 4607182418800017408)
      go_roundw
      case rel => exact ⟨k + 1, _, by omega, by go_num, hI2, HR2, DZ2, DK2, bz2⟩
      case measure => simp [intOf]; omega
    · obtain rfl : k = n := by omega
      have kk : ¬ (k : Int) < k := by omega
      obtain ⟨z0, z1, z2, z3, z4, z5⟩ := Mbx.cells DZ
      have fin : ∀ W9, W9 = (((wr.setCell ⟨w.heap.size, 0, none⟩ (.int .i64 m)).setCell ⟨w.heap.size, 1, none⟩ (.int .i64 k)).setCell ⟨w.heap.size, 2, none⟩ (.slice (some ⟨g, 0, none⟩) N N)) → MatQ w m k N (oneF k k) (.returned (mV m k (some ⟨g, 0, none⟩) N N)) W9 := fun W9 e9 => by
        subst e9
        have hgs : wr.grownBy (((wr.setCell ⟨w.heap.size, 0, none⟩ (.int .i64 m)).setCell ⟨w.heap.size, 1, none⟩ (.int .i64 k)).setCell ⟨w.heap.size, 2, none⟩ (.slice (some ⟨g, 0, none⟩) N N)) (some w.heap.size) := grown_setCell (grown_setCell (grown_setCell (World.grownBy.refl wr _) 0 _) 1 _) 2 _
        have hO := (RowF.grown HR hgs (by simp; omega)).owned (B := w.heap.size) (by rw [hlen]; omega) (by omega)
        rw [hlen] at hO
        exact ⟨_, _, L, rfl, hO, hI, bz.grown hgs bz.size (fun b e => by injection e with e; omega)⟩
      obtain ⟨x0, x1, x2, _, _, _⟩ := Mbx.cells (Mbx.put DZ m k (some ⟨g, 0, none⟩) N N)
      by_cases hkm : k < m
      · have km : (k : Int) < m := by omega
        clear hkm
        go_wp2_with fail
        refine bodyPost_ret (v := mV m k (some ⟨g, 0, none⟩) N N) (by simp [results, Try.results49, go_sem, x0, x1, x2]) rfl ?_
        exact fin _ rfl
      · have km : ¬ (k : Int) < m := by omega
        clear hkm
        go_wp2_with fail
        refine bodyPost_ret (v := mV m k (some ⟨g, 0, none⟩) N N) (by simp [results, Try.results49, go_sem, x0, x1, x2]) rfl ?_
        exact fin _ rfl
/-- what the left reflections from k on come to -/
structure TqL (m n k : Nat) (hs : List Re) (Qs : Nat → List Int) : Prop where
  top : Is (Qs n) (m * n) (oneF n n)
  step : ∀ (j : Nat) (e : Re), k ≤ j → hs[j]? = some e → Is (Qs j) (m * n) (lT (Qs (j + 1)) e.l n j (m - j) j (af e.t))
theorem TqL.start {m n : Nat} {hs : List Re} {L : List Int} (h : Is L (m * n) (oneF n n)) (hl : hs.length = n) : TqL m n n hs (fun _ => L) :=
  ⟨h, fun j e hj he => by rw [List.getElem?_eq_none (by omega)] at he; cases he⟩
theorem TqL.next {m n j : Nat} {hs : List Re} {Qs : Nat → List Int} {L : List Int} {e : Re} (h : TqL m n (j + 1) hs Qs) (hj : j < n) (he : hs[j]? = some e) (hL : Is L (m * n) (lT (Qs (j + 1)) e.l n j (m - j) j (af e.t))) : TqL m n j hs (fun i => if i = j then L else Qs i) := by
  refine ⟨?_, fun i d hi hd => ?_⟩
  · show Is (if n = j then L else Qs n) _ _
    rw [if_neg (by omega)]
    exact h.top
  · show Is (if i = j then L else Qs i) _ (lT (if i + 1 = j then L else Qs (i + 1)) d.l n i (m - i) i (af d.t))
    rw [if_neg (show ¬ i + 1 = j by omega)]
    by_cases c : i = j
    · subst c
      rw [if_pos rfl]
      obtain rfl : e = d := Option.some.inj (he.symm.trans hd)
      exact hL
    · rw [if_neg c]
      exact h.step i d (by omega) hd
theorem TqL.same {m n : Nat} {hs : List Re} {Qs Ps : Nat → List Int} (h : TqL m n 0 hs Qs) (k : TqL m n 0 hs Ps) (hl : hs.length = n) : SameF (Qs 0) (Ps 0) := by
  have S : ∀ d, d ≤ n → SameF (Qs (n - d)) (Ps (n - d)) := fun d => by
    induction d with
    | zero => exact fun _ => Is.same h.top k.top
    | succ d ih =>
      intro hd
      have hi := ih (by omega)
      have e : n - d = n - (d + 1) + 1 := by omega
      rw [e] at hi
      have he : hs[n - (d + 1)]? = some hs[n - (d + 1)] := List.getElem?_eq_getElem (by omega)
      exact Is.same (h.step _ _ (Nat.zero_le _) he) ((k.step _ _ (Nat.zero_le _) he).congr (fun i _ => (lT_same hi rfl ..).symm))
  have := S n (Nat.le_refl _)
  rwa [Nat.sub_self] at this
theorem tqL_is {m n k : Nat} {hs : List Re} {Qs : Nat → List Int} (h : TqL m n k hs Qs) (hk : k ≤ n) (hl : hs.length = n) : Is (Qs k) (m * n) (fun i => fa (D (Qs k) i)) := by
  rcases Nat.lt_or_ge k n with c | c
  · have := h.step k hs[k] (Nat.le_refl _) (List.getElem?_eq_getElem (by omega))
    exact ⟨this.len, this.wd, fun _ _ => rfl⟩
  · obtain rfl : k = n := by omega
    exact ⟨h.top.len, h.top.wd, fun _ _ => rfl⟩
def TqLP (w : World) (m n : Nat) (hs : List Re) (e : Ending) (w' : World) : Prop := ∃ A2 c2 L Qs, e = .returned (mV m n A2 (m * n) c2) ∧ OwnF w' w.heap.size A2 c2 L ∧ TqL m n 0 hs Qs ∧ Qs 0 = L ∧ Below w.heap.size w w'
end Go.Proofs.Ytbaeabmmokgomaa
namespace Go.Proofs.Ytbaeabmmokgomaa
open Go.RowKit Go.Bw
set_option linter.unusedVariables false
set_option linter.unusedSimpArgs false
set_option maxHeartbeats 4000000 in
theorem rMay11_any {R C : Int} {A : Option Addr} {n c : Nat} (hn : n ≤ 9223372036854775807) (w : World) : Calls Try.prog 37 #[mV R C A n c] w (Ans w (.bool (mayB R C n))) := by
  have bz := (Below.refl _ w).alloc (Nat.le_refl _) (.cells #[.int .i64 R, .int .i64 C, .slice A n c] 24)
  unfold mayB
  by_cases h1 : 0 ≤ R
  · by_cases h2 : R ≤ 512
    · by_cases h3 : 0 ≤ C
      · by_cases h4 : C ≤ 512
        · have hp := prod512 ⟨h1, h2⟩ ⟨h3, h4⟩
          have e : decide (0 ≤ R ∧ R ≤ 512 ∧ 0 ≤ C ∧ C ≤ 512 ∧ (n : Int) = R * C) = ((n : Int) == R * C) := by
            rw [Bool.eq_iff_iff, decide_eq_true_iff, beq_iff_eq]
            constructor
            · intro h; exact h.2.2.2.2
            · intro h; exact ⟨h1, h2, h3, h4, h⟩
          rw [e]
          obtain ⟨z, hz⟩ : ∃ z, R * C = z := ⟨_, rfl⟩
          rw [hz] at hp ⊢
          clear e
          go_enter Try.func37, Try.ntmps37
          go_wp2_with fail
          go_ret
          exact ⟨rfl, bz⟩
        · rw [decide_eq_false (by omega)]
          go_enter Try.func37, Try.ntmps37
          go_wp2_with fail
          go_ret
          exact ⟨by simp <;> omega, bz⟩
      · rw [decide_eq_false (by omega)]
        go_enter Try.func37, Try.ntmps37
        go_wp2_with fail
        go_ret
        exact ⟨by simp <;> omega, bz⟩
    · rw [decide_eq_false (by omega)]
      go_enter Try.func37, Try.ntmps37
      go_wp2_with fail
      go_ret
      exact ⟨by simp <;> omega, bz⟩
  · rw [decide_eq_false (by omega)]
    go_enter Try.func37, Try.ntmps37
    go_wp2_with fail
    go_ret
    exact ⟨by simp <;> omega, bz⟩
end Go.Proofs.Ytbaeabmmokgomaa
namespace Go.Proofs.Ytbaeabmmokgomaa
open Go.RowKit Go.Bw
set_option linter.unusedVariables false
set_option linter.unusedSimpArgs false
/-- are there n, the one at k of F - k entries? -/
def lenB (n : Nat) (F : Int) (hs : List Re) : Prop := hs.length = n ∧ ∀ (k : Nat) (r : Re), hs[k]? = some r → (r.l.length : Int) = F - k
set_option maxRecDepth 100000 in
set_option maxHeartbeats 8000000 in
theorem rlengths_any {n K c : Nat} {F : Int} {A : Option Addr} {hs : List Re} {w : World} {b : Bool} (h : Rl w A K c hs) (n5 : n ≤ 512) (F0 : -1 ≤ F) (F1 : F ≤ 512) (hb : b = true ↔ lenB n F hs) :
    Calls Try.prog 47 #[.slice A K c, .int .i64 n, .int .i64 F] w (Ans w (.bool b)) := by
  have HLL := Lib.hid h.1
  have hmx := h.2.1
  have HB := Lib.hid hb
  clear hb
  have bz := Below.refl w.heap.size w
  by_cases hK : K = n
  · subst hK
    have d0 : ((K : Int) != (K : Int)) = false := by simp
    go_enter Try.func47, Try.ntmps47
    go_wp2_with fail
    go_loopw [7] (fun i wr => ∃ (k : Nat), k ≤ K ∧ i = .int .i64 k ∧ Hid (∀ (j : Nat) (r : Re), j < k → hs[j]? = some r → (r.l.length : Int) = F - j) ∧ Below w.heap.size w wr) (fun i _ => K - (intOf i).toNat)
    case atStart => exact ⟨0, Nat.zero_le _, rfl, Lib.hid (fun j r hj => absurd hj (Nat.not_lt_zero j)), bz⟩
    case round =>
      clear bz
      obtain ⟨k, hk, rfl, HG, bz⟩ := hrel
      by_cases hlt : k < K
      · obtain ⟨e, ad, ea, he, rfl, hE, hl, hc0, hc1, hv, bt⟩ := (h.on bz).at_ (k := k) hlt
        have hvm := hv.max
        have k0 : (0 : Int) ≤ k := by omega
        have k1 : (k : Int) < K := by omega
        obtain ⟨y, hy⟩ : ∃ y, F - (k : Int) = y := ⟨_, rfl⟩
        have w3 : IntKind.i64.wrap (y : Int) = (y : Int) := IntWalk.i64_in _ (by omega)
        have HY := Lib.hid hy
        have HE := Lib.hid he
        clear he hv
        by_cases hg : (e.l.length : Int) = y
        · have d : ((e.l.length : Int) != y) = false := by rw [hg]; simp
          have HG2 : Hid (∀ (j : Nat) (r : Re), j < k + 1 → hs[j]? = some r → (r.l.length : Int) = F - j) := Lib.hid (fun j r hj hr => by
            rcases Nat.lt_or_ge j k with g | g
            · exact HG.out j r g hr
            · obtain rfl : j = k := by omega
              have h9 := HE.out
              rw [h9] at hr
              injection hr with hr
              rw [← hr, hg, HY.out])
          clear hg
          go_wp2_with fail
          go_roundw
          case rel => exact ⟨k + 1, by omega, by go_num, HG2, bz⟩
          case measure => simp [intOf]; omega
        · have d : ((e.l.length : Int) != y) = true := by simpa using hg
          have hb0 : b = false := by
            cases hb9 : b
            · rfl
            · exact absurd ((HB.out.1 hb9).2 k e HE.out) (by rw [HY.out]; exact hg)
          subst hb0
          clear hg
          go_wp2_with fail
          go_ret
          exact ⟨rfl, bz⟩
      · obtain rfl : k = K := by omega
        have k1 : ¬ (k : Int) < k := by omega
        have hb1 : b = true := HB.out.2 ⟨HLL.out, fun j r hr => HG.out j r (by have := (List.getElem?_eq_some_iff.1 hr).1; rw [HLL.out] at this; exact this) hr⟩
        subst hb1
        go_wp2_with fail
        go_ret
        exact ⟨rfl, bz⟩
  · have hb0 : b = false := by
      cases hb9 : b
      · rfl
      · exact absurd (HLL.out.symm.trans (HB.out.1 hb9).1) hK
    subst hb0
    have d0 : ((K : Int) != (n : Int)) = true := by simpa using (by omega : ¬ (K : Int) = (n : Int))
    clear hK
    go_enter Try.func47, Try.ntmps47
    go_wp2_with fail
    go_ret
    exact ⟨rfl, bz⟩
set_option maxRecDepth 100000 in
set_option maxHeartbeats 8000000 in
theorem rMayQ11_any {m n : Int} {K c : Nat} {A : Option Addr} {hs : List Re} {w : World} {b : Bool} (h : Rl w A K c hs) (hb : b = true ↔ (0 ≤ m ∧ m ≤ 512 ∧ 0 ≤ n ∧ n ≤ m ∧ lenB n.toNat m hs)) :
    Calls Try.prog 18 #[.int .i64 m, .int .i64 n, .slice A K c] w (Ans w (.bool b)) := by
  have bz := Below.refl w.heap.size w
  have HB := Lib.hid hb
  clear hb
  have bF : ¬ (0 ≤ m ∧ m ≤ 512 ∧ 0 ≤ n ∧ n ≤ m) → b = false := fun q => by
    cases hb9 : b
    · rfl
    · have h9 := HB.out.1 hb9
      exact absurd ⟨h9.1, h9.2.1, h9.2.2.1, h9.2.2.2.1⟩ q
  by_cases h1 : 0 ≤ m
  · by_cases h2 : m ≤ 512
    · by_cases h3 : 0 ≤ n
      · by_cases h4 : n ≤ m
        · obtain ⟨n, rfl⟩ := Int.eq_ofNat_of_zero_le h3
          have p := fun W => rlengths_any (n := n) (F := m) (w := W) (b := b) (K := K) (c := c) (A := A) (hs := hs)
          have hbb : b = true ↔ lenB n m hs := ⟨fun q => (HB.out.1 q).2.2.2.2, fun q => HB.out.2 ⟨h1, h2, h3, h4, q⟩⟩
          replace p := p w h (by omega) (by omega) h2 hbb
          clear bF hbb
          go_enter Try.func18, Try.ntmps18
          go_wp2_with fail
          with_reducible refine p.mono ?_
          rintro e w1 ⟨rfl, hb1⟩
          go_wp2_with fail
          go_ret
          exact ⟨rfl, hb1⟩
        · obtain rfl := bF (fun q => h4 q.2.2.2)
          clear bF
          go_enter Try.func18, Try.ntmps18
          go_wp2_with fail
          go_ret
          exact ⟨rfl, bz⟩
      · obtain rfl := bF (fun q => h3 q.2.2.1)
        clear bF
        go_enter Try.func18, Try.ntmps18
        go_wp2_with fail
        go_ret
        exact ⟨rfl, bz⟩
    · obtain rfl := bF (fun q => h2 q.2.1)
      clear bF
      go_enter Try.func18, Try.ntmps18
      go_wp2_with fail
      go_ret
      exact ⟨rfl, bz⟩
  · obtain rfl := bF (fun q => h1 q.1)
    clear bF
    go_enter Try.func18, Try.ntmps18
    go_wp2_with fail
    go_ret
    exact ⟨rfl, bz⟩
set_option maxRecDepth 100000 in
set_option maxHeartbeats 8000000 in
theorem rMayP11_any {n : Int} {K c : Nat} {A : Option Addr} {hs : List Re} {w : World} {b : Bool} (h : Rl w A K c hs) (hb : b = true ↔ (0 ≤ n ∧ n ≤ 512 ∧ lenB (n.toNat - 2) (n - 1) hs)) :
    Calls Try.prog 22 #[.int .i64 n, .slice A K c] w (Ans w (.bool b)) := by
  have bz := Below.refl w.heap.size w
  have HB := Lib.hid hb
  clear hb
  have bF : ¬ (0 ≤ n ∧ n ≤ 512) → b = false := fun q => by
    cases hb9 : b
    · rfl
    · have h9 := HB.out.1 hb9
      exact absurd ⟨h9.1, h9.2.1⟩ q
  by_cases h3 : 0 ≤ n
  · by_cases h4 : n ≤ 512
    · have hbb : b = true ↔ lenB (n.toNat - 2) (n - 1) hs := ⟨fun q => (HB.out.1 q).2.2, fun q => HB.out.2 ⟨h3, h4, q⟩⟩
      have w1 : IntKind.i64.wrap (n - 1) = n - 1 := IntWalk.i64_in _ (by omega)
      have w2 : IntKind.i64.wrap (n - 2) = n - 2 := IntWalk.i64_in _ (by omega)
      have p := rlengths_any (n := n.toNat - 2) (F := n - 1) (w := w) h (by omega) (by omega) (by omega) hbb
      clear bF hbb
      by_cases h5 : 2 < n
      · have e5 : ((n.toNat - 2 : Nat) : Int) = n - 2 := by omega
        rw [e5] at p
        have c1 : ¬ n - 2 < 0 := by omega
        have c2 : (0 : Int) < n - 2 := by omega
        have c3 : ¬ n - 2 ≤ 0 := by omega
        go_enter Try.func22, Try.ntmps22
        go_wp2_with fail
        with_reducible refine p.mono ?_
        rintro e w1 ⟨rfl, hb1⟩
        go_wp2_with fail
        go_ret
        exact ⟨rfl, hb1⟩
      · have e5 : ((n.toNat - 2 : Nat) : Int) = 0 := by omega
        rw [e5] at p
        have h6 : n = 0 ∨ n = 1 ∨ n = 2 := by omega
        rcases h6 with rfl | rfl | rfl <;>
        · first | rw [show (0 : Int) - 1 = -1 from rfl] at p | rw [show (1 : Int) - 1 = 0 from rfl] at p | rw [show (2 : Int) - 1 = 1 from rfl] at p
          go_enter Try.func22, Try.ntmps22
          go_wp2_with fail
          with_reducible refine p.mono ?_
          rintro e w1 ⟨rfl, hb1⟩
          go_wp2_with fail
          go_ret
          exact ⟨rfl, hb1⟩
    · obtain rfl := bF (fun q => h4 q.2)
      clear bF
      go_enter Try.func22, Try.ntmps22
      go_wp2_with fail
      go_ret
      exact ⟨rfl, bz⟩
  · obtain rfl := bF (fun q => h3 q.1)
    clear bF
    go_enter Try.func22, Try.ntmps22
    go_wp2_with fail
    go_ret
    exact ⟨rfl, bz⟩
end Go.Proofs.Ytbaeabmmokgomaa
namespace Go.Proofs.Ytbaeabmmokgomaa
open Go.RowKit Go.Bw
set_option linter.unusedVariables false
set_option linter.unusedSimpArgs false
attribute [local go_sem] run_store_float
/-- the first k rows -/
def bfF (d e : List Int) (n k z : Nat) : Option Nat := if z / n = z % n ∧ z / n < k then fa (D d (z / n)) else if z / n + 1 = z % n ∧ z / n < k then fa (D e (z / n)) else some 0
theorem bfF_zero (d e : List Int) (n : Nat) : Is (List.replicate (n * n) 0) (n * n) (bfF d e n 0) :=
  (oneF_zero n).congr (fun k _ => by
    unfold bfF oneF
    rw [if_neg (fun h => Nat.not_lt_zero _ h.2), if_neg (fun h => Nat.not_lt_zero _ h.2), if_neg (fun h => Nat.not_lt_zero _ h.2)])
theorem bfF_last {d e : List Int} {n k j : Nat} (hk : k + 1 = n) (hj : j < n * n) : upd (bfF d e n k) (k * n + k) (fa (D d k)) j = bfF d e n (k + 1) j := by
  have p1 := pos_iff (i := k) (j := k) (by omega) (by omega) hj
  have h1 := Nat.mod_lt j (show 0 < n by omega)
  unfold upd bfF
  generalize j / n = r at *
  generalize j % n = c at *
  by_cases h : j = k * n + k
  · obtain ⟨rfl, rfl⟩ := p1.1 h
    rw [if_pos h, if_pos ⟨rfl, Nat.lt_succ_self _⟩]
  · rw [if_neg h]
    have q1 : ¬ (r = k ∧ c = k) := fun q => h (p1.2 q)
    by_cases c1 : r = c ∧ r < k
    · rw [if_pos c1, if_pos (show r = c ∧ r < k + 1 by omega)]
    · rw [if_neg c1, if_neg (show ¬ (r = c ∧ r < k + 1) by omega)]
      by_cases c2 : r + 1 = c ∧ r < k
      · rw [if_pos c2, if_pos (show r + 1 = c ∧ r < k + 1 by omega)]
      · rw [if_neg c2, if_neg (show ¬ (r + 1 = c ∧ r < k + 1) by omega)]
theorem bfF_next {d e : List Int} {n k j : Nat} (hk : k + 1 < n) (hj : j < n * n) : upd (upd (bfF d e n k) (k * n + k) (fa (D d k))) (k * n + (k + 1)) (fa (D e k)) j = bfF d e n (k + 1) j := by
  have p1 := pos_iff (i := k) (j := k) (by omega) (by omega) hj
  have p2 := pos_iff (i := k) (j := k + 1) (by omega) hk hj
  unfold upd bfF
  generalize j / n = r at *
  generalize j % n = c at *
  by_cases h2 : j = k * n + (k + 1)
  · obtain ⟨rfl, rfl⟩ := p2.1 h2
    rw [if_pos h2, if_neg (show ¬ (r = r + 1 ∧ r < r + 1) by omega), if_pos (show r + 1 = r + 1 ∧ r < r + 1 by omega)]
  · rw [if_neg h2]
    have q2 : ¬ (r = k ∧ c = k + 1) := fun q => h2 (p2.2 q)
    by_cases h : j = k * n + k
    · obtain ⟨rfl, rfl⟩ := p1.1 h
      rw [if_pos h, if_pos ⟨rfl, Nat.lt_succ_self _⟩]
    · rw [if_neg h]
      have q1 : ¬ (r = k ∧ c = k) := fun q => h (p1.2 q)
      by_cases c1 : r = c ∧ r < k
      · rw [if_pos c1, if_pos (show r = c ∧ r < k + 1 by omega)]
      · rw [if_neg c1, if_neg (show ¬ (r = c ∧ r < k + 1) by omega)]
        by_cases c2 : r + 1 = c ∧ r < k
        · rw [if_pos c2, if_pos (show r + 1 = c ∧ r < k + 1 by omega)]
        · rw [if_neg c2, if_neg (show ¬ (r + 1 = c ∧ r < k + 1) by omega)]
end Go.Proofs.Ytbaeabmmokgomaa
namespace Go.Proofs.Ytbaeabmmokgomaa
open Go.RowKit Go.Bw
set_option linter.unusedVariables false
set_option linter.unusedSimpArgs false
attribute [local go_sem] run_store_float
/-- the first i rows and k entries of the next are turned -/
def tnF (l : List Int) (n m i k z : Nat) : Option Nat := if z % m < i ∨ (z % m = i ∧ z / m < k) then fa (D l ((z % m) * n + z / m)) else some 0
/-- all are -/
def tnA (l : List Int) (n m z : Nat) : Option Nat := fa (D l ((z % m) * n + z / m))
theorem tnF_zero (l : List Int) (n m N : Nat) : Is (List.replicate N 0) N (tnF l n m 0 0) :=
  (oneF_zeroN n N).congr (fun k _ => by
    unfold tnF oneF
    rw [if_neg (fun h => Nat.not_lt_zero _ h.2), if_neg (fun h => h.elim (Nat.not_lt_zero _) (fun h => Nat.not_lt_zero _ h.2))])
theorem tnF_next {l : List Int} {n m i k j : Nat} (hi : i < m) : upd (tnF l n m i k) (k * m + i) (fa (D l (i * n + k))) j = tnF l n m i (k + 1) j := by
  have p1 : j = k * m + i ↔ j / m = k ∧ j % m = i := ⟨fun h => by rw [h]; exact ix_div hi, fun h => ix_back h.1 h.2⟩
  unfold upd tnF
  generalize j / m = r at *
  generalize j % m = c at *
  by_cases h : j = k * m + i
  · obtain ⟨rfl, rfl⟩ := p1.1 h
    rw [if_pos h, if_pos (.inr ⟨rfl, Nat.lt_succ_self _⟩)]
  · rw [if_neg h]
    have q1 : ¬ (r = k ∧ c = i) := fun q => h (p1.2 q)
    by_cases c1 : c < i ∨ (c = i ∧ r < k)
    · rw [if_pos c1, if_pos (show c < i ∨ (c = i ∧ r < k + 1) by omega)]
    · rw [if_neg c1, if_neg (show ¬ (c < i ∨ (c = i ∧ r < k + 1)) by omega)]
theorem tnF_row {l : List Int} {n m i j : Nat} (hj : j < n * m) : tnF l n m i n j = tnF l n m (i + 1) 0 j := by
  have h1 : j / m < n := Nat.div_lt_of_lt_mul (by rw [Nat.mul_comm]; exact hj)
  unfold tnF
  generalize j / m = r at *
  generalize j % m = c at *
  by_cases c1 : c < i ∨ (c = i ∧ r < n)
  · rw [if_pos c1, if_pos (show c < i + 1 ∨ (c = i + 1 ∧ r < 0) by omega)]
  · rw [if_neg c1, if_neg (show ¬ (c < i + 1 ∨ (c = i + 1 ∧ r < 0)) by omega)]
theorem tnF_all {l : List Int} {n m j : Nat} (hj : j < n * m) : tnF l n m m 0 j = tnA l n m j := by
  have m0 : 0 < m := by
    rcases Nat.eq_zero_or_pos m with h | h
    · subst h; simp at hj
    · exact h
  have h1 := Nat.mod_lt j m0
  unfold tnF tnA
  rw [if_pos (.inl h1)]
end Go.Proofs.Ytbaeabmmokgomaa
namespace Go.Proofs.Ytbaeabmmokgomaa
open Go.RowKit Go.Bw
set_option linter.unusedVariables false
set_option linter.unusedSimpArgs false
section
section
variable {w w' : World} {B B' c g : Nat} {A : Option Addr} {l : List Int}

end
section
variable (w : World)
end

section
variable {w w' : World} {g g' B : Nat} {vs : List Value}
end
section
variable {w w' : World} {A : Option Addr} {n c : Nat} {l : List Int}
end
section
variable {w : World} {g : Nat} {r s : Int} {A : Option Addr} {n c : Nat}
end
end
section
theorem setb_grown {w w' : World} {g : Nat} (h : w.grownBy w' (some g)) (k : Nat) (u : Value) : w.grownBy (w'.setCell ⟨g, k, none⟩ u) (some g) :=
  ⟨h.os, h.tape, h.output, by rw [World.size_setCell]; exact h.size, fun b hb hne => by
    rw [Below.heap_setCell w' ⟨g, k, none⟩ u b (fun e => hne (by rw [e]))]
    exact h.block b hb hne⟩
section
variable {w : World} {K : Int}
end
end
section
/-- a list of floats that lay below B -/
def FLo (w : World) (B : Nat) (A : Option Addr) (n c : Nat) (l : List Int) : Prop := l.length = n ∧ NumF w B A c l ∧ Wd l ∧ B ≤ w.heap.size
section
variable {w w' : World} {B s g cap c n cd b : Nat} {A : Option Addr} {l l2 : List Int} {K : Int} {row : Option Nat}
theorem FL.lo (h : FL w A n c l) : FLo w w.heap.size A n c l := ⟨h.1, h.2.1, h.2.2, Nat.le_refl _⟩
theorem FLo.fl (h : FLo w B A n c l) : FL w A n c l := ⟨h.1, h.2.1.more h.2.2.2, h.2.2.1⟩
theorem FLo.on (h : FLo w B A n c l) (hb : Below w.heap.size w w') : FLo w' B A n c l := ⟨h.1, h.2.1.keep (fun p hp => hb.cell (Nat.lt_of_lt_of_le hp h.2.2.2)), h.2.2.1, Nat.le_trans h.2.2.2 hb.size⟩
theorem FLo.grown (h : FLo w B A n c l) (hg : w.grownBy w' (some b)) (hb : B ≤ b) : FLo w' B A n c l := ⟨h.1, h.2.1.grown hg h.2.2.2 (fun k e => by cases e; exact hb), h.2.2.1, Nat.le_trans h.2.2.2 hg.size⟩
theorem FLo.drew (h : FLo w B A n c l) : FLo w.drew B A n c l := h
end
section
variable {w : World} {K K2 : Int} {B s g cap c n : Nat} {l : List Int}
end
end
section
/-- b o and a s, added -/
def bothA (b o a s : Option Nat) : Option Nat := aop .add (aop .mul b o) (aop .mul a s)
section
variable {s c n : Nat} {K : Int} {l lx : List Int}
section
variable {L : List Int} {m q : Nat} {P Q : Nat → Nat → Bool} {f : Nat → Nat → Option Nat}
end
end
end
section
end
section
/-- a part of a list -/
theorem FL.cut {w : World} {A : Option Addr} {n c lo k : Nat} {l : List Int} (h : FL w A n c l) (hk : lo + k ≤ n) : FL w (if c = lo then A else A.map (·.add lo)) k (c - lo) ((l.drop lo).take k) := by
  have hn := h.2.1.1
  have hl := h.1
  have e : ((l.drop lo).take k).length = k := by rw [List.length_take, List.length_drop]; omega
  refine ⟨e, ⟨by rw [e]; omega, by have := h.2.1.2.1; omega, fun hp => ?_⟩, fun x hx => h.2.2 x (List.mem_of_mem_drop (List.mem_of_mem_take hx))⟩
  rw [e] at hp
  rw [if_neg (by omega)]
  obtain ⟨ad, rfl, hb, _⟩ := h.at_ (k := lo) (by omega)
  refine ⟨ad.add lo, rfl, by rw [add_block]; exact hb, fun j hj => ?_⟩
  rw [e] at hj
  rw [add_add, D_take, if_pos hj, D_drop]
  exact h.2.1.at_some (by omega)
/-- a list of floats -/
def RowA (w : World) (n : Nat) (l : List Int) (e : Ending) (w' : World) : Prop := ∃ A2 c2, e = .returned (.slice A2 n c2) ∧ FL w' A2 n c2 l ∧ Below w.heap.size w w'
/-- a list of floats of new memory, that is f -/
def NewF (w : World) (n : Nat) (f : Nat → Option Nat) (e : Ending) (w' : World) : Prop := ∃ A2 c2 L, e = .returned (.slice A2 n c2) ∧ Is L n f ∧ OwnF w' w.heap.size A2 c2 L ∧ Below w.heap.size w w'
theorem Is.fl {w : World} {B n c : Nat} {A : Option Addr} {L : List Int} {f : Nat → Option Nat} (h : Is L n f) (ho : OwnF w B A c L) : FL w A n c L := ⟨h.len, ho.nums, h.wd⟩
theorem D_row {l : List Int} {q i k : Nat} (hk : k < q) : fa (D ((l.drop (i * q)).take q) k) = ma l q i k := by unfold ma; rw [D_take, if_pos hk, D_drop]
section
variable {w : World} {m q i j n c : Nat} {A : Option Addr} {l : List Int}
end
end
section
/-- a list of one float, just built -/
theorem one_src (w : World) (r : Nat) : NumF (w.alloc (.cells #[.float .f64 r] 49)) (w.heap.size + 1) (some ⟨w.heap.size, 0, none⟩) 1 [(r : Int)] := by
  have := (RowF.one w (r : Int)).nums (B := w.heap.size + 1) (c := 1) 0 1 (by simp) (by omega) (by unfold maxLen; omega) (by simp)
  have e : fV (r : Int) = .float .f64 r := by show Value.float .f64 ((r : Int)).toNat = _; rw [Int.toNat_natCast]
  rw [e] at this
  simpa using this
/-- a list that a loop makes, k floats of f on -/
structure Mk (w : World) (B : Nat) (A : Option Addr) (c : Nat) (L : List Int) (k : Nat) (f : Nat → Option Nat) : Prop where
  is : Is L k f
  own : OwnF w B A c L
section
variable {w w' : World} {B k c : Nat} {A : Option Addr} {L : List Int} {f : Nat → Option Nat}
theorem Mk.nil (w : World) (B : Nat) (f : Nat → Option Nat) : Mk w B none 0 [] 0 f := ⟨Is.nil f, OwnF.nil w B⟩
theorem Mk.on (h : Mk w B A c L k f) (hb : Below w.heap.size w w') : Mk w' B A c L k f := ⟨h.is, h.own.on_ hb⟩
theorem Mk.put (h : Mk w B A c L k f) {r : Nat} (hr : af r = f k) (br : r ≤ 18446744073709551615) {A2 : Option Addr} {c2 : Nat} (ho : OwnF w' B A2 c2 (L ++ [(r : Int)])) : Mk w' B A2 c2 (L ++ [(r : Int)]) (k + 1) f :=
  ⟨h.is.snoc (by omega) (by omega) (by rw [fa_nat]; exact hr), ho⟩
theorem Mk.len (h : Mk w B A c L k f) : L.length = k := h.is.len
end

section
variable {w : World} {m q i j n c : Nat} {A : Option Addr} {l : List Int}
end
end
section
theorem app_below {w w' : World} {c n : Nat} (hg : w.grownBy w' (Value.slice none n c).ownBlock) : Below w.heap.size w w' := ⟨hg.os, hg.tape, hg.output, hg.size, fun k hk => hg.block k hk (by simp [Value.ownBlock])⟩
theorem set3_grown (W : World) (b : Nat) (x0 x1 x2 : Value) : W.grownBy (((W.setCell ⟨b, 0, none⟩ x0).setCell ⟨b, 1, none⟩ x1).setCell ⟨b, 2, none⟩ x2) (some b) :=
  setb_grown (setb_grown (setb_grown (World.grownBy.refl W _) 0 x0) 1 x1) 2 x2
/-- a copy of a matrix, in new memory -/
def NewC (w : World) (m q n : Nat) (l : List Int) (e : Ending) (w' : World) : Prop := ∃ A2 c2, e = .returned (mV m q A2 n c2) ∧ OwnF w' w.heap.size A2 c2 l ∧ Below w.heap.size w w'
/-- a matrix of new memory, that is f -/
def NewMt (w : World) (m q n : Nat) (f : Nat → Option Nat) (e : Ending) (w' : World) : Prop := ∃ A2 c2 L, e = .returned (mV m q A2 n c2) ∧ Is L n f ∧ OwnF w' w.heap.size A2 c2 L ∧ Below w.heap.size w w'
/-- a loop that writes a matrix of its own, place by place: its boxes, and what is written so far -/
structure Gs (w : World) (B : Nat) (bs : List (Nat × List Value)) (m q : Nat) (A2 : Option Addr) (c2 : Nat) (l L : List Int) (P : Nat → Nat → Bool) (f : Nat → Nat → Option Nat) (wr : World) : Prop where
  mr : Mr L l m q P f
  own : OwnF wr B A2 c2 L
  bx : ∀ b ∈ bs, Blk wr b.1 b.2
  ne : ∀ b ∈ bs, ∀ a, A2 = some a → b.1 ≠ a.block
  bw : Below w.heap.size w wr
  lo : w.heap.size ≤ B
section
variable {w wr wr' : World} {B m q c2 : Nat} {bs : List (Nat × List Value)} {A2 : Option Addr} {l L : List Int} {P Q : Nat → Nat → Bool} {f : Nat → Nat → Option Nat}
theorem Gs.on (h : Gs w B bs m q A2 c2 l L P f wr) (hb : Below wr.heap.size wr wr') : Gs w B bs m q A2 c2 l L P f wr' :=
  ⟨h.mr, h.own.on_ hb, fun b hm => (h.bx b hm).on hb, h.ne, h.bw.trans (hb.mono h.bw.size), h.lo⟩
theorem Gs.congr (h : Gs w B bs m q A2 c2 l L P f wr) (e : ∀ a b, a < m → b < q → P a b = Q a b) : Gs w B bs m q A2 c2 l L Q f wr := ⟨h.mr.congr e, h.own, h.bx, h.ne, h.bw, h.lo⟩
theorem Gs.cell {g : Nat} (h : Gs w B bs m q (some ⟨g, 0, none⟩) c2 l L P f wr) {k : Nat} (hk : k < L.length) : wr.cell? ⟨g, k, none⟩ = some (.float .f64 (D L k).toNat) ∧ wr.frozen? ⟨g, k, none⟩ = false := by
  obtain ⟨g', e, h1, h2⟩ := h.own.at_ hk
  cases e
  exact ⟨h1, h2⟩
theorem fV_nat (r : Nat) : fV (r : Int) = .float .f64 r := by show Value.float .f64 ((r : Int)).toNat = _; rw [Int.toNat_natCast]
theorem Gs.set {g : Nat} (h : Gs w B bs m q (some ⟨g, 0, none⟩) c2 l L P f wr) {i j k : Nat} (hk : i * q + j = k) (hi : i < m) (hj : j < q) {r : Nat} (hr : af r = f i j) (br : r ≤ 18446744073709551615)
    (hQ : ∀ a b, a < m → b < q → Q a b = (P a b || decide (a = i ∧ b = j))) : Gs w B bs m q (some ⟨g, 0, none⟩) c2 l (L.set k (r : Int)) Q f (wr.setCell ⟨g, k, none⟩ (.float .f64 r)) := by
  subst hk
  have hg := OwnF.gt h.own rfl
  refine ⟨h.mr.set hi hj (by omega) (by omega) (by rw [fa_nat]; exact hr) hQ, ?_, fun b hm => (h.bx b hm).far (p := ⟨g, i * q + j, none⟩) (h.ne b hm ⟨g, 0, none⟩ rfl) _, h.ne, h.bw.setCell (p := ⟨g, i * q + j, none⟩) (Nat.le_trans h.lo hg.1) _, h.lo⟩
  have := h.own.set_ (i * q + j) (r : Int)
  rwa [fV_nat] at this
end

section
variable {w : World} {m q i j n c : Nat} {A : Option Addr} {l : List Int}
end
end
section
attribute [local go_sem] run_store_float

theorem dot_rows {lm ln L : List Int} {p q i j : Nat} (h : Is L p (fun k => ma ln q k j)) : dotA ((lm.drop (i * p)).take p) L p = sumA (fun t => aop .mul (ma lm p i t) (ma ln q t j)) p := by
  unfold dotA
  exact sumA_congr fun t ht => by rw [D_row ht, h.at_ t ht]
section
variable {w : World} {m q n c : Nat} {A : Option Addr} {l : List Int}
end
end
end Go.Proofs.Ytbaeabmmokgomaa
namespace Go.Proofs.Ytbaeabmmokgomaa
open Go.RowKit Go.Bw
set_option linter.unusedVariables false
set_option linter.unusedSimpArgs false
/-- an entry of a product, into noughts -/
def tiF (la lb : List Int) (p q z : Nat) : Option Nat := bothA (af 0) (some 0) (af 4607182418800017408) (sumA (fun t => aop .mul (ma la p (z / q) t) (ma lb q t (z % q))) p)
theorem tiF_of {la lb : List Int} {m p q N z : Nat} (hN : N = m * q) (hz : z < N) :
    tg (fun a b => true) (fun i j => bothA (af 0) (ma (List.replicate N 0) q i j) (af 4607182418800017408) (sumA (fun t => aop .mul (ma la p i t) (ma lb q t j)) p)) (List.replicate N 0) q z = tiF la lb p q z := by
  unfold tg tiF
  rw [if_pos rfl]
  have q0 : 0 < q := by
    rcases Nat.eq_zero_or_pos q with h | h
    · subst h; rw [hN] at hz; simp at hz
    · exact h
  have e1 : z / q * q + z % q = z := by rw [Nat.mul_comm]; exact Nat.div_add_mod z q
  have h0 := (oneF_zeroN q N).3 z hz
  have e2 : ma (List.replicate N 0) q (z / q) (z % q) = some 0 := by
    unfold ma
    rw [e1, h0]
    unfold oneF
    rw [if_neg (fun h => Nat.not_lt_zero _ h.2)]
  show bothA (af 0) (ma (List.replicate N 0) q (z / q) (z % q)) _ _ = _
  rw [e2]
end Go.Proofs.Ytbaeabmmokgomaa
namespace Go.Proofs.Ytbaeabmmokgomaa
open Go.RowKit Go.Bw
set_option linter.unusedVariables false
set_option linter.unusedSimpArgs false
/-- an entry of a product of two matrices, by their entries -/
def tgF (f g : Nat → Option Nat) (p q z : Nat) : Option Nat := bothA (af 0) (some 0) (af 4607182418800017408) (sumA (fun t => aop .mul (f (z / q * p + t)) (g (t * q + z % q))) p)
theorem sumA_same {f g : Nat → Option Nat} : ∀ (p : Nat), (∀ t, t < p → f t = g t) → sumA f p = sumA g p
  | 0, _ => rfl
  | p + 1, h => by
    unfold sumA
    rw [sumA_same p (fun t ht => h t (by omega)), h p (by omega)]
theorem tiF_tgF {la lb : List Int} {m p q z : Nat} {f g : Nat → Option Nat} (ha : Is la (m * p) f) (hb : Is lb (p * q) g) (hz : z < m * q) : tiF la lb p q z = tgF f g p q z := by
  have q0 : 0 < q := by
    rcases Nat.eq_zero_or_pos q with h | h
    · subst h; simp at hz
    · exact h
  have hi : z / q < m := Nat.div_lt_of_lt_mul (by rw [Nat.mul_comm]; exact hz)
  have hj : z % q < q := Nat.mod_lt _ q0
  unfold tiF tgF
  rw [sumA_same p (fun t ht => by
    show aop .mul (ma la p (z / q) t) (ma lb q t (z % q)) = aop .mul (f (z / q * p + t)) (g (t * q + z % q))
    unfold ma
    rw [ha.3 _ (ix_lt hi ht), hb.3 _ (ix_lt ht hj)])]
/-- an entry of a bidiagonal's product -/
def prF (lq d e lp : List Int) (n : Nat) : Nat → Option Nat := tgF (tgF (fun j => fa (D lq j)) (bfF d e n n) n n) (tnA lp n n) n n
end Go.Proofs.Ytbaeabmmokgomaa
