/-
  Layer 10, walks: I, by the reference.
-/
import Derived.Test.YtaemkjcmjgefeaaQRfL
import Derived.Test.YtaemkjcmjgefeaaTdA
namespace Go.Proofs.Ytaemkjcmjgefeaa
open Go.RowKit Go.Bw
set_option linter.unusedVariables false
set_option linter.unusedSimpArgs false
attribute [local go_sem] run_store_float

theorem ix_div {i j q : Nat} (hj : j < q) : (i * q + j) / q = i ∧ (i * q + j) % q = j := by
  have q0 : 0 < q := by omega
  constructor
  · rw [Nat.add_comm, Nat.add_mul_div_right _ _ q0, Nat.div_eq_of_lt hj, Nat.zero_add]
  · rw [Nat.add_comm, Nat.add_mul_mod_self_right, Nat.mod_eq_of_lt hj]
theorem ix_back {i j q z : Nat} (h1 : z / q = i) (h2 : z % q = j) : z = i * q + j := by
  have := Nat.div_add_mod z q
  rw [h1, h2, Nat.mul_comm] at this
  exact this.symm
/-- I's first k ones -/
def oneF (n k z : Nat) : Option Nat := if z / n = z % n ∧ z % n < k then some 4607182418800017408 else some 0
theorem oneF_zero (n : Nat) : Is (List.replicate (n * n) 0) (n * n) (oneF n 0) := by
  refine ⟨by simp, fun x hx => ?_, fun k hk => ?_⟩
  · rw [List.eq_of_mem_replicate hx]; omega
  · rw [D_in (by simpa using hk), List.getElem_replicate]
    unfold oneF
    rw [if_neg (by omega)]
    exact fa_zero
theorem oneF_next {n k N z : Nat} {L : List Int} (h : Is L N (oneF n k)) (hk : k < n) (hz : k * n + k = z) (hzN : z < N) : Is (L.set z 4607182418800017408) N (oneF n (k + 1)) := by
  obtain ⟨d1, d2⟩ := ix_div (i := k) hk
  rw [hz] at d1 d2
  refine h.set (by omega) (by omega) hzN ?_ (fun j hj hne => ?_)
  · unfold oneF
    rw [d1, d2, if_pos ⟨rfl, by omega⟩]
    decide
  · unfold oneF
    by_cases c : j / n = j % n ∧ j % n < k
    · rw [if_pos c, if_pos ⟨c.1, by omega⟩]
    · rw [if_neg c, if_neg (fun c2 => ?_)]
      have e : j % n = k := by
        rcases Nat.lt_or_ge (j % n) k with h9 | h9
        · exact absurd ⟨c2.1, h9⟩ c
        · omega
      exact hne (by rw [ix_back (c2.1.trans e) e, hz])
set_option maxRecDepth 100000 in
set_option maxHeartbeats 8000000 in
theorem rOne_any (n : Nat) (hn : n ≤ 512) (w : World) : Calls Try.prog 21 #[.int .i64 n] w (MatQ w n n (n * n) (oneF n n)) := by
  have h0 := oneF_zero n
  obtain ⟨N, hN⟩ : ∃ N, n * n = N := ⟨_, rfl⟩
  have n4 : N ≤ 262144 := by rw [← hN]; exact Nat.le_trans (Nat.mul_le_mul hn hn) (by decide)
  have eN : (n : Int) * (n : Int) = (N : Int) := by exact_mod_cast hN
  have wN : IntKind.i64.wrap (N : Int) = (N : Int) := IntWalk.i64_in _ (by omega)
  have hmk := run_makeF N (by omega)
  rw [hN] at h0 ⊢
  have HN := Lib.hid hN
  clear hN
  have DZ := Blk.new w [.int .i64 0, .int .i64 0, .slice none 0 0] 24
  have bz := (Below.refl _ w).alloc (Nat.le_refl _) (.cells #[.int .i64 0, .int .i64 0, .slice none 0 0] 24)
  have hs1 := World.size_alloc w (.cells #[.int .i64 0, .int .i64 0, .slice none 0 0] 24)
  go_enter Try.func21, Try.ntmps21
  go_upto_region 1 with fail
  generalize w.alloc (.cells #[.int .i64 0, .int .i64 0, .slice none 0 0] 24) = W1 at DZ bz hs1 ⊢
  have hO : OwnF (W1.alloc (.cells (LF (List.replicate N 0)).toArray 39)) w.heap.size (some ⟨W1.heap.size, 0, none⟩) N (List.replicate N 0) := by
    have h9 := RowF.own (g := W1.heap.size) (B := w.heap.size) (RowF.new W1 (List.replicate N 0)) N (by simp) (by simp; unfold maxLen; omega) (by omega)
    simpa using h9
  replace DZ := DZ.alloc (.cells (LF (List.replicate N 0)).toArray 39)
  replace bz := bz.alloc (by omega) (.cells (LF (List.replicate N 0)).toArray 39)
  have hs2 := World.size_alloc W1 (.cells (LF (List.replicate N 0)).toArray 39)
  have DK := Blk.new (W1.alloc (.cells (LF (List.replicate N 0)).toArray 39)) [.int .i64 n, .int .i64 n, .slice (some ⟨w.heap.size + 1, 0, none⟩) N N] 24
  rw [hs2, hs1] at DK
  rw [hs1] at hO
  replace DZ := DZ.alloc (.cells #[.int .i64 n, .int .i64 n, .slice (some ⟨w.heap.size + 1, 0, none⟩) N N] 24)
  replace hO := hO.alloc_ (.cells #[.int .i64 n, .int .i64 n, .slice (some ⟨w.heap.size + 1, 0, none⟩) N N] 24)
  replace bz := bz.alloc (by omega) (.cells #[.int .i64 n, .int .i64 n, .slice (some ⟨w.heap.size + 1, 0, none⟩) N N] 24)
  go_upto_region 2 with fail
  generalize (W1.alloc (.cells (LF (List.replicate N 0)).toArray 39)).alloc (.cells #[.int .i64 n, .int .i64 n, .slice (some ⟨w.heap.size + 1, 0, none⟩) N N] 24) = W2 at DZ hO DK bz ⊢
  clear hs1 hs2 hmk wN eN
  obtain ⟨g, hg⟩ : ∃ g, w.heap.size + 1 = g := ⟨_, rfl⟩
  rw [hg] at hO DK ⊢
  go_wp2_with fail
  go_loopw [4] (fun i wr => ∃ (k : Nat) (L : List Int), k ≤ n ∧ i = .int .i64 k ∧ Is L N (oneF n k) ∧ OwnF wr w.heap.size (some ⟨g, 0, none⟩) N L ∧ Mbx wr w.heap.size 0 0 none 0 0 ∧ Mbx wr (g + 1) n n (some ⟨g, 0, none⟩) N N ∧ Below w.heap.size w wr) (fun i _ => n - (intOf i).toNat)
  case atStart => exact ⟨0, _, Nat.zero_le _, rfl, h0, hO, DZ, DK, bz⟩
  case round =>
    clear h0 hO DZ DK bz
    obtain ⟨k, L, hk, rfl, hI, hO, DZ, DK, bz⟩ := hrel
    obtain ⟨k0, k1, k2, k3, k4, k5⟩ := Mbx.cells DK
    have hlen := hI.len
    by_cases hlt : k < n
    · obtain ⟨y, hy⟩ : ∃ y, k * n = y := ⟨_, rfl⟩
      obtain ⟨z, hz⟩ : ∃ z, y + k = z := ⟨_, rfl⟩
      have hzN : z < N := by rw [← hz, ← hy, ← HN.out]; exact ix_lt hlt hlt
      have hI2 := oneF_next hI hlt (by rw [hy]; exact hz) hzN
      have ey : (k : Int) * (n : Int) = (y : Int) := by exact_mod_cast hy
      have ez : (y : Int) + (k : Int) = (z : Int) := by omega
      have wy : IntKind.i64.wrap (y : Int) = (y : Int) := IntWalk.i64_in _ (by omega)
      have wz : IntKind.i64.wrap (z : Int) = (z : Int) := IntWalk.i64_in _ (by omega)
      have z0 : (0 : Int) ≤ z := by omega
      have z1 : (z : Int) < N := by omega
      have kk : (k : Int) < n := by omega
      obtain ⟨hy4, hy5⟩ := hO.at' (k := z) (by rw [hlen]; exact hzN)
      clear hy hz
      go_wp2_with fail
      have hO2 := hO.set_ z 4607182418800017408
      have DZ2 := DZ.far (p := ⟨g, z, none⟩) (by show w.heap.size ≠ g; omega) (.float .f64 4607182418800017408)
      have DK2 := DK.far (p := ⟨g, z, none⟩) (by show g + 1 ≠ g; omega) (.float .f64 4607182418800017408)
      have bz2 := bz.setCell (p := ⟨g, z, none⟩) (by show w.heap.size ≤ g; omega) (.float .f64 4607182418800017408)
      go_roundw
      case rel => exact ⟨k + 1, _, by omega, by go_num, hI2, hO2, DZ2, DK2, bz2⟩
      case measure => simp [intOf]; omega
    · obtain rfl : k = n := by omega
      have kk : ¬ (k : Int) < k := by omega
      obtain ⟨z0, z1, z2, z3, z4, z5⟩ := Mbx.cells DZ
      go_wp2_with fail
      obtain ⟨x0, x1, x2, _, _, _⟩ := Mbx.cells (Mbx.put DZ k k (some ⟨g, 0, none⟩) N N)
      refine bodyPost_ret (v := mV k k (some ⟨g, 0, none⟩) N N) (by simp [results, Try.results21, go_sem, x0, x1, x2]) rfl ?_
      have hgs : wr.grownBy (((wr.setCell ⟨w.heap.size, 0, none⟩ (.int .i64 k)).setCell ⟨w.heap.size, 1, none⟩ (.int .i64 k)).setCell ⟨w.heap.size, 2, none⟩ (.slice (some ⟨g, 0, none⟩) N N)) (some w.heap.size) := grown_setCell (grown_setCell (grown_setCell (World.grownBy.refl wr _) 0 _) 1 _) 2 _
      exact ⟨_, _, L, rfl, hO.grown_ hgs (fun a e => by injection e with e; subst e; simp; omega), hI, bz.grown hgs bz.size (fun b e => by injection e with e; omega)⟩
end Go.Proofs.Ytaemkjcmjgefeaa
