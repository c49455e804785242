/-
  Layer 5, walks: symmetry: one place, all places.
-/
import Derived.Test.YtfaemgdeoamijaaGuG
namespace Go.Proofs.Ytfaemgdeoamijaa
open Go.RowKit Go.Bw
set_option linter.unusedVariables false
set_option linter.unusedSimpArgs false

/-- the call answers v and does no more than draw -/
def AnsD (w : World) (v : Value) (e : Ending) (w' : World) : Prop := e = .returned v ∧ ∃ m, w' = w.drewN m
def symP (l : List Int) (N i k : Nat) : Bool := sameW (D l (i * N + k)) (D l (k * N + i))
def symB (l : List Int) (N : Nat) : Bool := (List.range N).all fun i => (List.range N).all fun k => symP l N i k
theorem symB_true {l : List Int} {N : Nat} (h : ∀ i, i < N → ∀ k, k < N → symP l N i k = true) : symB l N = true := by
  unfold symB
  rw [List.all_eq_true]
  intro i hi
  rw [List.all_eq_true]
  intro k hk
  exact h i (List.mem_range.1 hi) k (List.mem_range.1 hk)
theorem symB_false {l : List Int} {N i k : Nat} (hi : i < N) (hk : k < N) (h : symP l N i k = false) : symB l N = false := by
  cases hb : symB l N
  · rfl
  · unfold symB at hb
    rw [List.all_eq_true] at hb
    have := hb i (List.mem_range.2 hi)
    rw [List.all_eq_true] at this
    rw [this k (List.mem_range.2 hk)] at h
    cases h
theorem place_lt {N i k : Nat} (hi : i < N) (hk : k < N) : i * N + k < N * N := by
  have : (i + 1) * N ≤ N * N := Nat.mul_le_mul_right N hi
  rw [Nat.succ_mul] at this
  omega

set_option maxHeartbeats 4000000 in
theorem sq1_any {A : Option Addr} {n c N g g2 i k : Nat} {l : List Int} {w : World} (h : UL w A n c l) (hg : Blk w g [.slice A n c]) (hg2 : Blk w g2 [.int .i64 N]) (hN : N ≤ 512) (hn : n = N * N) (hi : i < N) (hk : k < N) :
    Calls Try.prog 32 #[.int .i64 i, .int .i64 k, .pointer (some ⟨g, 0, none⟩), .pointer (some ⟨g2, 0, none⟩)] w (AnsD w (.bool (symP l N i k))) := by
  obtain ⟨p, hp⟩ : ∃ p, i * N + k = p := ⟨_, rfl⟩
  obtain ⟨q, hq⟩ : ∃ q, k * N + i = q := ⟨_, rfl⟩
  have hpn : p < n := by rw [← hp, hn]; exact place_lt hi hk
  have hqn : q < n := by rw [← hq, hn]; exact place_lt hk hi
  have hn2 := h.max
  obtain ⟨ad, rfl, hb, hc⟩ := h.at_ hpn
  obtain ⟨ad2, e2, hb2, hc2⟩ := h.at_ hqn
  cases e2
  obtain ⟨x0, x1⟩ := h.2.2.at_ p
  obtain ⟨y0, y1⟩ := h.2.2.at_ q
  have hr : symP l N i k = sameW (D l p) (D l q) := by unfold symP; rw [hp, hq]
  rw [hr]
  clear hr
  generalize D l p = X at *
  generalize D l q = Y at *
  have i0 : (0 : Int) ≤ p := by omega
  have i1 : (p : Int) < n := by omega
  have j0 : (0 : Int) ≤ q := by omega
  have j1 : (q : Int) < n := by omega
  obtain ⟨pi, hpi⟩ : ∃ pi, i * N = pi := ⟨_, rfl⟩
  obtain ⟨qi, hqi⟩ : ∃ qi, k * N = qi := ⟨_, rfl⟩
  have m1 : (i : Int) * N = (pi : Int) := by rw [← hpi]; push_cast; rfl
  have m2 : (k : Int) * N = (qi : Int) := by rw [← hqi]; push_cast; rfl
  rw [hpi] at hp
  rw [hqi] at hq
  have s1 : (pi : Int) + k = (p : Int) := by omega
  have s2 : (qi : Int) + i = (q : Int) := by omega
  have b1 : pi ≤ 300000 := by rw [← hpi]; have := Nat.mul_le_mul (show i ≤ 512 by omega) hN; omega
  have b2 : qi ≤ 300000 := by rw [← hqi]; have := Nat.mul_le_mul (show k ≤ 512 by omega) hN; omega
  have b3 : p ≤ 600000 := by omega
  have b4 : q ≤ 600000 := by omega
  have G_0 := Blk.cell hg 0 rfl
  have G2_0 := Blk.cell hg2 0 rfl
  have gl := Blk.lt hg
  have gl2 := Blk.lt hg2
  clear hpi hqi hp hq hn h
  go_enter Try.func32, Try.ntmps32
  go_wp2_with fail
  go_quiet ((go_at_call 33; first
    | exact (same_any _ _ x0 x1 y0 y1 _).mono (by rintro e w' ⟨he, hw⟩; exact ⟨he, _, hw.symm⟩)
    | fail))
  go_wp2_with fail
  go_ret
  exact ⟨rfl, _, rfl⟩

set_option maxHeartbeats 4000000 in
theorem everywhere_any {N g g2 : Nat} {l : List Int} {w : World} (hN : N ≤ 512)
    (HC : Hid (∀ m i k, i < N → k < N → Calls Try.prog 32 #[.int .i64 (i : Nat), .int .i64 (k : Nat), .pointer (some ⟨g, 0, none⟩), .pointer (some ⟨g2, 0, none⟩)] (w.drewN m) (AnsD (w.drewN m) (.bool (symP l N i k))))) :
    Calls Try.prog 44 #[.int .i64 N, .int .i64 N, .func (.func 32) #[] #[.pointer (some ⟨g, 0, none⟩), .pointer (some ⟨g2, 0, none⟩)]] w (AnsD w (.bool (symB l N))) := by
  obtain ⟨B, hB⟩ : ∃ B, symB l N = B := ⟨_, rfl⟩
  have HB := Lib.hid hB
  rw [hB]
  clear hB
  go_enter Try.func44, Try.ntmps44
  go_wp2_with fail
  go_loopw [10] (fun i wr => ∃ (k m : Nat), k ≤ N ∧ i = .int .i64 k ∧ wr = w.drewN m ∧ Hid (∀ a, a < k → ∀ b, b < N → symP l N a b = true)) (fun i _ => N - (intOf i).toNat)
  case atStart => exact ⟨0, 0, Nat.zero_le _, rfl, rfl, Lib.hid (fun a ha => by omega)⟩
  case round =>
    obtain ⟨i, m, hi, rfl, rfl, HI⟩ := hrel
    by_cases hlt : i < N
    · go_wp2_with fail
      go_loopw [14] (fun j wr => ∃ (k m : Nat), k ≤ N ∧ j = .int .i64 k ∧ wr = w.drewN m ∧ Hid (∀ b, b < k → symP l N i b = true)) (fun j _ => N - (intOf j).toNat)
      case atStart => exact ⟨0, m, Nat.zero_le _, rfl, rfl, Lib.hid (fun a ha => by omega)⟩
      case round =>
        obtain ⟨k, m2, hk, rfl, rfl, HK⟩ := hrel
        by_cases hlt2 : k < N
        · have pc := HC.out m2 i k hlt hlt2
          cases hP : symP l N i k
          · have hf : B = false := by rw [← HB.out]; exact symB_false hlt hlt2 hP
            subst hf
            rw [hP] at pc
            go_wp2_with fail
            with_reducible refine pc.mono ?_
            rintro e w1 ⟨rfl, m3, rfl⟩
            go_wp2_with fail
            go_ret
            exact ⟨rfl, m2 + m3, by simp⟩
          · rw [hP] at pc
            have HK2 := Lib.hid (show ∀ b, b < k + 1 → symP l N i b = true from fun b hb => by
              rcases Nat.lt_or_ge b k with g | g
              · exact HK.out b g
              · obtain rfl : b = k := by omega
                exact hP)
            go_wp2_with fail
            with_reducible refine pc.mono ?_
            rintro e w1 ⟨rfl, m3, rfl⟩
            go_wp2_with fail
            go_roundw
            case rel => exact ⟨k + 1, m2 + m3, by omega, by go_num, by simp, HK2⟩
            case measure => simp [intOf]; omega
        · obtain rfl : k = N := by omega
          have HI2 := Lib.hid (show ∀ a, a < i + 1 → ∀ b, b < k → symP l k a b = true from fun a ha b hb => by
            rcases Nat.lt_or_ge a i with g | g
            · exact HI.out a g b hb
            · obtain rfl : a = i := by omega
              exact HK.out b hb)
          go_wp2_with fail
          go_roundw
          case rel => exact ⟨i + 1, m2, by omega, by go_num, rfl, HI2⟩
          case measure => simp [intOf]; omega
    · obtain rfl : i = N := by omega
      have hf : B = true := by rw [← HB.out]; exact symB_true (fun a ha b hb => HI.out a ha b hb)
      subst hf
      go_wp2_with fail
      go_ret
      exact ⟨rfl, m, rfl⟩

set_option maxHeartbeats 4000000 in
theorem everywhere_all {M N : Nat} {w : World} (hM : M ≤ 512) (hN : N ≤ 512) :
    Calls Try.prog 44 #[.int .i64 M, .int .i64 N, .func (.func 34) #[] #[]] w (Ans w (.bool true)) := by
  go_enter Try.func44, Try.ntmps44
  go_wp2_with fail
  go_loop [10] (fun i => ∃ k : Nat, k ≤ M ∧ i = .int .i64 k) (fun i => M - (intOf i).toNat)
  case atStart => exact ⟨0, Nat.zero_le _, rfl⟩
  case round =>
    obtain ⟨i, hi, rfl⟩ := hrel
    by_cases hlt : i < M
    · go_wp2_with fail
      go_loop [14] (fun j => ∃ k : Nat, k ≤ N ∧ j = .int .i64 k) (fun j => N - (intOf j).toNat)
      case atStart => exact ⟨0, Nat.zero_le _, rfl⟩
      case round =>
        obtain ⟨k, hk, rfl⟩ := hrel
        by_cases hlt2 : k < N
        · have pc : ∀ W, Calls Try.prog 34 #[.int .i64 i, .int .i64 k] W (Ans W (.bool true)) := fun W => by
            go_enter Try.func34, Try.ntmps34
            go_wp2
            go_ret
            exact ⟨rfl, rfl⟩
          go_wp2_with fail
          with_reducible refine (pc _).mono ?_
          rintro e w1 ⟨rfl, rfl⟩
          go_wp2_with fail
          go_round
          case rel => exact ⟨k + 1, by omega, by go_num⟩
          case measure => simp [intOf]; omega
        · obtain rfl : k = N := by omega
          go_wp2_with fail
          go_round
          case rel => exact ⟨i + 1, by omega, by go_num⟩
          case measure => simp [intOf]; omega
    · obtain rfl : i = M := by omega
      go_wp2_with fail
      go_ret
      exact ⟨rfl, rfl⟩
end Go.Proofs.Ytfaemgdeoamijaa
