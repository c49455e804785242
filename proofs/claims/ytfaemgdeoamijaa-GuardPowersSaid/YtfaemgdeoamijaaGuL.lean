/-
  Layer 5, walks: the code of words, by the reference: Take.
-/
import Derived.Test.YtfaemgdeoamijaaGuK
namespace Go.Proofs.Ytfaemgdeoamijaa
open Go.RowKit Go.Bw
set_option linter.unusedVariables false
set_option linter.unusedSimpArgs false

theorem sameW_comm (a b : Int) : sameW a b = sameW b a := by
  unfold sameW
  rw [Bool.eq_iff_iff, decide_eq_true_iff, decide_eq_true_iff]
  constructor
  · rintro (h | ⟨h, k⟩)
    · exact .inl h.symm
    · exact .inr ⟨k, h⟩
  · rintro (h | ⟨h, k⟩)
    · exact .inl h.symm
    · exact .inr ⟨k, h⟩
theorem sameW_self (a : Int) : sameW a a = true := by unfold sameW; simp
theorem symB_low {l : List Int} {N : Nat} (h : ∀ i, i < N → ∀ k, k < i → symP l N i k = true) : symB l N = true := by
  refine symB_true fun i hi k hk => ?_
  rcases Nat.lt_trichotomy i k with c | c | c
  · have := h k hk i c
    unfold symP at this ⊢
    rw [sameW_comm]; exact this
  · subst c; unfold symP; exact sameW_self _
  · exact h i hi k c

section
variable {A : Option Addr} {len c : Nat} {m n : Int} {l : List Int} {w : World} {S : Bool}
set_option maxHeartbeats 1000000 in
theorem rTake_size (h : UL w A len c l) (hb : szB m n = false) :
    Calls Try.prog 11 #[.int .i64 m, .int .i64 n, .slice A len c, .bool S] w (Ans w (.int .i64 1)) := by
  have hs : ¬ (0 ≤ m ∧ m ≤ 512 ∧ 0 ≤ n ∧ n ≤ 512) := by unfold szB at hb; exact of_decide_eq_false hb
  have HS := Lib.hid hs
  clear hs hb
  by_cases c1 : m < 0
  · go_enter Try.func11, Try.ntmps11
    go_wp2_with fail
    go_ret
    exact ⟨rfl, rfl⟩
  · by_cases c2 : 512 < m
    · go_enter Try.func11, Try.ntmps11
      go_wp2_with fail
      go_ret
      exact ⟨rfl, rfl⟩
    · by_cases c3 : n < 0
      · go_enter Try.func11, Try.ntmps11
        go_wp2_with fail
        go_ret
        exact ⟨rfl, rfl⟩
      · have c4 : 512 < n := by have := HS.out; omega
        go_enter Try.func11, Try.ntmps11
        go_wp2_with fail
        go_ret
        exact ⟨rfl, rfl⟩
set_option maxHeartbeats 1000000 in
theorem rTake_len (h : UL w A len c l) (hs : szB m n = true) (hne : (len : Int) ≠ m * n) :
    Calls Try.prog 11 #[.int .i64 m, .int .i64 n, .slice A len c, .bool S] w (Ans w (.int .i64 1)) := by
  have hlen := h.max
  obtain ⟨⟨m0, m1, n0, n1⟩, p0, p1⟩ := szB_bd hs
  obtain ⟨P, hP⟩ : ∃ P, m * n = P := ⟨_, rfl⟩
  rw [hP] at hne p0 p1
  have hx : ((len : Int) != P) = true := by simp; omega
  clear hne
  go_enter Try.func11, Try.ntmps11
  go_wp2_with fail
  go_ret
  exact ⟨rfl, rfl⟩

set_option maxHeartbeats 8000000 in
theorem rTake_main {M N : Nat} (h : UL w A len c l) (hM : M ≤ 512) (hN : N ≤ 512) (hl : len = M * N) (hsq : S = true → M = N) {K : Int}
    (HK1 : Hid (l.all fin = false → K = 1)) (HK2 : Hid (S = true → symB l M = false → K = 1)) (HK3 : Hid (l.all fin = true → (S = true → symB l M = true) → l.all inr = false → K = 2)) (HK4 : Hid (l.all fin = true → (S = true → symB l M = true) → l.all inr = true → K = 0)) :
    Calls Try.prog 11 #[.int .i64 M, .int .i64 N, .slice A len c, .bool S] w (AnsD w (.int .i64 K)) := by
  have hlen := h.max
  have hln := Lib.hid h.1
  have hL : len ≤ 262144 := by rw [hl]; have := Nat.mul_le_mul hM hN; omega
  have hP : (M : Int) * N = (len : Int) := by rw [hl]; push_cast; rfl
  have hx : ((len : Int) != (len : Int)) = false := by simp
  have HL := Lib.hid hl
  have HSQ := Lib.hid hsq
  clear hl hsq
  go_enter Try.func11, Try.ntmps11
  go_wp2_with fail
  go_loop [9] (fun i => ∃ k : Nat, k ≤ len ∧ i = .int .i64 k ∧ Hid (∀ j, j < k → fin (D l j) = true)) (fun i => len - (intOf i).toNat)
  case atStart => exact ⟨0, Nat.zero_le _, rfl, Lib.hid (fun j hj => by omega)⟩
  case round =>
    obtain ⟨k, hk, rfl, HK⟩ := hrel
    by_cases hlt : k < len
    · obtain ⟨ad, rfl, hb, hc⟩ := h.at_ hlt
      obtain ⟨x0, x1⟩ := h.2.2.at_ k
      have i0 : (0 : Int) ≤ k := by omega
      have i1 : (k : Int) < len := by omega
      obtain ⟨X, hX⟩ : ∃ X, D l k = X := ⟨_, rfl⟩
      have HX := Lib.hid hX
      rw [hX] at hc x0 x1
      clear hX
      cases hP2 : fin X
      · have hf : K = 1 := HK1.out (all_false (by rw [hln.out]; exact hlt) (by rw [HX.out]; exact hP2))
        subst hf
        go_wp2_with (go_at_call 19; refine (rFinite_any _ x0 x1 _).mono ?_; rintro e9 w' ⟨rfl, rfl⟩)
        go_ret
        exact ⟨rfl, 0, rfl⟩
      · have HK2 := Lib.hid (show ∀ j, j < k + 1 → fin (D l j) = true from fun j hj => by
          rcases Nat.lt_or_ge j k with g | g
          · exact HK.out j g
          · obtain rfl : j = k := by omega
            rw [HX.out]; exact hP2)
        go_wp2_with (go_at_call 19; refine (rFinite_any _ x0 x1 _).mono ?_; rintro e9 w' ⟨rfl, rfl⟩)
        go_round
        case rel => exact ⟨k + 1, by omega, by go_num, HK2⟩
        case measure => simp [intOf]; omega
    · obtain rfl : k = len := by omega
      have HF := Lib.hid (show l.all fin = true from all_true (fun j hj => HK.out j (by rw [hln.out] at hj; exact hj)))
      clear HK HK1 hlt
      go_wp2_with fail
      go_loopw [10] (fun i wr => ∃ (a t : Nat), a ≤ M ∧ (S = false → a = 0) ∧ i = .int .i64 a ∧ wr = w.drewN t ∧ Hid (∀ a', a' < a → ∀ b, b < a' → symP l M a' b = true)) (fun i _ => M - (intOf i).toNat)
      case atStart => exact ⟨0, 0, Nat.zero_le _, fun _ => rfl, rfl, rfl, Lib.hid (fun a ha => by omega)⟩
      case round =>
        obtain ⟨a, t, ha, ha0, rfl, rfl, HA⟩ := hrel
        by_cases hgo : a < M ∧ S = true
        · obtain ⟨hlt, rfl⟩ := hgo
          obtain rfl : M = N := HSQ.out rfl
          clear ha0
          go_wp2_with fail
          go_loopw [11] (fun j wr => ∃ (b t : Nat), b ≤ a ∧ j = .int .i64 b ∧ wr = w.drewN t ∧ Hid (∀ b', b' < b → symP l M a b' = true)) (fun j _ => a - (intOf j).toNat)
          case atStart => exact ⟨0, t, Nat.zero_le _, rfl, rfl, Lib.hid (fun a ha => by omega)⟩
          case round =>
            obtain ⟨b, t2, hb, rfl, rfl, HB⟩ := hrel
            by_cases hlt2 : b < a
            · obtain ⟨p, hp⟩ : ∃ p, a * M + b = p := ⟨_, rfl⟩
              obtain ⟨q, hq⟩ : ∃ q, b * M + a = q := ⟨_, rfl⟩
              have hpk : p < k := by rw [← hp, HL.out]; exact place_lt hlt (by omega)
              have hqk : q < k := by rw [← hq, HL.out]; exact place_lt (by omega) hlt
              obtain ⟨ad, rfl, hb1, hc1⟩ := h.at_ hpk
              obtain ⟨ad2, e2, hb2, hc2⟩ := h.at_ hqk
              cases e2
              obtain ⟨x0, x1⟩ := h.2.2.at_ p
              obtain ⟨y0, y1⟩ := h.2.2.at_ q
              obtain ⟨pi, hpi⟩ : ∃ pi, a * M = pi := ⟨_, rfl⟩
              obtain ⟨qi, hqi⟩ : ∃ qi, b * M = qi := ⟨_, rfl⟩
              have hr : symP l M a b = sameW (D l p) (D l q) := by unfold symP; rw [hp, hq]
              have HR := Lib.hid hr
              obtain ⟨X, hX⟩ : ∃ X, D l p = X := ⟨_, rfl⟩
              obtain ⟨Y, hY⟩ : ∃ Y, D l q = Y := ⟨_, rfl⟩
              rw [hX] at hc1 x0 x1 HR
              rw [hY] at hc2 y0 y1 HR
              clear hX hY hr
              have j0 : (0 : Int) ≤ p := by omega
              have j1 : (p : Int) < k := by omega
              have j2 : (0 : Int) ≤ q := by omega
              have j3 : (q : Int) < k := by omega
              have m1 : (a : Int) * M = (pi : Int) := by rw [← hpi]; push_cast; rfl
              have m2 : (b : Int) * M = (qi : Int) := by rw [← hqi]; push_cast; rfl
              have b1 : pi ≤ 300000 := by rw [← hpi]; have := Nat.mul_le_mul (show a ≤ 512 by omega) hM; omega
              have b2 : qi ≤ 300000 := by rw [← hqi]; have := Nat.mul_le_mul (show b ≤ 512 by omega) hM; omega
              rw [hpi] at hp
              rw [hqi] at hq
              have s1 : (pi : Int) + b = (p : Int) := by omega
              have s2 : (qi : Int) + a = (q : Int) := by omega
              have hpL : p ≤ 262144 := by omega
              have hqL : q ≤ 262144 := by omega
              have v1 : IntKind.i64.wrap (pi : Int) = pi := by rw [IntKind.wrap_i64]; omega
              have v2 : IntKind.i64.wrap (qi : Int) = qi := by rw [IntKind.wrap_i64]; omega
              have v3 : IntKind.i64.wrap (p : Int) = p := by rw [IntKind.wrap_i64]; omega
              have v4 : IntKind.i64.wrap (q : Int) = q := by rw [IntKind.wrap_i64]; omega
              clear hpi hqi hp hq
              have next : symP l M a b = true → Hid (∀ b', b' < b + 1 → symP l M a b' = true) := fun hs b' hb' => by
                rcases Nat.lt_or_ge b' b with g | g
                · exact HB.out b' g
                · obtain rfl : b' = b := by omega
                  exact hs
              by_cases e : X = Y
              · have HB2 := next (by rw [HR.out, e]; exact sameW_self _)
                have d1 : (X != Y) = false := by simp [e]
                clear e next
                go_wp2_with fail
                go_quiet (fail)
                go_wp2_with fail
                go_roundw
                case rel => exact ⟨b + 1, _, by omega, by go_num, rfl, HB2⟩
                case measure => simp [intOf]; omega
              · have d1 : (X != Y) = true := by simp [e]
                by_cases z : mag X = 0
                · have d2 : (IntKind.u64.wrap (X * 2) != 0) = false := by rw [IntKind.wrap_u64]; unfold mag at z; simp; omega
                  by_cases z2 : mag Y = 0
                  · have d3 : (IntKind.u64.wrap (Y * 2) != 0) = false := by rw [IntKind.wrap_u64]; unfold mag at z2; simp; omega
                    have HB2 := next (by rw [HR.out]; unfold sameW; rw [decide_eq_true (.inr ⟨z, z2⟩)])
                    clear e next z z2
                    go_wp2_with fail
                    go_quiet (fail)
                    go_wp2_with fail
                    go_roundw
                    case rel => exact ⟨b + 1, _, by omega, by go_num, rfl, HB2⟩
                    case measure => simp [intOf]; omega
                  · have d3 : (IntKind.u64.wrap (Y * 2) != 0) = true := by rw [IntKind.wrap_u64]; unfold mag at z2; simp; omega
                    have hk1 : K = 1 := HK2.out (by first | rfl | trivial) (symB_false hlt (show b < M by omega) (by rw [HR.out]; unfold sameW; rw [decide_eq_false]; rintro (g | g); exact e g; exact z2 g.2))
                    subst hk1
                    clear e next z z2
                    go_wp2_with fail
                    go_quiet (fail)
                    go_wp2_with fail
                    go_ret
                    exact ⟨rfl, _, rfl⟩
                · have d2 : (IntKind.u64.wrap (X * 2) != 0) = true := by rw [IntKind.wrap_u64]; unfold mag at z; simp; omega
                  have hk1 : K = 1 := HK2.out (by first | rfl | trivial) (symB_false hlt (show b < M by omega) (by rw [HR.out]; unfold sameW; rw [decide_eq_false]; rintro (g | g); exact e g; exact z g.1))
                  subst hk1
                  clear e next z
                  go_wp2_with fail
                  go_quiet (fail)
                  go_wp2_with fail
                  go_ret
                  exact ⟨rfl, _, rfl⟩
            · obtain rfl : b = a := by omega
              have HA2 := Lib.hid (show ∀ a', a' < b + 1 → ∀ b', b' < a' → symP l M a' b' = true from fun a' ha' b' hb' => by
                rcases Nat.lt_or_ge a' b with g | g
                · exact HA.out a' g b' hb'
                · obtain rfl : a' = b := by omega
                  exact HB.out b' hb')
              go_wp2_with fail
              go_roundw
              case rel => exact ⟨b + 1, t2, by omega, (fun h => by cases h), by go_num, rfl, HA2⟩
              case measure => simp [intOf]; omega
        · by_cases hlt3 : a < M
          · have hS : S = false := by cases S; rfl; exact absurd ⟨hlt3, rfl⟩ hgo
            subst hS
            have HSYM : Hid (false = true → symB l M = true) := Lib.hid (fun h => by cases h)
            clear hgo ha0 HA
            go_wp2_with fail
            go_loop [14] (fun i => ∃ j : Nat, j ≤ k ∧ i = .int .i64 j ∧ Hid (∀ j', j' < j → inr (D l j') = true)) (fun i => k - (intOf i).toNat)
            case atStart => exact ⟨0, Nat.zero_le _, rfl, Lib.hid (fun j hj => by omega)⟩
            case round =>
              obtain ⟨j, hj, rfl, HJ⟩ := hrel
              by_cases hlt : j < k
              · obtain ⟨ad, rfl, hb, hc⟩ := h.at_ hlt
                obtain ⟨x0, x1⟩ := h.2.2.at_ j
                have i0 : (0 : Int) ≤ j := by omega
                have i1 : (j : Int) < k := by omega
                obtain ⟨X, hX⟩ : ∃ X, D l j = X := ⟨_, rfl⟩
                have HX := Lib.hid hX
                rw [hX] at hc x0 x1
                clear hX
                cases hP2 : inr X
                · have hf : K = 2 := HK3.out HF.out HSYM.out (all_false (by rw [hln.out]; exact hlt) (by rw [HX.out]; exact hP2))
                  subst hf
                  go_wp2_with (go_at_call 17; refine (rInRange_any _ x0 x1 _).mono ?_; rintro e9 w' ⟨rfl, rfl⟩)
                  go_ret
                  exact ⟨rfl, t, rfl⟩
                · have HJ2 := Lib.hid (show ∀ j', j' < j + 1 → inr (D l j') = true from fun j' hj' => by
                    rcases Nat.lt_or_ge j' j with g | g
                    · exact HJ.out j' g
                    · obtain rfl : j' = j := by omega
                      rw [HX.out]; exact hP2)
                  go_wp2_with (go_at_call 17; refine (rInRange_any _ x0 x1 _).mono ?_; rintro e9 w' ⟨rfl, rfl⟩)
                  go_round
                  case rel => exact ⟨j + 1, by omega, by go_num, HJ2⟩
                  case measure => simp [intOf]; omega
              · obtain rfl : j = k := by omega
                have hf : K = 0 := HK4.out HF.out HSYM.out (all_true (fun j' hj' => HJ.out j' (by rw [hln.out] at hj'; exact hj')))
                subst hf
                go_wp2_with fail
                go_ret
                exact ⟨rfl, t, rfl⟩
          · obtain rfl : a = M := by omega
            have HSYM : Hid (S = true → symB l a = true) := Lib.hid (fun _ => symB_low HA.out)
            clear hgo ha0 HA hlt3
            cases S
            · go_wp2_with fail
              go_loop [14] (fun i => ∃ j : Nat, j ≤ k ∧ i = .int .i64 j ∧ Hid (∀ j', j' < j → inr (D l j') = true)) (fun i => k - (intOf i).toNat)
              case atStart => exact ⟨0, Nat.zero_le _, rfl, Lib.hid (fun j hj => by omega)⟩
              case round =>
                obtain ⟨j, hj, rfl, HJ⟩ := hrel
                by_cases hlt : j < k
                · obtain ⟨ad, rfl, hb, hc⟩ := h.at_ hlt
                  obtain ⟨x0, x1⟩ := h.2.2.at_ j
                  have i0 : (0 : Int) ≤ j := by omega
                  have i1 : (j : Int) < k := by omega
                  obtain ⟨X, hX⟩ : ∃ X, D l j = X := ⟨_, rfl⟩
                  have HX := Lib.hid hX
                  rw [hX] at hc x0 x1
                  clear hX
                  cases hP2 : inr X
                  · have hf : K = 2 := HK3.out HF.out HSYM.out (all_false (by rw [hln.out]; exact hlt) (by rw [HX.out]; exact hP2))
                    subst hf
                    go_wp2_with (go_at_call 17; refine (rInRange_any _ x0 x1 _).mono ?_; rintro e9 w' ⟨rfl, rfl⟩)
                    go_ret
                    exact ⟨rfl, t, rfl⟩
                  · have HJ2 := Lib.hid (show ∀ j', j' < j + 1 → inr (D l j') = true from fun j' hj' => by
                      rcases Nat.lt_or_ge j' j with g | g
                      · exact HJ.out j' g
                      · obtain rfl : j' = j := by omega
                        rw [HX.out]; exact hP2)
                    go_wp2_with (go_at_call 17; refine (rInRange_any _ x0 x1 _).mono ?_; rintro e9 w' ⟨rfl, rfl⟩)
                    go_round
                    case rel => exact ⟨j + 1, by omega, by go_num, HJ2⟩
                    case measure => simp [intOf]; omega
                · obtain rfl : j = k := by omega
                  have hf : K = 0 := HK4.out HF.out HSYM.out (all_true (fun j' hj' => HJ.out j' (by rw [hln.out] at hj'; exact hj')))
                  subst hf
                  go_wp2_with fail
                  go_ret
                  exact ⟨rfl, t, rfl⟩
            · go_wp2_with fail
              go_loop [14] (fun i => ∃ j : Nat, j ≤ k ∧ i = .int .i64 j ∧ Hid (∀ j', j' < j → inr (D l j') = true)) (fun i => k - (intOf i).toNat)
              case atStart => exact ⟨0, Nat.zero_le _, rfl, Lib.hid (fun j hj => by omega)⟩
              case round =>
                obtain ⟨j, hj, rfl, HJ⟩ := hrel
                by_cases hlt : j < k
                · obtain ⟨ad, rfl, hb, hc⟩ := h.at_ hlt
                  obtain ⟨x0, x1⟩ := h.2.2.at_ j
                  have i0 : (0 : Int) ≤ j := by omega
                  have i1 : (j : Int) < k := by omega
                  obtain ⟨X, hX⟩ : ∃ X, D l j = X := ⟨_, rfl⟩
                  have HX := Lib.hid hX
                  rw [hX] at hc x0 x1
                  clear hX
                  cases hP2 : inr X
                  · have hf : K = 2 := HK3.out HF.out HSYM.out (all_false (by rw [hln.out]; exact hlt) (by rw [HX.out]; exact hP2))
                    subst hf
                    go_wp2_with (go_at_call 17; refine (rInRange_any _ x0 x1 _).mono ?_; rintro e9 w' ⟨rfl, rfl⟩)
                    go_ret
                    exact ⟨rfl, t, rfl⟩
                  · have HJ2 := Lib.hid (show ∀ j', j' < j + 1 → inr (D l j') = true from fun j' hj' => by
                      rcases Nat.lt_or_ge j' j with g | g
                      · exact HJ.out j' g
                      · obtain rfl : j' = j := by omega
                        rw [HX.out]; exact hP2)
                    go_wp2_with (go_at_call 17; refine (rInRange_any _ x0 x1 _).mono ?_; rintro e9 w' ⟨rfl, rfl⟩)
                    go_round
                    case rel => exact ⟨j + 1, by omega, by go_num, HJ2⟩
                    case measure => simp [intOf]; omega
                · obtain rfl : j = k := by omega
                  have hf : K = 0 := HK4.out HF.out HSYM.out (all_true (fun j' hj' => HJ.out j' (by rw [hln.out] at hj'; exact hj')))
                  subst hf
                  go_wp2_with fail
                  go_ret
                  exact ⟨rfl, t, rfl⟩
end
end Go.Proofs.Ytfaemgdeoamijaa
