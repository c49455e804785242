/-
  Layer 3: lists of numbers in memory.
-/
import Derived.Test.YtknomchkfamajaaGreatDoorDyNB
namespace Go.Proofs.YtknomchkfamajaaGreatDoor
open Go Go.RowKit Go.Bw
set_option linter.unusedVariables false
set_option linter.unusedSimpArgs false

/-- a number of a list, as memory has it -/
structure De where
  b : Bool
  A : Option Addr
  c : Nat
  x : Int
  l : List Int
abbrev De.v (e : De) : Value := dyV e.b e.A e.l.length e.c e.x
/-- a list of numbers -/
def Dl (W : World) (A : Option Addr) (n c : Nat) (es : List De) : Prop :=
  es.length = n ∧ n ≤ 9223372036854775807 ∧ (∀ e ∈ es, Lv W e.A e.l.length e.c e.l ∧ -9223372036854775808 ≤ e.x ∧ e.x ≤ 9223372036854775807) ∧
  (n ≠ 0 → ∃ ad : Addr, A = some ad ∧ ad.block < W.heap.size ∧ ∀ (i : Nat) (e : De), es[i]? = some e → W.cell? (ad.add (i * 3)) = some (.bool e.b) ∧ W.cell? (ad.add (i * 3 + 1)) = some (.slice e.A e.l.length e.c) ∧ W.cell? (ad.add (i * 3 + 2)) = some (.int .i64 e.x))
theorem Dl.on {W W' : World} {A : Option Addr} {n c : Nat} {es : List De} (h : Dl W A n c es) (hb : Below W.heap.size W W') : Dl W' A n c es := by
  obtain ⟨h1, h2, h3, h4⟩ := h
  refine ⟨h1, h2, fun e he => ⟨(h3 e he).1.on hb, (h3 e he).2⟩, fun hn => ?_⟩
  obtain ⟨ad, e1, hl, hc⟩ := h4 hn
  refine ⟨ad, e1, Nat.lt_of_lt_of_le hl hb.size, fun i e hi => ?_⟩
  obtain ⟨c0, c1, c2⟩ := hc i e hi
  have bl : ∀ k, (ad.add k).block = ad.block := fun k => by unfold Addr.add; split <;> rfl
  exact ⟨(hb.cell (by rw [bl]; exact hl)).trans c0, (hb.cell (by rw [bl]; exact hl)).trans c1, (hb.cell (by rw [bl]; exact hl)).trans c2⟩
theorem Dl.at_ {W : World} {A : Option Addr} {n c k : Nat} {es : List De} (h : Dl W A n c es) (hk : k < n) :
    ∃ (e : De) (ad ea : Addr), es[k]? = some e ∧ A = some ad ∧ ad.add (k * 3) = ea ∧ ea.block < W.heap.size ∧ W.cell? ea = some (.bool e.b) ∧ W.cell? ⟨ea.block, ea.off + 1, none⟩ = some (.slice e.A e.l.length e.c) ∧ W.cell? ⟨ea.block, ea.off + 2, none⟩ = some (.int .i64 e.x) ∧ Lv W e.A e.l.length e.c e.l ∧ -9223372036854775808 ≤ e.x ∧ e.x ≤ 9223372036854775807 := by
  obtain ⟨h1, h2, h3, h4⟩ := h
  obtain ⟨ad, e1, hl, hc⟩ := h4 (by omega)
  have hi : k < es.length := by omega
  obtain ⟨c0, c1, c2⟩ := hc k es[k] (List.getElem?_eq_getElem hi)
  obtain ⟨q1, q2, q3⟩ := h3 es[k] (List.getElem_mem hi)
  have bl : ∀ k, (ad.add k).block = ad.block := fun k => by unfold Addr.add; split <;> rfl
  rw [← add_add] at c1 c2
  exact ⟨es[k], ad, _, List.getElem?_eq_getElem hi, e1, rfl, by rw [bl]; exact hl, c0, c1, c2, q1, q2, q3⟩
def De.ok (e : De) : Prop := e.l.length ≤ 4 ∧ -2000 ≤ e.x ∧ e.x ≤ 2000
instance (e : De) : Decidable e.ok := by unfold De.ok; infer_instance
theorem first_bad (p : Nat → Prop) [DecidablePred p] : ∀ n, (∃ m, m < n ∧ ¬ p m) → ∃ m, m < n ∧ ¬ p m ∧ ∀ i, i < m → p i
  | 0, h => by obtain ⟨m, h1, _⟩ := h; omega
  | n + 1, h => by
    by_cases hn : ∃ m, m < n ∧ ¬ p m
    · obtain ⟨m, h1, h2, h3⟩ := first_bad p n hn
      exact ⟨m, by omega, h2, h3⟩
    · obtain ⟨m, h1, h2⟩ := h
      have hm : m = n := by
        rcases Nat.lt_or_ge m n with g | g
        · exact absurd ⟨m, g, h2⟩ hn
        · omega
      subst hm
      exact ⟨m, by omega, h2, fun i hi => Decidable.byContradiction fun hp => hn ⟨i, hi, hp⟩⟩
def Ret (v : Value) (W : World) (e : Ending) (w' : World) : Prop := e = .returned v ∧ W = w'
set_option maxHeartbeats 1000000 in
theorem small_all {W : World} {A : Option Addr} {n c : Nat} {es : List De} (h : Dl W A n c es) (hs : ∀ e ∈ es, e.ok) {B : Bool} (hB : decide ((n : Int) ≤ 30) = B) :
    Calls Tryz.prog 46 #[.slice A n c] W (Ret (.bool B) W) := by
  have hn2 := h.2.1
  have HS : Hid (∀ e ∈ es, e.ok) := hs
  clear hs
  go_enter Tryz.func46, Tryz.ntmps46
  go_wp2_with fail
  go_loop [3] (fun i => ∃ k : Nat, k ≤ n ∧ i = .int .i64 k) (fun i => n - (intOf i).toNat)
  case atStart => exact ⟨0, Nat.zero_le _, rfl⟩
  case round =>
    obtain ⟨k, hk, rfl⟩ := hrel
    by_cases hlt : k < n
    · obtain ⟨e, ad, ea, he, rfl, hE, hl, hc0, hc1, hc2, hv, x0, x1⟩ := h.at_ hlt
      have he2 := HS.out e (List.mem_of_getElem? he)
      clear he
      obtain ⟨s1, s2, s3⟩ := he2
      obtain ⟨⟨b, A, c9, x, l⟩, he9⟩ : ∃ e9, e = e9 := ⟨_, rfl⟩
      subst he9
      dsimp only at *
      have k1 : decide (4 < l.length) = false := by simp; omega
      have k2 : decide (x < -2000) = false := by simp; omega
      have k3 : decide (2000 < x) = false := by simp; omega
      go_wp2_with fail
      go_round
      case rel => exact ⟨k + 1, by omega, by go_num⟩
      case measure => simp [intOf]; omega
    · go_wp2_with fail
      go_ret
      exact ⟨rfl, rfl⟩
set_option maxHeartbeats 2000000 in
theorem small_bad {W : World} {A : Option Addr} {n c m : Nat} {es : List De} (h : Dl W A n c es) (hm : m < n) (ha : ∀ i, i < m → ∀ e, es[i]? = some e → e.ok) (hb : ∀ e, es[m]? = some e → ¬ e.ok) :
    Calls Tryz.prog 46 #[.slice A n c] W (Ret (.bool false) W) := by
  have hn2 := h.2.1
  have HS := Lib.hid ha
  have HB := Lib.hid hb
  clear ha hb
  go_enter Tryz.func46, Tryz.ntmps46
  go_wp2_with fail
  go_loop [3] (fun i => ∃ k : Nat, k ≤ m ∧ i = .int .i64 k) (fun i => n - (intOf i).toNat)
  case atStart => exact ⟨0, Nat.zero_le _, rfl⟩
  case round =>
    obtain ⟨k, hk, rfl⟩ := hrel
    have hlt : k < n := by omega
    obtain ⟨e, ad, ea, he, rfl, hE, hl, hc0, hc1, hc2, hv, x0, x1⟩ := h.at_ hlt
    by_cases hkm : k < m
    · have he2 := HS.out k hkm e he
      clear he
      obtain ⟨s1, s2, s3⟩ := he2
      obtain ⟨⟨b, A, c9, x, l⟩, he9⟩ : ∃ e9, e = e9 := ⟨_, rfl⟩
      subst he9
      dsimp only at *
      have k1 : decide (4 < l.length) = false := by simp; omega
      have k2 : decide (x < -2000) = false := by simp; omega
      have k3 : decide (2000 < x) = false := by simp; omega
      go_wp2_with fail
      go_round
      case rel => exact ⟨k + 1, by omega, by go_num⟩
      case measure => simp [intOf]; omega
    · obtain rfl : k = m := by omega
      have he2 := HB.out e he
      clear he
      unfold De.ok at he2
      obtain ⟨⟨b, A, c9, x, l⟩, he9⟩ : ∃ e9, e = e9 := ⟨_, rfl⟩
      subst he9
      dsimp only at *
      by_cases q1 : 4 < l.length
      · have k1 : decide ((4 : Int) < (l.length : Int)) = true := by simp; omega
        clear he2
        go_wp2_with fail
        go_ret
        exact ⟨rfl, rfl⟩
      · have k1 : decide (4 < l.length) = false := by simp; omega
        by_cases q2 : x < -2000
        · clear he2
          go_wp2_with fail
          go_ret
          exact ⟨rfl, rfl⟩
        · have k2 : decide (x < -2000) = false := by simp; omega
          have q3 : 2000 < x := by omega
          clear he2
          go_wp2_with fail
          go_ret
          exact ⟨rfl, rfl⟩
theorem small_any {W : World} {A : Option Addr} {n c : Nat} {es : List De} (h : Dl W A n c es) :
    (Calls Tryz.prog 46 #[.slice A n c] W (Ret (.bool false) W)) ∨ ((∀ e ∈ es, e.ok) ∧ n ≤ 30 ∧ Calls Tryz.prog 46 #[.slice A n c] W (Ret (.bool true) W)) := by
  have hl := h.1
  by_cases hs : ∀ e ∈ es, e.ok
  · by_cases hn : n ≤ 30
    · exact .inr ⟨hs, hn, small_all h hs (decide_eq_true (by omega))⟩
    · exact .inl (small_all h hs (decide_eq_false (by omega)))
  · left
    have hp : ∃ m : Nat, m < n ∧ ¬ (∀ e : De, es[m]? = some e → e.ok) := by
      refine Classical.byContradiction fun hc => hs fun e he => ?_
      obtain ⟨i, hi⟩ := List.getElem?_of_mem he
      have hin : i < n := by have := (List.getElem?_eq_some_iff.1 hi).1; omega
      exact Classical.byContradiction fun hk => hc ⟨i, hin, fun ha => hk (ha e hi)⟩
    haveI : DecidablePred (fun m : Nat => ∀ e : De, es[m]? = some e → e.ok) := fun _ => Classical.propDecidable _
    obtain ⟨m, hm, hb, ha⟩ := first_bad (fun m : Nat => ∀ e : De, es[m]? = some e → e.ok) n hp
    refine small_bad h hm ha (fun e he hk => hb fun e2 he2 => ?_)
    rw [he] at he2
    cases he2
    exact hk
end Go.Proofs.YtknomchkfamajaaGreatDoor
