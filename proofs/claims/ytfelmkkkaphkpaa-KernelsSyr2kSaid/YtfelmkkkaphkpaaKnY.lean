/-
  Layer 8: the pairs of a lower half, row by row; the function that hands them out.
-/
import Derived.Test.YtfelmkkkaphkpaaKnN
namespace Go.Proofs.Ytfelmkkkaphkpaa
open Go.RowKit Go.Bw Go.Sort Go.Shelf
set_option linter.unusedVariables false
set_option linter.unusedSimpArgs false

/-- the pair behind a pair -/
def trn (p : Nat × Nat) : Nat × Nat := if p.2 < p.1 then (p.1, p.2 + 1) else (p.1 + 1, 0)
/-- the k-th pair -/
def tr : Nat → Nat × Nat
  | 0 => (0, 0)
  | k + 1 => trn (tr k)
/-- how many pairs lie in the rows above -/
def lwT : Nat → Nat
  | 0 => 0
  | i + 1 => lwT i + (i + 1)
theorem tr_at : ∀ i j, j ≤ i → tr (lwT i + j) = (i, j)
  | 0, j, h => by obtain rfl : j = 0 := by omega
                  rfl
  | i + 1, 0, _ => by
    have ih := tr_at i i (Nat.le_refl _)
    show tr (lwT i + i + 1) = _
    show trn (tr (lwT i + i)) = _
    rw [ih]
    unfold trn
    simp
  | i + 1, j + 1, h => by
    have ih := tr_at (i + 1) j (by omega)
    show trn (tr (lwT (i + 1) + j)) = _
    rw [ih]
    unfold trn
    rw [if_pos (by simp; omega)]
theorem lwT_mono {a b : Nat} (h : a ≤ b) : lwT a ≤ lwT b := by
  induction h with
  | refl => exact Nat.le_refl _
  | step _ ih => exact Nat.le_trans ih (Nat.le_add_right _ _)
theorem lwT_lt {a b j : Nat} (h : a < b) (hj : j ≤ a) : lwT a + j < lwT b := by
  have h1 : lwT (a + 1) ≤ lwT b := lwT_mono h
  have h2 : lwT (a + 1) = lwT a + (a + 1) := rfl
  omega
theorem tr_num : ∀ k, (tr k).2 ≤ (tr k).1 ∧ lwT (tr k).1 + (tr k).2 = k
  | 0 => ⟨Nat.le_refl _, rfl⟩
  | k + 1 => by
    have ih := tr_num k
    have e : tr (k + 1) = trn (tr k) := rfl
    rw [e]
    unfold trn
    generalize tr k = p at ih ⊢
    obtain ⟨i, j⟩ := p
    dsimp only at ih ⊢
    by_cases h : j < i
    · rw [if_pos h]
      dsimp only
      omega
    · rw [if_neg h]
      dsimp only
      have h2 : lwT (i + 1) = lwT i + (i + 1) := rfl
      omega
theorem tr_lt {k m : Nat} (h : k < lwT m) : (tr k).1 < m := by
  have h1 := tr_num k
  rcases Nat.lt_or_ge (tr k).1 m with h2 | h2
  · exact h2
  · have := lwT_mono h2
    omega
/-- two pairs of one number are one -/
theorem tr_inj {a b k : Nat} (h : b ≤ a) (e : lwT a + b = k) : a = (tr k).1 ∧ b = (tr k).2 := by
  have := tr_at a b h
  rw [e] at this
  rw [this]
  exact ⟨rfl, rfl⟩
/-- what the round k is handed -/
def encT (k : Nat) (_ : List Int) : Array Value := #[.int .i64 ((tr k).1 : Nat), .int .i64 ((tr k).2 : Nat)]
theorem encT_at {i j : Nat} (h : j ≤ i) (l : List Int) : encT (lwT i + j) l = #[.int .i64 (i : Int), .int .i64 (j : Int)] := by
  unfold encT
  rw [tr_at i j h]
theorem lower_any (m : Int) (w : World) : Calls Try.prog 86 #[.int .i64 m] w fun e w' => e = .returned (.func (.func 106) #[] #[.pointer (some ⟨w.heap.size, 0, none⟩)]) ∧ w' = w.alloc (.cells #[.int .i64 m] 3) := by
  go_enter Try.func86, Try.ntmps86
  go_wp2_with fail
  go_ret
  exact ⟨rfl, rfl⟩
section
attribute [local go_sem] Oper.semAt_some
set_option maxRecDepth 100000 in
set_option maxHeartbeats 4000000 in
theorem low_seq {n : Nat} (hn : 1 ≤ n) {m Bn B1 : Nat} (hm : m ≤ 512) :
    SeqV n Try.prog 106 #[.pointer (some ⟨Bn, 0, none⟩)] encT (lwT m) B1 (fun _ W => Blk W Bn [.int .i64 (m : Int)]) := by
  intro lp J Jx l W hJR hJg hY h0
  have hYY : ∀ (i j : Nat) (l : List Int) (W1 : World), i < m → j ≤ i → J (lwT i + j) l W1 → YieldAt Fence.wide (n - 1) Try.prog lp #[.int .i64 (i : Int), .int .i64 (j : Int)] W1 fun e W' => (e = .returned (.bool true) ∧ ∃ l', J (lwT i + (j + 1)) l' W') ∨ (e = .returned (.bool false) ∧ Jx W') := fun i j l W1 hi hj hJ => by
    have := hY (lwT i + j) l W1 hJ (lwT_lt hi hj)
    rw [encT_at hj l] at this
    exact this
  clear hY
  have hB : ∀ k l W, J k l W → Blk W Bn [.int .i64 (m : Int)] := fun k l W h => hJR _ _ _ h
  clear hJR hJg
  have c0 := Blk.cell (hB _ _ _ h0) 0 rfl
  refine callsIn_of_wp Try.func106 rfl trivial ?_ rfl
  simp only [Try.ntmps106, List.size_toArray, List.length_cons, List.length_nil, Nat.reduceAdd, Nat.reduceSub, Array.replicate_succ, Array.replicate_zero, List.push_toArray, List.append_toArray, List.nil_append, List.cons_append]
  gi_wp2
  clear c0
  gi_loopw [6] (fun x wr => ∃ (i : Nat) (l : List Int), x = .int .i64 (i : Int) ∧ i ≤ m ∧ J (lwT i) l wr) (fun x _ => m - (intOf x).toNat)
  case atStart => exact ⟨0, l, rfl, by omega, h0⟩
  case round =>
    clear h0
    obtain ⟨i, l1, rfl, him, hJ⟩ := hrel
    by_cases hlt : i < m
    · have i0 : (0 : Int) ≤ i := by omega
      have i1 : (i : Int) < m := by omega
      gi_wp2
      gi_loopw [11] (fun x wr => ∃ (j : Nat) (l : List Int), x = .int .i64 (j : Int) ∧ j ≤ i + 1 ∧ J (lwT i + j) l wr) (fun x _ => i + 1 - (intOf x).toNat)
      case atStart => exact ⟨0, l1, rfl, by omega, hJ⟩
      case round =>
        clear hJ
        obtain ⟨j, l2, rfl, hjq, hJ⟩ := hrel
        by_cases hjt : j < i + 1
        · have j0 : (0 : Int) ≤ j := by omega
          have j1 : (j : Int) < (i : Int) + 1 := by omega
          obtain ⟨fn, tmps, assign, body, hy, hRo⟩ := hYY i j l2 _ hlt (by omega) hJ
          gi_wp2
          refine hRo.mono ?_
          rintro e w3 (⟨rfl, l3, hJ3⟩ | ⟨rfl, hJx⟩)
          · gi_wp2
            go_roundw
            case rel => exact ⟨j + 1, l3, by go_num, by omega, hJ3⟩
            case measure => simp [intOf]; omega
          · gi_wp2
            refine bodyPost_ret (results_none rfl _ _ _) rfl ?_
            exact ⟨⟨_, rfl⟩, .inr hJx⟩
        · obtain rfl : j = i + 1 := by omega
          gi_wp2
          go_roundw
          case rel => exact ⟨i + 1, l2, by go_num, by omega, hJ⟩
          case measure => simp [intOf]; omega
    · obtain rfl : i = m := by omega
      gi_wp2
      go_end0
      exact ⟨⟨_, rfl⟩, .inl ⟨l1, hJ⟩⟩
end
end Go.Proofs.Ytfelmkkkaphkpaa
