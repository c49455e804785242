/-
  Layer 7, walks: a view's places are handed out, row by row.
-/
import Derived.Test.YtfelmkkkaphkpaaKVwK
namespace Go.Proofs.Ytfelmkkkaphkpaa
open Go.RowKit Go.Shelf
set_option linter.unusedVariables false
set_option linter.unusedSimpArgs false
attribute [local go_sem] Oper.semAt_some

/-- the row and the column of the place k, row by row -/
def Vu.ei (v : Vu) (k : Nat) : Int := ((k / v.C.toNat : Nat) : Int)
def Vu.ej (v : Vu) (k : Nat) : Int := ((k % v.C.toNat : Nat) : Int)
/-- what the round k is handed -/
def enc (v : Vu) (c k : Nat) (l : List Int) : Array Value := #[.agg #[.int .i64 (v.ei k), .int .i64 (v.ej k)], .float .f64 (v.at_ c l (v.ei k) (v.ej k)).toNat]
theorem enc_at (v : Vu) (c : Nat) (l : List Int) {i j n : Nat} (hn : v.C = n) (hj : j < n) : enc v c (i * n + j) l = #[.agg #[.int .i64 (i : Int), .int .i64 (j : Int)], .float .f64 (v.at_ c l i j).toNat] := by
  unfold enc Vu.ei Vu.ej
  have e : v.C.toNat = n := by omega
  have e1 : (i * n + j) / n = i := by rw [Nat.mul_comm, Nat.mul_add_div (by omega), Nat.div_eq_of_lt hj, Nat.add_zero]
  have e2 : (i * n + j) % n = j := by rw [Nat.mul_comm, Nat.mul_add_mod, Nat.mod_eq_of_lt hj]
  rw [e, e1, e2]
/-- what the loop's body leaves: the view in its box, and its store -/
def Rd (v : Vu) (B s g cap c n Bn : Nat) (l : List Int) (W : World) : Prop := Vbx W Bn v ∧ (v.p ≠ none → St W B s g cap c l ∧ l.length = n)
theorem Rd.on {v : Vu} {B s g cap c n Bn : Nat} {l : List Int} {W W' : World} (h : Rd v B s g cap c n Bn l W) (hb : Below W.heap.size W W') : Rd v B s g cap c n Bn l W' := ⟨h.1.on hb, fun hp => ⟨(h.2 hp).1.on hb, (h.2 hp).2⟩⟩

set_option maxRecDepth 100000 in
set_option maxHeartbeats 4000000 in
theorem all_seq {n : Nat} (hn : 1 ≤ n) {v : Vu} {B s g cap c N0 Bn B1 : Nat} {K : Int} (hv : Vk v s c N0 K) :
    SeqV n Try.prog 109 #[.pointer (some ⟨Bn, 0, none⟩)] (enc v c) (v.R * v.C).toNat B1 (Rd v B s g cap c N0 Bn) := by
  intro lp J Jx l W hJR hJg hY h0
  obtain ⟨hR0, hR1⟩ := hv.bd.R
  obtain ⟨hC0, hC1⟩ := hv.bd.C
  obtain ⟨m, hm⟩ := Int.eq_ofNat_of_zero_le hR0
  obtain ⟨q, hq⟩ := Int.eq_ofNat_of_zero_le hC0
  have hmq : (v.R * v.C).toNat = m * q := by rw [hm, hq]; rfl
  have hm5 : m ≤ 512 := by omega
  have hq5 : q ≤ 512 := by omega
  rw [hmq] at hY ⊢
  have HE := fun (l : List Int) (i j : Nat) (hj : j < q) => enc_at v c l (i := i) hq hj
  -- what a round asks
  have hYY : ∀ (i j : Nat) (l : List Int) (W1 : World), i < m → j < q → J (i * q + j) l W1 → YieldAt Fence.wide (n - 1) Try.prog lp #[.agg #[.int .i64 (i : Int), .int .i64 (j : Int)], .float .f64 (v.at_ c l i j).toNat] W1 fun e W' => (e = .returned (.bool true) ∧ ∃ l', J (i * q + (j + 1)) l' W') ∨ (e = .returned (.bool false) ∧ Jx W') := fun i j l W1 hi hj hJ => by
    have := hY (i * q + j) l W1 hJ (by have : (i + 1) * q ≤ m * q := Nat.mul_le_mul_right q (by omega); rw [Nat.succ_mul] at this; omega)
    rw [HE l i j hj] at this
    exact this
  have hAt : ∀ (i j : Nat) (l : List Int) (k : Nat) (W1 : World), i < m → j < q → J k l W1 → Calls Try.prog 87 #[v.V, .int .i64 (i : Int), .int .i64 (j : Int)] W1 (Ans W1 (.float .f64 (v.at_ c l i j).toNat)) := fun i j l k W1 hi hj hJ => by
    have hne : v.p ≠ none := by
      rcases hv.p with e | e
      · rw [e] at hm; simp at hm; omega
      · rw [e]; simp
    obtain ⟨hs, hl⟩ := (hJR _ _ _ hJ).2 hne
    exact At_any hs (by rw [hl]; exact hv) i j
  clear hY HE hmq
  have hB : ∀ k l W, J k l W → Vbx W Bn v := fun k l W h => (hJR _ _ _ h).1
  clear hJR
  clear hv
  obtain ⟨p, f0, f1, d0, d1, r0, r1, R, C⟩ := v
  simp only at hm hq
  subst hm hq
  obtain ⟨c0, c1, c2, c3, c4, c5, c6, c7, c8⟩ := Vbx.cells (hB _ _ _ h0)
  refine callsIn_of_wp Try.func109 rfl trivial ?_ rfl
  simp only [Try.ntmps109, List.size_toArray, List.length_cons, List.length_nil, Nat.reduceAdd, Nat.reduceSub, Array.replicate_succ, Array.replicate_zero, List.push_toArray, List.append_toArray, List.nil_append, List.cons_append]
  gi_wp2
  clear c0 c1 c2 c3 c4 c5 c6 c7 c8
  gi_loopw [7] (fun x wr => ∃ (i : Nat) (l : List Int), x = .int .i64 (i : Int) ∧ i ≤ m ∧ J (i * q) l wr) (fun x _ => m - (intOf x).toNat)
  case atStart => exact ⟨0, l, rfl, by omega, by rw [Nat.zero_mul]; exact h0⟩
  case round =>
    clear h0
    obtain ⟨i, l1, rfl, him, hJ⟩ := hrel
    by_cases hlt : i < m
    · have i0 : (0 : Int) ≤ i := by omega
      have i1 : (i : Int) < m := by omega
      obtain ⟨c0, c1, c2, c3, c4, c5, c6, c7, c8⟩ := Vbx.cells (hB _ _ _ hJ)
      gi_wp2
      clear c0 c1 c2 c3 c4 c5 c6 c7 c8
      gi_loopw [12] (fun x wr => ∃ (j : Nat) (l : List Int), x = .int .i64 (j : Int) ∧ j ≤ q ∧ J (i * q + j) l wr) (fun x _ => q - (intOf x).toNat)
      case atStart => exact ⟨0, l1, rfl, by omega, hJ⟩
      case round =>
        clear hJ
        obtain ⟨j, l2, rfl, hjq, hJ⟩ := hrel
        by_cases hjt : j < q
        · have j0 : (0 : Int) ≤ j := by omega
          have j1 : (j : Int) < q := by omega
          obtain ⟨c0, c1, c2, c3, c4, c5, c6, c7, c8⟩ := Vbx.cells (hB _ _ _ hJ)
          have pt := hAt i j l2 _ _ hlt hjt hJ
          gi_wp2_with (refine ⟨trivial, ?_⟩; gi_at_call 87; refine (callsIn_wide.2 pt).mono ?_; rintro e w2 ⟨rfl, hb⟩; have hJ2 := hJg _ _ _ _ hJ hb; obtain ⟨fn, tmps, assign, body, hy, hRo⟩ := hYY i j l2 _ hlt hjt hJ2)
          refine hRo.mono ?_
          rintro e w3 (⟨rfl, l3, hJ3⟩ | ⟨rfl, hJx⟩)
          · gi_wp2
            go_roundw
            case rel => exact ⟨j + 1, l3, by go_num, by omega, hJ3⟩
            case measure => simp [intOf]; omega
          · gi_wp2
            refine bodyPost_ret (results_none rfl _ _ _) rfl ?_
            exact ⟨⟨_, rfl⟩, .inr hJx⟩
        · obtain rfl : j = q := by omega
          gi_wp2
          go_roundw
          case rel => exact ⟨i + 1, l2, by go_num, by omega, by rw [Nat.succ_mul]; exact hJ⟩
          case measure => simp [intOf]; omega
    · obtain rfl : i = m := by omega
      gi_wp2
      go_end0
      exact ⟨⟨_, rfl⟩, .inl ⟨l1, hJ⟩⟩
end Go.Proofs.Ytfelmkkkaphkpaa
