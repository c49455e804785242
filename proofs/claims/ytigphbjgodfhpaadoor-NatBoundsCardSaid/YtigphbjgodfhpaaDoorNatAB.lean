/-
  Layer 2, walks, part twenty-two: square roots, as they are handed out; a number divided by a limb in place.
-/
import Derived.Test.YtigphbjgodfhpaaDoorNatAA
namespace Go.Proofs.YtigphbjgodfhpaaDoor
open Go.RowKit
set_option linter.unusedVariables false

theorem rooted_all (k : Nat) : ∀ (A : Option Addr) (c : Nat) (l : List Int) (w : World), Nums w w.heap.size A c l → Lim 18446744073709551616 l → Normal l → l.length ≤ 4097 → val 18446744073709551616 l < 2 ^ k →
      Calls Tryd.prog 61 #[.slice A l.length c] w (RootPost (val 18446744073709551616 l) w) := by
  induction k using Nat.strongRecOn with
  | _ k ih =>
    intro A c l w h hl nl hlen hk
    rcases Nat.lt_or_ge l.length 2 with h2 | h2
    · exact rooted_small A c l w h hl (by omega)
    · exact rooted_step k ih A c l w h hl nl hlen hk h2
theorem rooted_any (A : Option Addr) (c : Nat) (l : List Int) (w : World) (h : Nums w w.heap.size A c l) (hl : Lim 18446744073709551616 l) (nl : Normal l) (hlen : l.length ≤ 4097) :
    Calls Tryd.prog 61 #[.slice A l.length c] w (RootPost (val 18446744073709551616 l) w) :=
  rooted_all (64 * l.length) A c l w h hl nl hlen (by rw [← pow64]; exact (val_bound (by omega) hl).2)

/-- a root and what is left, and no error -/
def Root2 (v : Int) (w : World) (e : Ending) (w' : World) : Prop :=
  ∃ s r A1 c1 A2 c2, e = .returned (.tuple #[.slice A1 s.length c1, .slice A2 r.length c2, .int .i64 0]) ∧ Lim 18446744073709551616 s ∧ Lim 18446744073709551616 r ∧ Normal s ∧ Normal r ∧
    Hid (IsRoot v (val 18446744073709551616 s) (val 18446744073709551616 r)) ∧ Own w' w.heap.size A1 c1 s ∧ Own w' w.heap.size A2 c2 r ∧ Below w.heap.size w w'

set_option maxHeartbeats 1000000 in
theorem Sqrt_any (A : Option Addr) (c : Nat) (l : List Int) (w : World) (h : Nums w w.heap.size A c l) (hl : Lim 18446744073709551616 l) (hlen : (norm l).length ≤ 4096) :
    Calls Tryd.prog 30 #[.slice A l.length c] w (Root2 (val 18446744073709551616 l) w) := by
  have e1 := norm_val 18446744073709551616 l
  rw [← e1]
  clear e1
  go_enter Tryd.func30, Tryd.ntmps30
  go_wp2_with (first
    | (go_at_call 51; ((with_reducible refine (taken_any A c l _ _ h hl hlen).mono ?_); rintro e w' ⟨A', c', rfl, ht, rfl⟩))
    | (go_at_call 61; ((with_reducible refine (rooted_any A' c' (norm l) _ (ht.nums h) (norm_lim hl) (norm_normal l) (by omega)).mono ?_); rintro e w' ⟨s, r, A1, c1, A2, c2, rfl, h1, h2, h3, h4, h5, h6, h7, h8⟩)))
  go_ret3
  exact ⟨s, r, A1, c1, A2, c2, rfl, h1, h2, h3, h4, h5, h6, h7, h8⟩

/-- what a division by one limb, in place, leaves -/
def SamePost (K : Nat) (l : List Int) (d : Int) (g : Nat) (w0 : World) (e : Ending) (w : World) : Prop :=
  ∃ (C : List Int) (r : Int), e = .returned (.int .u64 r) ∧ 0 ≤ r ∧ r < d ∧ C.length = l.length ∧ Lim 18446744073709551616 C ∧ Pre w g K C ∧ w0.grownBy w (some g) ∧ Hid (val 18446744073709551616 l = val 18446744073709551616 C * d + r)

set_option maxHeartbeats 4000000 in
theorem quotients_same (K : Nat) (l : List Int) (g : Nat) (d : Int) (w : World) (hr0 : Pre w g K l) (hl : Lim 18446744073709551616 l) (hK : l.length ≤ K)
    (hb1 : l.length ≤ 1000000) (hd : 0 < d) (hd1 : d < 18446744073709551616) :
    Calls Tryd.prog 88 #[.slice (some ⟨g, 0, none⟩) l.length K, .slice (some ⟨g, 0, none⟩) l.length K, .int .u64 d] w (SamePost K l d g w) := by
  have hg0 := hr0.lt
  go_enter Tryd.func88, Tryd.ntmps88
  go_wp2_with fail
  go_loopw [6, 11] (fun a i wr => ∃ (k : Nat) (r : Int) (C : List Int), k ≤ l.length ∧ a = .int .u64 r ∧ i = .int .i64 k ∧ 0 ≤ r ∧ r < d ∧ Hid (C.length = l.length) ∧ Lim 18446744073709551616 C ∧ Pre wr g K C ∧ w.grownBy wr (some g) ∧
      Hid (∀ j, j < l.length - k → D C j = D l j) ∧
      Hid (val 18446744073709551616 (l.drop (l.length - k)) = val 18446744073709551616 (C.drop (l.length - k)) * d + r)) (fun _ i _ => l.length - (intOf i).toNat)
  case atStart => exact ⟨0, 0, l, by omega, rfl, rfl, by omega, hd, rfl, hl, hr0, World.grownBy.refl w _, fun j hj => rfl, by show _ = _; rw [List.drop_of_length_le (by omega)]; simp [val_nil]⟩
  case round =>
    obtain ⟨k, r, C, hk, rfl, rfl, r0, r1, HC, hCl, hr, hg, HLO, HE⟩ := hrel
    have hgl := hr.lt
    by_cases hkl : k < l.length
    · obtain ⟨j, hj⟩ : ∃ j, l.length - 1 - k = j := ⟨_, rfl⟩
      have he : (l.length : Int) - 1 - k = j := by omega
      have hj1 : j < l.length := by omega
      have e1 : l.length - k = j + 1 := by omega
      have e2 : l.length - (k + 1) = j := by omega
      have hx := D_lim (b := 18446744073709551616) (by omega) hl j
      have i0 : (0 : Int) ≤ j := by omega
      have i1 : (j : Int) < l.length := by omega
      have c0 := hr.cell (k := j) (by rw [HC.out]; exact hj1)
      rw [HLO.out j (by omega)] at c0
      have f0 := hr.frozen j
      have hE := HE.out
      rw [e1] at hE
      have hLO := HLO.out
      rw [e1] at hLO
      have HLO' := Lib.hid hLO
      have HE' := Lib.hid hE
      have E2 := Lib.hid e2
      clear hj e1 e2 hE hLO
      go_wp2_with (go_at_call 98; ((with_reducible refine (div64_any r (D l j) d _ r0 r1 hd1 hx.1 hx.2).mono ?_); rintro e w' ⟨n, q, r', rfl, q0, q1, r0', r1', hdiv, rfl⟩))
      go_roundw
      case rel =>
        refine ⟨k + 1, r', C.set j q, by omega, rfl, by go_num, r0', r1', by show _ = _; rw [List.length_set, HC.out], hCl.set j q0 q1, (hr.drewN n).set_ j q, only_setCell (p := ⟨g, j, none⟩) (only_drewN hg n) (.inl rfl) _, fun i hi => ?_, ?_⟩
        · rw [E2.out] at hi
          rw [D_set _ _ (by rw [HC.out]; exact hj1), if_neg (by omega)]
          exact HLO'.out i (by omega)
        · show _ = _
          rw [E2.out]
          exact quot_step hj1 HC.out HE'.out hdiv.out
      case measure => simp [intOf]; omega
    · obtain rfl : k = l.length := by omega
      go_wp2_with fail
      go_ret
      refine ⟨C, r, rfl, r0, r1, HC.out, hCl, hr, hg, ?_⟩
      have := HE.out
      show _ = _
      simpa using this
end Go.Proofs.YtigphbjgodfhpaaDoor
