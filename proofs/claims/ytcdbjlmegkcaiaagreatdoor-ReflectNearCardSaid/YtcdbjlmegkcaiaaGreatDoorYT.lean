/-
  The last step of a law; what comes in.
-/
import Derived.Test.YtcdbjlmegkcaiaaGreatDoorZKVwA
import Derived.WalkKit
import Derived.ProofKit
import Derived.OpenShut
import Derived.Lib.SmallJoins
import Derived.Below
import Derived.ShutString
import Derived.ChangeOld
import Derived.Deep.Slices
import Derived.Deep.Strs
namespace Go.Proofs.YtcdbjlmegkcaiaaGreatDoor
open Go.ChangeShapes Go.WideShapes Go.ChangeAt Go.RowKit

/-- a call whose arguments bear no memory, and that leaves all old blocks as they were, meets a law's row -/
theorem done_plain {H : Type} {enc : TypeId × Value → H} {P : Program} {f : Func} {s : ChangeSpec} {W W' : World} {args : Array Value} {v : Value} {ds gs : List (DataW H)}
    (whole : DataW.Whole enc P f.params.toList s.vars false W args.toList ds gs [])
    (told : ∀ (b : Nat) (sp : Nat → Bool) (hd : Bool), DataW.TrodAll enc P W' b sp hd f.resultTypes.toList (v.resultList f.resultTypes.size) (s.fn H (ds ++ gs)).results [])
    (stands : ∀ sp : Nat → Bool, DataW.TrodAll enc P W' 0 sp true f.params.toList args.toList (s.fn H (ds ++ gs)).args [])
    (named : ∀ sp : Nat → Bool, DataW.TrodVars enc P W' sp s.vars (s.fn H (ds ++ gs)).vars [])
    (below : Below W.heap.size W W') : s.post enc P f false true false false W args v W' :=
  ⟨ds, gs, [], [], [], [], whole, told _ _ _, stands _, named _, below.frame _, fun h => nomatch h⟩
end Go.Proofs.YtcdbjlmegkcaiaaGreatDoor
namespace Go.Proofs.YtcdbjlmegkcaiaaGreatDoor
open Go.ChangeShapes Go.WideShapes Go.ChangeAt Go.RowKit Go.Joins Go.Bw
set_option linter.unusedVariables false

theorem laidOut : laidOutB Tryz.prog = true := by kernel_rfl
theorem lt_of_cell {W : World} {p : Addr} {v : Value} (h : W.cell? p = some v) : p.block < W.heap.size := by
  rcases Nat.lt_or_ge p.block W.heap.size with g | g
  · exact g
  · simp [World.cell?, Array.getElem?_eq_none g] at h
section
variable {H : Type} {enc : TypeId × Value → H} {W : World} {base fuel : Nat} {held : Bool} {cs : List Value} {x : DataW H × List MemPlace}
theorem trod_float {P : Program} {spare : Nat → Bool} {t : TypeId} {k : FloatKind} (ht : P.underlying t = some (.float k)) (h : DataW.trod enc P W base spare held fuel t cs = some x) : ∃ n, cs = [.float k n] ∧ x = (.lit (.float k n), []) ∧ (Lit.float k n).wf = true := by
  cases fuel with
  | zero => simp [DataW.trod] at h
  | succ n =>
    unfold DataW.trod at h
    rw [ht] at h
    split at h <;> simp_all
theorem wf_f64 {n : Nat} (h : (Lit.float .f64 n).wf = true) : n ≤ 18446744073709551615 := by
  have : n < 18446744073709551616 := by simpa [Lit.wf] using h
  omega
theorem okWide_float {P : Program} {r : Reach} {b0 : Nat} {t : TypeId} {k : FloatKind} {v : Value} (ht : P.underlying t = some (.float k)) (h : Value.okWide P W r b0 t v) : ∃ n, v = .float k n := by
  simp only [Value.okWide, ht, Cell.okWide] at h
  cases v <;> simp_all [Cell.ok]
theorem open_fl (h : DataW.trod enc Tryz.prog W base (fun _ => true) held fuel 22 cs = some x) : ∃ (A : Option Addr) (n c : Nat) (l : List Int), cs = [.slice A n c] ∧ FL W A n c l := by
  rcases Go.Deep.open_slice1 Tryz.underlying22 (by kernel_rfl) h with ⟨rfl, _⟩ | ⟨a, n, c, m, f, V, D9, Pl, rfl, _, hl, hm, hmm, _, hi⟩
  · exact ⟨none, 0, 0, [], rfl, FL.nil W⟩
  · have hm2 : m = c := by simpa using hmm
    have each : ∀ i, i < n → ∃ b : Nat, V i = .float .f64 b ∧ b ≤ 18446744073709551615 ∧ W.cell? (a.add i) = some (.float .f64 b) := fun i hin => by
      obtain ⟨hc, ht⟩ := hi i (by omega)
      obtain ⟨b, e, _, hw⟩ := trod_float Tryz.underlying25 ht
      simp only [List.cons.injEq, and_true] at e
      exact ⟨b, e, wf_f64 hw, by rw [hc, e]⟩
    have hll : ((List.range n).map fun i => match V i with | .float _ b => (b : Int) | _ => 0).length = n := by simp
    have hD : ∀ k, k < n → ∀ b, V k = .float .f64 b → GD ((List.range n).map fun i => match V i with | .float _ b => (b : Int) | _ => 0) k = b := fun k hk b hb => by
      rw [GD_in (by rw [hll]; exact hk), List.getElem_map, List.getElem_range, hb]
    refine ⟨some a, n, c, (List.range n).map fun i => match V i with | .float _ b => (b : Int) | _ => 0, rfl, hll, ⟨by rw [hll]; exact hl, hm, fun hn => ⟨a, rfl, ?_, fun k hk => ?_⟩⟩, fun y hy => ?_⟩
    · rw [hll] at hn
      obtain ⟨b, _, _, hc⟩ := each 0 hn
      have := lt_of_cell hc
      rw [Gadd_block] at this; exact this
    · rw [hll] at hk
      obtain ⟨b, e, _, hc⟩ := each k hk
      rw [hc, hD k hk b e]; rfl
    · obtain ⟨i, hi2, rfl⟩ := List.mem_map.1 hy
      obtain ⟨b, e, hb, _⟩ := each i (List.mem_range.1 hi2)
      rw [e]
      simp only
      omega
end
set_option maxRecDepth 100000 in
theorem open_floats {H : Type} {enc : TypeId × Value → H} {W : World} {base b0 : Nat} {held : Bool} {r : Reach} {v : Value} {d : DataW H} {p : List MemPlace}
    (hv : Value.okWide Tryz.prog W r b0 22 v) (h : DataW.Trod enc Tryz.prog W base (fun _ => true) held 22 v d p) :
    ∃ (A : Option Addr) (n c : Nat) (l : List Int), v = .slice A n c ∧ FL W A n c l := by
  obtain ⟨A, n, c, rfl⟩ := okWide_slice Tryz.underlying22 hv
  obtain ⟨fuel, hf⟩ := h
  obtain ⟨A2, n2, c2, l, e, hl⟩ := open_fl hf
  have e2 : Value.slice A n c = .slice A2 n2 c2 := by simpa [Value.cells] using e
  cases e2
  exact ⟨A, n, c, l, rfl, hl⟩
end Go.Proofs.YtcdbjlmegkcaiaaGreatDoor
