/-
  Layer 2, walks, part twenty-eight: a slice of bytes is turned round.
-/
import Derived.Shelf.RegionOpenPlain
import Derived.Deep.LoopGhost
import Derived.Lib.Walk
import Derived.Sort.WalkB12
import Derived.Lib.SlicesMore
import Derived.Test.YtigphbjgodfhpaaDoorNatAH
namespace Go.Proofs.YtigphbjgodfhpaaDoor
open Go.RowKit Go.Shelf Go.Lib Go.Sort
set_option linter.unusedVariables false

def encB (x : Int) : Value := .int .u8 x

set_option maxHeartbeats 4000000 in
set_option maxRecDepth 1000000 in
theorem reverse_arr (g cap : Nat) (d : Array Int) (w : World) (hH : Holds encB w g 0 d) (hsz : d.size ≤ 1000000) (hpos : 0 < d.size) :
    Calls Tryd.prog 68 #[.slice (some ⟨g, 0, none⟩) d.size cap] w fun e w' => e = .returned (.tuple #[]) ∧ ∃ n, w' = putRow encB (Sort.ahead w n) g 0 d.reverse := by
  go_enter Tryd.func68, Tryd.ntmps68
  go_wp2
  go_loopw [2, 3] (fun a b wr => ∃ (i j : Nat) (dk : Array Int) (n : Nat), a = .int .i64 i ∧ b = .int .i64 j ∧ j < d.size ∧ dk.size = d.size ∧ wr = putRow encB (Sort.ahead w n) g 0 dk ∧ reverseLoop i j dk = reverseLoop 0 (d.size - 1) d) (fun _ b _ => (RowKit.intOf b).toNat)
  case atStart => exact ⟨0, d.size - 1, d, 0, rfl, by go_num, by omega, rfl, (putRow_self encB w g 0 d hH).symm, rfl⟩
  case round =>
    obtain ⟨i, j, dk, n, rfl, rfl, hj, hds, hwr, heq⟩ := hrel
    by_cases hij : i < j
    · have hlt : (i : Int) < j := by omega
      have hHk : Holds encB wr g 0 dk := by rw [hwr]; exact holds_putRow encB _ g 0 d dk (holds_ahead encB w n g 0 d hH) hds
      obtain ⟨ci, fi⟩ := hHk i (by omega)
      obtain ⟨cj, fj⟩ := hHk j (by omega)
      rw [Nat.zero_add] at ci fi cj fj
      obtain ⟨x, hx⟩ : ∃ x, dk[i]! = x := ⟨_, rfl⟩
      obtain ⟨y, hy⟩ : ∃ y, dk[j]! = y := ⟨_, rfl⟩
      have ci' : wr.cell? ⟨g, i, none⟩ = some (.int .u8 x) := by rw [ci, hx]; rfl
      have cj' : wr.cell? ⟨g, j, none⟩ = some (.int .u8 y) := by rw [cj, hy]; rfl
      have HX := Lib.hid hx
      have HY := Lib.hid hy
      clear ci cj hx hy
      have A : Aside (wr = putRow encB (Sort.ahead w n) g 0 dk) := hwr
      have i0 : (0 : Int) ≤ i := by omega
      have i1 : (i : Int) < d.size := by omega
      have j0 : (0 : Int) ≤ j := by omega
      have j1 : (j : Int) < d.size := by omega
      clear hwr hHk hH
      go_wp2_with fail
      go_region
      go_wp2
      refine ⟨⟨i + 1, j - 1, swp dk i j, n + 1, by go_num, by go_num, by omega, by rw [size_swp]; exact hds, ?_, ?_⟩, by simp [RowKit.intOf]; omega⟩
      · have hsw := swap_world encB (i := i) (j := j) (by omega) (by omega) A.out (x := .int .u8 y) (y := .int .u8 x) (by rw [HY.out]; rfl) (by rw [HX.out]; rfl)
        rw [Nat.zero_add, Nat.zero_add] at hsw
        exact hsw
      · rw [reverseLoop, if_pos hij] at heq
        exact heq
    · go_wp2
      go_end0
      refine ⟨rfl, n, ?_⟩
      rw [reverseLoop, if_neg hij] at heq
      rw [← Lib.reverseLoop_reverse, ← heq]
end Go.Proofs.YtigphbjgodfhpaaDoor
