/-
  Layer 2, joined (wip/tools/merge.py): NatAL NatAM NatAN NatAO NatAP NatAQ.
  Layer 2, the reference, part one: num, long, Norm, Same, is.
  Layer 2, the laws, part one: what the program answers at numbers that are written out.
  Layer 2, the laws, part two: the chapter's rows. (This text is written by wip/tools/gen_known.py.)
  Layer 2, the laws, part three: the library's table, as the rows lay it.
  Layer 2, the laws, part four: what the reference holds against each other; NatCompares.
  Layer 2, the laws, part five: NatRings. (The last walk is written by wip/tools/gen_rings.py.)
-/
import Derived.Test.YtcdbjlmegkcaiaaGreatDoorZNG6
import Derived.Deep.QuietTactic
import Derived.Test.YtcdbjlmegkcaiaaGreatDoorRows
import Derived.ProofKit
import Derived.OpenShut
import Derived.ChangeOld
import Derived.ChangeVars
import Derived.JoinedOf
import Derived.LaidLaws
import Derived.Lib.LaidTab
import Derived.MakeChecks
import Derived.BigQuiet
namespace Go.Proofs.YtcdbjlmegkcaiaaGreatDoor
open Go.RowKit
set_option linter.unusedVariables false

/-- what the reference's Norm leaves -/
def NormPost (l : List Int) (w : World) (e : Ending) (w' : World) : Prop :=
  ∃ A' c', e = .returned (.slice A' (norm l).length c') ∧ Own w' w.heap.size A' c' (norm l) ∧ Below w.heap.size w w'

end Go.Proofs.YtcdbjlmegkcaiaaGreatDoor
namespace Go.Proofs.YtcdbjlmegkcaiaaGreatDoor
open Go.RowKit
set_option linter.unusedVariables false

/-- a slice of n limbs reads l -/
def Lv (W : World) (A : Option Addr) (n c : Nat) (l : List Int) : Prop := l.length = n ∧ Nums W W.heap.size A c l ∧ Lim 18446744073709551616 l

theorem Lv.on {W W' : World} {A : Option Addr} {n c : Nat} {l : List Int} (h : Lv W A n c l) (hb : Below W.heap.size W W') : Lv W' A n c l := ⟨h.1, h.2.1.on hb (Nat.le_refl _), h.2.2⟩
theorem Lv.alloc {W : World} {A : Option Addr} {n c : Nat} {l : List Int} (h : Lv W A n c l) (o : Obj) : Lv (W.alloc o) A n c l := h.on ((Below.refl _ W).alloc (Nat.le_refl _) o)
theorem Lv.row (W : World) (l : List Int) (n g : Nat) (hg : W.heap.size = g) (hn : l.length = n) (hm : n ≤ 1000000) (hl : Lim 18446744073709551616 l) (o : Obj) (ho : o = .cells (L l).toArray 62) : Lv (W.alloc o) (some ⟨g, 0, none⟩) n n l := by
  subst hg
  subst hn
  subst ho
  have hr : Row (W.alloc (.cells (L l).toArray 62)) W.heap.size l := heap_alloc_new W _
  have := hr.nums (B := (W.alloc (.cells (L l).toArray 62)).heap.size) (c := l.length) 0 l.length (by omega) (Nat.le_refl _) (by unfold maxLen; omega) (by simp)
  rw [List.drop_zero, List.take_length] at this
  exact ⟨rfl, this, hl⟩
theorem Lv.at {W : World} {ad : Addr} {n c : Nat} {l : List Int} (h : Lv W (some ad) n c l) (k : Nat) (hk : k < n) : W.cell? (ad.add k) = some (.int .u64 (D l k)) := h.2.1.at_some (by rw [h.1]; exact hk)

/-- a list of limbs is the number that is asked -/
def Okl (l : List Int) : Prop := Lim 18446744073709551616 l ∧ Normal l ∧ l.length ≤ 4096

def GoodN (n : Nat) (l : List Int) (w : World) (e : Ending) (w' : World) : Prop :=
  ∃ A c, e = .returned (.tuple #[.slice A n c, .int .i64 0]) ∧ Lv w' A n c l ∧ Below w.heap.size w w'

theorem Made2.good {v : Int} {w w' : World} {e : Ending} {n : Nat} {r : List Int} (h : Made2 v w e w') (hr : Okl r) (hn : r.length = n) (hv : v = val 18446744073709551616 r) : GoodN n r w e w' := by
  obtain ⟨s, A, c, h1, h2, h3, h4, h5, h6⟩ := h
  obtain rfl : s = r := normal_unique (b := 18446744073709551616) (by omega) h2 hr.1 h3 hr.2.1 (by rw [h4, hv])
  subst hn
  exact ⟨A, c, h1, ⟨rfl, h5.nums, h2⟩, h6⟩

theorem Okl.bd {r : List Int} (h : Okl r) : val 18446744073709551616 r < 18446744073709551616 ^ 4096 :=
  Int.lt_of_lt_of_le (val_bound (by omega) h.1).2 (pow_le' (by omega) h.2.2)
theorem norm_le {l : List Int} {n : Nat} (h : l.length = n) (hn : n ≤ 4096) : (norm l).length ≤ 4096 := by have := norm_length l; omega

section
variable {A A2 : Option Addr} {n m c c2 : Nat} {l s r : List Int} {w : World} (h : Lv w A n c l) (h2 : Lv w A2 m c2 s) (hn : n ≤ 4096) (hm : m ≤ 4096)
include h hn

section
include h2 hm
theorem Add_good {k : Nat} (hr : Okl r) (hk : r.length = k) (hv : val 18446744073709551616 l + val 18446744073709551616 s = val 18446744073709551616 r) :
    Calls Tryz.prog 85 #[.slice A n c, .slice A2 m c2] w (GoodN k r w) := by
  have := Add_any A c l A2 c2 s w h.2.1 h.2.2 h2.2.1 h2.2.2 (norm_le h.1 hn) (norm_le h2.1 hm) (by rw [hv]; exact hr.bd)
  rw [h.1, h2.1] at this
  exact this.mono fun e w' q => q.good hr hk hv
theorem Sub_good {k : Nat} (hr : Okl r) (hk : r.length = k) (hv : val 18446744073709551616 l = val 18446744073709551616 s + val 18446744073709551616 r) :
    Calls Tryz.prog 87 #[.slice A n c, .slice A2 m c2] w (GoodN k r w) := by
  have h0 := (val_bound (b := 18446744073709551616) (by omega) hr.1).1
  have := Sub_any A c l A2 c2 s w h.2.1 h.2.2 h2.2.1 h2.2.2 (norm_le h.1 hn) (norm_le h2.1 hm) (by omega)
  rw [h.1, h2.1] at this
  exact this.mono fun e w' q => q.good hr hk (by omega)
theorem Sub_bad (hv : val 18446744073709551616 l < val 18446744073709551616 s) :
    Calls Tryz.prog 87 #[.slice A n c, .slice A2 m c2] w (Fails 2 w) := by
  have := Sub_less A c l A2 c2 s w h.2.1 h.2.2 h2.2.1 h2.2.2 (norm_le h.1 hn) (norm_le h2.1 hm) hv
  rw [h.1, h2.1] at this
  exact this
theorem Mul_good {k : Nat} (hr : Okl r) (hk : r.length = k) (hv : val 18446744073709551616 l * val 18446744073709551616 s = val 18446744073709551616 r) :
    Calls Tryz.prog 61 #[.slice A n c, .slice A2 m c2] w (GoodN k r w) := by
  have := Mul_any A c l A2 c2 s w h.2.1 h.2.2 h2.2.1 h2.2.2 (norm_le h.1 hn) (norm_le h2.1 hm) (by rw [hv]; exact hr.bd)
  rw [h.1, h2.1] at this
  exact this.mono fun e w' q => q.good hr hk hv

def Good2 (n : Nat) (l : List Int) (m : Nat) (s : List Int) (w : World) (e : Ending) (w' : World) : Prop :=
  ∃ A c A2 c2, e = .returned (.tuple #[.slice A n c, .slice A2 m c2, .int .i64 0]) ∧ Lv w' A n c l ∧ Lv w' A2 m c2 s ∧ Below w.heap.size w w'

end

theorem Shl_good {k : Nat} (hr : Okl r) (hk : r.length = k) (j : Nat) (i : Int) (hi : i = (j : Int)) (hv0 : val 18446744073709551616 l ≠ 0) (hv : val 18446744073709551616 l * 2 ^ j = val 18446744073709551616 r) :
    Calls Tryz.prog 84 #[.slice A n c, .int .i64 i] w (GoodN k r w) := by
  subst hi
  have hb := hr.bd
  rw [show (18446744073709551616 : Int) ^ 4096 = 2 ^ 262144 by rw [show (262144 : Nat) = 64 * 4096 from rfl, ← pow64]] at hb
  have := Shl_any A c l w h.2.1 h.2.2 (norm_le h.1 hn) j hv0 (by rw [hv]; exact hb)
  rw [h.1] at this
  exact this.mono fun e w' q => q.good hr hk hv

def Good3 (n : Nat) (l : List Int) (b : Bool) (w : World) (e : Ending) (w' : World) : Prop :=
  ∃ A c, e = .returned (.tuple #[.slice A n c, .bool b, .int .i64 0]) ∧ Lv w' A n c l ∧ Below w.heap.size w w'
theorem Shr_good {k : Nat} (hr : Okl r) (hk : r.length = k) (hT : Tab w) (j : Nat) (i : Int) (hi : i = (j : Int)) (hj : j ≤ 1000000) (b : Bool) (hb : lostB (val 18446744073709551616 l) j = b) (hv : val 18446744073709551616 l / 2 ^ j = val 18446744073709551616 r) :
    Calls Tryz.prog 58 #[.slice A n c, .int .i64 i] w (Good3 k r b w) := by
  subst hi
  have := Shr_any A c l w h.2.1 h.2.2 (norm_le h.1 hn) hT j (by omega)
  rw [h.1] at this
  refine this.mono ?_
  rintro e w' ⟨s, A1, c1, rfl, h1, h2, h3, h4, h5⟩
  obtain rfl := normal_unique (b := 18446744073709551616) (by omega) h1 hr.1 h2 hr.2.1 (by rw [h3, hv])
  exact ⟨A1, c1, by rw [hk, hb], ⟨hk, h4.nums, h1⟩, h5⟩

theorem Bits_good (k : Nat) (i : Int) (hi : i = (k : Int)) (hk : IsBits (val 18446744073709551616 l) k) : Calls Tryz.prog 83 #[.slice A n c] w fun e w' => e = .returned (.tuple #[.int .i64 i, .int .i64 0]) ∧ w = w' := by
  subst hi
  have := Bits_any A c l w h.2.1 h.2.2 (norm_le h.1 hn)
  rw [h.1] at this
  refine this.mono ?_
  rintro e w' ⟨k', rfl, hb, rfl⟩
  obtain rfl := hb.unique hk
  exact ⟨rfl, rfl⟩

theorem Zeros_good (hT : Tab w) (k : Nat) (i : Int) (hi : i = (k : Int)) (h0 : val 18446744073709551616 l ≠ 0) (hk : ∀ j, IsZeros (val 18446744073709551616 l) j → j = k) : Calls Tryz.prog 57 #[.slice A n c] w fun e w' => e = .returned (.tuple #[.int .i64 i, .int .i64 0]) ∧ w = w' := by
  subst hi
  have := Zeros_any A c l w h.2.1 h.2.2 (norm_le h.1 hn) hT
  rw [h.1] at this
  refine this.mono ?_
  rintro e w' ⟨k', rfl, _, hb, rfl⟩
  obtain rfl := hk _ (hb h0)
  exact ⟨rfl, rfl⟩

end
end Go.Proofs.YtcdbjlmegkcaiaaGreatDoor
namespace Go.Proofs.YtcdbjlmegkcaiaaGreatDoor
open Go.RowKit
set_option linter.unusedVariables false

theorem Tab.on {W W' : World} (h : Tab W) (hb : Below W.heap.size W W') : Tab W' := h.below hb h.lt
theorem Tab.al {W : World} (h : Tab W) (o : Obj) : Tab (W.alloc o) := h.on ((Below.refl _ W).alloc (Nat.le_refl _) o)
theorem bel_al {w W : World} (h : Below w.heap.size w W) (o : Obj) : Below w.heap.size w (W.alloc o) := h.alloc h.size o
theorem bel_then {w W W' : World} (h : Below w.heap.size w W) (hb : Below W.heap.size W W') : Below w.heap.size w W' := h.trans (hb.mono h.size)
theorem lv_nil (W : World) : Lv W none 0 0 [] := ⟨rfl, Nums.nil _ _, Lim.nil _⟩
theorem at_zero (g : Nat) : (⟨g, 0, none⟩ : Addr).add 0 = ⟨g, 0, none⟩ := add_at g 0 0
theorem root17 : ∀ s t : Int, IsRoot (val 18446744073709551616 [17]) s t → s = val 18446744073709551616 [4] ∧ t = val 18446744073709551616 [1] := by
  intro s t h
  have e17 : val 18446744073709551616 [17] = 17 := by decide
  have e4 : val 18446744073709551616 [4] = 4 := by decide
  have e1 : val 18446744073709551616 [1] = 1 := by decide
  rw [e17] at h
  rw [e4, e1]
  obtain ⟨h1, h2, h3, h4⟩ := h
  have h5 : s ≤ 4 := by
    rcases Int.lt_or_le 4 s with k | k
    · have : 5 * 5 ≤ s * s := Int.mul_le_mul (by omega) (by omega) (by omega) (by omega)
      omega
    · exact k
  obtain rfl | rfl | rfl | rfl | rfl : s = 0 ∨ s = 1 ∨ s = 2 ∨ s = 3 ∨ s = 4 := by omega
  all_goals omega
theorem bits_nil : IsBits (val 18446744073709551616 []) 0 := by unfold IsBits; decide
theorem bits_two : IsBits (val 18446744073709551616 [0, 1]) 65 := by unfold IsBits; decide
theorem zeros_two : ∀ j, IsZeros (val 18446744073709551616 [0, 1]) j → j = 64 := by
  intro j h
  have h1 := lost_of (j := 64) h
  have h2 := lost_of (j := 65) h
  rw [show lostB (val 18446744073709551616 [0, 1]) 64 = false by decide] at h1
  rw [show lostB (val 18446744073709551616 [0, 1]) 65 = true by decide] at h2
  simp at h1 h2
  omega
theorem txt_two : txt (val 18446744073709551616 [0, 1]).toNat = [49, 56, 52, 52, 54, 55, 52, 52, 48, 55, 51, 55, 48, 57, 53, 53, 49, 54, 49, 54] := by
  have hd : digs (val 18446744073709551616 [0, 1]).toNat = [6, 1, 6, 1, 5, 5, 9, 0, 7, 3, 7, 0, 4, 4, 7, 6, 4, 4, 8, 1] :=
    (digs_unique (by intro x hx; simp at hx; omega) (.inr (by decide)) (by decide)).symm
  unfold txt
  rw [hd, if_neg (by decide)]
  decide
theorem bad_00 : ¬ OkText (⟨#[48, 48]⟩ : ByteArray).data.toList := fun h => h.2.2.1 (by decide) (by decide)
theorem ok_two : OkText (⟨#[49, 56, 52, 52, 54, 55, 52, 52, 48, 55, 51, 55, 48, 57, 53, 53, 49, 54, 49, 54]⟩ : ByteArray).data.toList := by
  refine ⟨by decide, by decide, by decide, ?_⟩
  unfold IsDig
  decide
theorem lim_k0 : Lim 18446744073709551616 [18446744073709551615] := by intro x hx; simp at hx; omega
theorem ok_k0 : Okl [18446744073709551615] := ⟨lim_k0, .inr (by decide), by decide⟩
theorem lim_k1 : Lim 18446744073709551616 [0, 1] := by intro x hx; simp at hx; omega
theorem ok_k1 : Okl [0, 1] := ⟨lim_k1, .inr (by decide), by decide⟩
theorem lim_k2 : Lim 18446744073709551616 [1] := by intro x hx; simp at hx; omega
theorem ok_k2 : Okl [1] := ⟨lim_k2, .inr (by decide), by decide⟩
theorem lim_k3 : Lim 18446744073709551616 [2] := by intro x hx; simp at hx; omega
theorem ok_k3 : Okl [2] := ⟨lim_k3, .inr (by decide), by decide⟩
theorem lim_k4 : Lim 18446744073709551616 [1, 18446744073709551614] := by intro x hx; simp at hx; omega
theorem ok_k4 : Okl [1, 18446744073709551614] := ⟨lim_k4, .inr (by decide), by decide⟩
theorem lim_k5 : Lim 18446744073709551616 [10] := by intro x hx; simp at hx; omega
theorem ok_k5 : Okl [10] := ⟨lim_k5, .inr (by decide), by decide⟩
theorem lim_k6 : Lim 18446744073709551616 [1844674407370955161] := by intro x hx; simp at hx; omega
theorem ok_k6 : Okl [1844674407370955161] := ⟨lim_k6, .inr (by decide), by decide⟩
theorem lim_k7 : Lim 18446744073709551616 [6] := by intro x hx; simp at hx; omega
theorem ok_k7 : Okl [6] := ⟨lim_k7, .inr (by decide), by decide⟩
theorem lim_k8 : Lim 18446744073709551616 [17] := by intro x hx; simp at hx; omega
theorem ok_k8 : Okl [17] := ⟨lim_k8, .inr (by decide), by decide⟩
theorem lim_k9 : Lim 18446744073709551616 [4] := by intro x hx; simp at hx; omega
theorem ok_k9 : Okl [4] := ⟨lim_k9, .inr (by decide), by decide⟩
theorem lim_k10 : Lim 18446744073709551616 [3] := by intro x hx; simp at hx; omega
theorem ok_k10 : Okl [3] := ⟨lim_k10, .inr (by decide), by decide⟩

end Go.Proofs.YtcdbjlmegkcaiaaGreatDoor
namespace Go.Proofs.YtcdbjlmegkcaiaaGreatDoor
open Go.RowKit Go.ChangeShapes
set_option linter.unusedVariables false

theorem tab_name : Tryz.prog.globalNamed "math/bits.deBruijn64tab" = some 1 := by kernel_rfl
def laidTab : List (String × DataW Unit) := [("math/bits.deBruijn64tab", Rows.laid_math_bits_deBruijn64tab)]
theorem laid_is : laidTab = [("math/bits.deBruijn64tab", Lib.tabData .u8 (Lib.deBruijn64tab.map fun n : Nat => (n : Int)))] := by
  rfl
theorem tab_type : (Tryz.prog.globals[1]?).map (·.type) = some 121 := by kernel_rfl
theorem tab_cells : Tryz.prog.cellsOf 121 = 64 := by kernel_rfl
theorem byte_cells : Tryz.prog.cellsOf 5 = 1 := by kernel_rfl

theorem tab_of_laid {W : World} (h : laidMet Tryz.prog laidTab W) : Tab W := by
  rw [laid_is] at h
  have hT := Lib.tabIs_of_head tab_name tab_type Tryz.underlying121 Tryz.underlying5 byte_cells tab_cells h
  intro j hj
  rw [World.var?_cell tab_name hT j]
  simp [List.getD, hj]

/-- a world that has it -/
noncomputable def laidWorld (os : Os) : World :=
  let w0 := World.holding Tryz.prog os ⟨#[], #[], []⟩
  { w0 with heap := w0.heap.modify 1 fun
      | .cells _ t frozen => .cells (Lib.deBruijn64tab.map fun n : Nat => Value.int .u8 (n : Int)).toArray t frozen
      | o => o }
theorem laid_met (os : Os) (args : Array Value) : laidMet Tryz.prog laidTab ((laidWorld os).forCall (fun _ _ => 0) ⟨#[], args, []⟩).memory :=
  laidMet_of_run' 8 (by kernel_rfl) (by kernel_rfl)

/-- what a law is told of a slice of integers that came in -/
def IsRow (k : IntKind) (w : World) (a : Option Addr) (len cap : Nat) (zs : List Int) : Prop :=
  (a = none ∧ len = 0 ∧ cap = 0 ∧ zs = []) ∨
  ∃ x, a = some x ∧ len ≤ cap ∧ cap ≤ maxLen ∧ zs.length = cap ∧ (∀ i, i < zs.length → w.cell? (x.add i) = some (.int k (zs.getD i 0))) ∧ ∀ n ∈ zs, (Lit.int k n).wf = true

theorem IsRow.lv {w : World} {a : Option Addr} {len cap : Nat} {zs : List Int} (h : IsRow .u64 w a len cap zs) : ∃ l, Lv w a len cap l := by
  rcases h with ⟨rfl, rfl, rfl, rfl⟩ | ⟨x, rfl, h1, h2, h3, h4, h5⟩
  · exact ⟨[], lv_nil w⟩
  · have hl : (zs.take len).length = len := by rw [List.length_take]; omega
    have hD : ∀ k, k < len → zs.getD k 0 = D (zs.take len) k := fun k hk => by
      rw [D_take, if_pos hk]
      rfl
    refine ⟨zs.take len, hl, ⟨by omega, h2, fun hn => ⟨x, rfl, ?_, fun k hk => ?_⟩⟩, fun n hn => ?_⟩
    · have := h4 0 (by omega)
      rcases Nat.lt_or_ge x.block w.heap.size with g | g
      · exact g
      · have e : x.add 0 = x := by simp [Addr.add]
        rw [e] at this
        simp [World.cell?, Array.getElem?_eq_none g] at this
    · rw [hl] at hk
      rw [h4 k (by omega), hD k hk]
    · have := bounds_u64 (h5 n (List.mem_of_mem_take hn))
      omega
end Go.Proofs.YtcdbjlmegkcaiaaGreatDoor
namespace Go.Proofs.YtcdbjlmegkcaiaaGreatDoor
open Go.RowKit
set_option linter.unusedVariables false

end Go.Proofs.YtcdbjlmegkcaiaaGreatDoor
namespace Go.Proofs.YtcdbjlmegkcaiaaGreatDoor
open Go.RowKit
set_option linter.unusedVariables false

/-- a number without an error -/
def GoodV (v : Int) (w : World) (e : Ending) (w' : World) : Prop :=
  ∃ l A c, e = .returned (.tuple #[.slice A l.length c, .int .i64 0]) ∧ Normal l ∧ Hid (val 18446744073709551616 l = v) ∧ l.length ≤ 4096 ∧ Lv w' A l.length c l ∧ Below w.heap.size w w'
theorem Made2.goodV {v : Int} {w w' : World} {e : Ending} (h : Made2 v w e w') (hv : v < 18446744073709551616 ^ 4096) : GoodV v w e w' := by
  obtain ⟨s, A, c, h1, h2, h3, h4, h5, h6⟩ := h
  exact ⟨s, A, c, h1, h3, h4, length_le_of_lt (b := 18446744073709551616) (by omega) h2 h3 (by rw [h4]; exact hv), ⟨rfl, h5.nums, h2⟩, h6⟩
theorem nuq {l s : List Int} (h1 : Lim 18446744073709551616 l) (h2 : Normal l) (h3 : Lim 18446744073709551616 s) (h4 : Normal s) (hv : val 18446744073709551616 l = val 18446744073709551616 s) : l = s :=
  normal_unique (b := 18446744073709551616) (by omega) h1 h3 h2 h4 hv
theorem Lv.nonneg {A : Option Addr} {n c : Nat} {l : List Int} {w : World} (h : Lv w A n c l) : 0 ≤ val 18446744073709551616 l := (val_bound (by omega) h.2.2).1
theorem Lv.less {A : Option Addr} {n c k : Nat} {l : List Int} {w : World} (h : Lv w A n c l) (hk : n ≤ k) : val 18446744073709551616 l < 18446744073709551616 ^ k :=
  Int.lt_of_lt_of_le (val_bound (by omega) h.2.2).2 (pow_le' (by omega) (by rw [h.1]; exact hk))
theorem okl_nil : Okl [] := ⟨Lim.nil _, Normal.nil, by simp⟩

theorem b_pow (B k T : Nat) (hB : B ≤ 10 ^ 20) (hT : 20 * k ≤ T) : B ^ k ≤ 10 ^ T :=
  Nat.le_trans (Nat.pow_le_pow_left hB k) (by rw [← Nat.pow_mul]; exact Nat.pow_le_pow_right (by decide) hT)
theorem txt_ok60 {A : Option Addr} {n c : Nat} {l : List Int} {w : World} (h : Lv w A n c l) (hn : n ≤ 60) : OkText (txt (val 18446744073709551616 l).toNat) := by
  have h0 := h.nonneg
  have h1 := h.less hn
  have h2 := b_pow 18446744073709551616 60 78914 (by decide) (by decide)
  have h4 : ((18446744073709551616 ^ 60 : Nat) : Int) = 18446744073709551616 ^ 60 := Int.natCast_pow _ _
  rw [← h4] at h1
  apply txt_ok
  generalize (10 : Nat) ^ 78914 = T at *
  generalize (18446744073709551616 : Nat) ^ 60 = Q at *
  omega
section
variable {A A2 : Option Addr} {n m c c2 : Nat} {l s : List Int} {w : World} (h : Lv w A n c l) (h2 : Lv w A2 m c2 s) (hn : n ≤ 4096) (hm : m ≤ 4096)
include h hn
include h2 hm
theorem Add_val (hv : val 18446744073709551616 l + val 18446744073709551616 s < 18446744073709551616 ^ 4096) : Calls Tryz.prog 85 #[.slice A n c, .slice A2 m c2] w (GoodV (val 18446744073709551616 l + val 18446744073709551616 s) w) := by
  have := Add_any A c l A2 c2 s w h.2.1 h.2.2 h2.2.1 h2.2.2 (norm_le h.1 hn) (norm_le h2.1 hm) hv
  rw [h.1, h2.1] at this
  exact this.mono fun e w' q => q.goodV hv
theorem Mul_val (hv : val 18446744073709551616 l * val 18446744073709551616 s < 18446744073709551616 ^ 4096) : Calls Tryz.prog 61 #[.slice A n c, .slice A2 m c2] w (GoodV (val 18446744073709551616 l * val 18446744073709551616 s) w) := by
  have := Mul_any A c l A2 c2 s w h.2.1 h.2.2 h2.2.1 h2.2.2 (norm_le h.1 hn) (norm_le h2.1 hm) hv
  rw [h.1, h2.1] at this
  exact this.mono fun e w' q => q.goodV hv
theorem Sub_val (hv : val 18446744073709551616 s ≤ val 18446744073709551616 l) : Calls Tryz.prog 87 #[.slice A n c, .slice A2 m c2] w (GoodV (val 18446744073709551616 l - val 18446744073709551616 s) w) := by
  have h0 := h2.nonneg
  have h1 := h.less hn
  have := Sub_any A c l A2 c2 s w h.2.1 h.2.2 h2.2.1 h2.2.2 (norm_le h.1 hn) (norm_le h2.1 hm) hv
  rw [h.1, h2.1] at this
  exact this.mono fun e w' q => q.goodV (Int.lt_of_le_of_lt (Int.sub_le_self _ h0) h1)
end
theorem rings_bound {a b c : Int} (a0 : 0 ≤ a) (b0 : 0 ≤ b) (c0 : 0 ≤ c) (a1 : a < 18446744073709551616 ^ 30) (b1 : b < 18446744073709551616 ^ 30) (c1 : c < 18446744073709551616 ^ 30) :
    a + b < 18446744073709551616 ^ 4096 ∧ (a + b) * c < 18446744073709551616 ^ 4096 ∧ a * c < 18446744073709551616 ^ 4096 ∧ c * b < 18446744073709551616 ^ 4096 ∧ a * c + c * b < 18446744073709551616 ^ 4096 := by
  have e : (18446744073709551616 : Int) ^ 61 ≤ 18446744073709551616 ^ 4096 := pow_le' (by omega) (by omega)
  have e2 : (18446744073709551616 : Int) ^ 61 = 18446744073709551616 ^ 30 * 18446744073709551616 ^ 30 * 18446744073709551616 := by rw [← Int.pow_add, ← Int.pow_succ]
  have hp : (1 : Int) ≤ 18446744073709551616 ^ 30 := Int.pow_pos (by omega)
  generalize (18446744073709551616 : Int) ^ 4096 = K at *
  generalize (18446744073709551616 : Int) ^ 61 = Q at *
  generalize (18446744073709551616 : Int) ^ 30 = P at *
  have h1 : a * c ≤ P * P := Int.mul_le_mul (by omega) (by omega) (by omega) (by omega)
  have h2 : c * b ≤ P * P := Int.mul_le_mul (by omega) (by omega) (by omega) (by omega)
  have h3 : (a + b) * c = a * c + c * b := by rw [Int.add_mul, Int.mul_comm b c]
  have h4 : 1 * P ≤ P * P := Int.mul_le_mul_of_nonneg_right hp (by omega)
  have h5 : 0 ≤ a * c := Int.mul_nonneg a0 c0
  have h6 : 0 ≤ c * b := Int.mul_nonneg c0 b0
  rw [h3]
  generalize P * P = R at *
  generalize a * c = X at *
  generalize c * b = Y at *
  refine ⟨by omega, by omega, by omega, by omega, by omega⟩

end Go.Proofs.YtcdbjlmegkcaiaaGreatDoor
