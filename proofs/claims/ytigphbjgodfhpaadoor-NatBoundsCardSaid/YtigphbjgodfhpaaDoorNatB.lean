/-
  Layer 2, walks, part one: the library's words of 64 bits; limbs; the noughts at the end.
-/
import Derived.Test.YtigphbjgodfhpaaDoorProg
import Derived.Test.YtigphbjgodfhpaaDoorNatP
import Derived.Test.YtigphbjgodfhpaaDoorShelf
import Derived.WalkKit
import Derived.WalkSpells
import Derived.WalkLawsBesides
import Derived.Deep.QuietTactic
import Derived.BigQuiet
import Derived.Lib.Hide
import Derived.Laws.Externs
import Derived.Shelf.Spec.BitsCarry
import Derived.Outline
namespace Go.Proofs.YtigphbjgodfhpaaDoor
open Go.RowKit
set_option linter.unusedVariables false

theorem ret_int {k : IntKind} {a b : Int} (h : a = b) : Ending.returned (.int k a) = .returned (.int k b) := by rw [h]
theorem ret_bool {a b : Bool} (h : a = b) : Ending.returned (.bool a) = .returned (.bool b) := by rw [h]

set_option maxHeartbeats 400000 in
theorem limb_in (A : Option Addr) (c : Nat) (l : List Int) (k : Nat) (w : World) (B : Nat) (h : Nums w B A c l) (hk : k < l.length) :
    Calls Tryd.prog 66 #[.slice A l.length c, .int .i64 k] w fun e w' => e = .returned (.int .u64 (D l k)) ∧ w = w' := by
  have hm := h.length
  obtain ⟨ad, rfl, hb, hc⟩ := h.at_ hk
  go_enter Tryd.func66, Tryd.ntmps66
  go_wp2
  go_ret
  exact ⟨rfl, rfl⟩

set_option maxHeartbeats 400000 in
theorem limb_out (A : Option Addr) (c : Nat) (l : List Int) (k : Nat) (w : World) (B : Nat) (h : Nums w B A c l) (hk : l.length ≤ k) :
    Calls Tryd.prog 66 #[.slice A l.length c, .int .i64 k] w fun e w' => e = .returned (.int .u64 (D l k)) ∧ w = w' := by
  have hm := h.length
  rw [D_out hk]
  go_enter Tryd.func66, Tryd.ntmps66
  go_wp2
  go_ret
  exact ⟨rfl, rfl⟩

theorem limb_any (A : Option Addr) (c : Nat) (l : List Int) (k : Nat) (w : World) (B : Nat) (h : Nums w B A c l) :
    Calls Tryd.prog 66 #[.slice A l.length c, .int .i64 k] w fun e w' => e = .returned (.int .u64 (D l k)) ∧ w = w' := by
  rcases Nat.lt_or_ge k l.length with hk | hk
  · exact limb_in A c l k w B h hk
  · exact limb_out A c l k w B h hk

theorem run_add (x y c : Int) (w : World) (hx : 0 ≤ x) (hx1 : x < 18446744073709551616) (hy : 0 ≤ y) (hy1 : y < 18446744073709551616) (hc : 0 ≤ c) (hc1 : c ≤ 1) :
    ∃ z d : Int, 0 ≤ z ∧ z < 18446744073709551616 ∧ 0 ≤ d ∧ d ≤ 1 ∧ x + y + c = z + d * 18446744073709551616 ∧
      (callFunc 76 #[.int .u64 x, .int .u64 y, .int .u64 c]).run Tryd.prog w = .ok (.value (.tuple #[.int .u64 z, .int .u64 d])) w := by
  obtain ⟨x, rfl⟩ := Int.eq_ofNat_of_zero_le hx
  obtain ⟨y, rfl⟩ := Int.eq_ofNat_of_zero_le hy
  obtain ⟨c, rfl⟩ := Int.eq_ofNat_of_zero_le hc
  refine ⟨((x + y + c) % 18446744073709551616 : Nat), ((x + y + c) / 18446744073709551616 : Nat), by omega, by omega, by omega, by omega, by omega, ?_⟩
  rw [run_callFunc_extern Tryd.func76 (by kernel_rfl) (by kernel_rfl) (by kernel_rfl) (e := add64Entry) (by kernel_rfl), run_add64 x y c (by omega) (by omega) (by omega) (by omega)]
  simp only [Result.andThen]
  congr 5 <;> omega

theorem run_sub64' (x y b : Nat) (hb : b ≤ 1) (w : World) :
    (sub64Entry #[.int .u64 x, .int .u64 y, .int .u64 b]).run Tryd.prog w =
      .ok (.tuple #[.int .u64 (((x + 18446744073709551616 - y - b) % 18446744073709551616 : Nat) : Int), .int .u64 ((if x < y + b then 1 else 0 : Nat) : Int)]) w :=
  run_sub64 x y b hb w

theorem run_sub (x y c : Int) (w : World) (hx : 0 ≤ x) (hx1 : x < 18446744073709551616) (hy : 0 ≤ y) (hy1 : y < 18446744073709551616) (hc : 0 ≤ c) (hc1 : c ≤ 1) :
    ∃ z d : Int, 0 ≤ z ∧ z < 18446744073709551616 ∧ 0 ≤ d ∧ d ≤ 1 ∧ x - y - c = z - d * 18446744073709551616 ∧
      (callFunc 78 #[.int .u64 x, .int .u64 y, .int .u64 c]).run Tryd.prog w = .ok (.value (.tuple #[.int .u64 z, .int .u64 d])) w := by
  obtain ⟨x, rfl⟩ := Int.eq_ofNat_of_zero_le hx
  obtain ⟨y, rfl⟩ := Int.eq_ofNat_of_zero_le hy
  obtain ⟨c, rfl⟩ := Int.eq_ofNat_of_zero_le hc
  have hr : (callFunc 78 #[.int .u64 x, .int .u64 y, .int .u64 c]).run Tryd.prog w = .ok (.value (.tuple #[.int .u64 (((x + 18446744073709551616 - y - c) % 18446744073709551616 : Nat) : Int), .int .u64 ((if x < y + c then 1 else 0 : Nat) : Int)])) w := by
    rw [run_callFunc_extern Tryd.func78 (by kernel_rfl) (by kernel_rfl) (by kernel_rfl) (e := sub64Entry) (by kernel_rfl), run_sub64' x y c (by omega)]
    rfl
  exact ⟨_, _, by omega, by omega, by split <;> omega, by split <;> omega, by split <;> omega, hr⟩

/-- a step of a sum: the digit, and the carry into its cell -/
def SumStep (x y c : Int) (b : Nat) (w : World) (e : Ending) (w' : World) : Prop :=
  ∃ z d : Int, e = .returned (.int .u64 z) ∧ 0 ≤ z ∧ z < 18446744073709551616 ∧ 0 ≤ d ∧ d ≤ 1 ∧ Hid (x + y + c = z + d * 18446744073709551616) ∧ w.setCell ⟨b, 0, none⟩ (.int .u64 d) = w'
def DiffStep (x y c : Int) (b : Nat) (w : World) (e : Ending) (w' : World) : Prop :=
  ∃ z d : Int, e = .returned (.int .u64 z) ∧ 0 ≤ z ∧ z < 18446744073709551616 ∧ 0 ≤ d ∧ d ≤ 1 ∧ Hid (x - y - c = z - d * 18446744073709551616) ∧ w.setCell ⟨b, 0, none⟩ (.int .u64 d) = w'

set_option maxHeartbeats 400000 in
theorem sumstep_any (x y c : Int) (b : Nat) (w : World) (h : Row w b [c]) (hx : 0 ≤ x) (hx1 : x < 18446744073709551616) (hy : 0 ≤ y) (hy1 : y < 18446744073709551616) (hc : 0 ≤ c) (hc1 : c ≤ 1) :
    Calls Tryd.prog 75 #[.int .u64 x, .int .u64 y, .pointer (some ⟨b, 0, none⟩)] w (SumStep x y c b w) := by
  have h0 := h.cell (k := 0) (by simp)
  have hf := h.frozen 0
  simp only [D_cons_zero] at h0
  obtain ⟨z, d, hz0, hz1, hd0, hd1, he, hr⟩ := run_add x y c w hx hx1 hy hy1 hc hc1
  have HE := Lib.hid he
  clear he
  go_enter Tryd.func75, Tryd.ntmps75
  go_wp2
  go_ret
  exact ⟨z, d, rfl, hz0, hz1, hd0, hd1, HE, rfl⟩

set_option maxHeartbeats 400000 in
theorem diffstep_any (x y c : Int) (b : Nat) (w : World) (h : Row w b [c]) (hx : 0 ≤ x) (hx1 : x < 18446744073709551616) (hy : 0 ≤ y) (hy1 : y < 18446744073709551616) (hc : 0 ≤ c) (hc1 : c ≤ 1) :
    Calls Tryd.prog 77 #[.int .u64 x, .int .u64 y, .pointer (some ⟨b, 0, none⟩)] w (DiffStep x y c b w) := by
  have h0 := h.cell (k := 0) (by simp)
  have hf := h.frozen 0
  simp only [D_cons_zero] at h0
  obtain ⟨z, d, hz0, hz1, hd0, hd1, he, hr⟩ := run_sub x y c w hx hx1 hy hy1 hc hc1
  have HE := Lib.hid he
  clear he
  go_enter Tryd.func77, Tryd.ntmps77
  go_wp2
  go_ret
  exact ⟨z, d, rfl, hz0, hz1, hd0, hd1, HE, rfl⟩

set_option maxHeartbeats 400000 in
theorem givestep_any (x y c : Int) (b : Nat) (w : World) (h : Row w b [c]) (hx : 0 ≤ x) (hx1 : x < 18446744073709551616) (hy : 0 ≤ y) (hy1 : y < 18446744073709551616) (hc : 0 ≤ c) (hc1 : c ≤ 1) :
    Calls Tryd.prog 100 #[.int .u64 x, .int .u64 y, .pointer (some ⟨b, 0, none⟩)] w (SumStep x y c b w) := by
  have h0 := h.cell (k := 0) (by simp)
  have hf := h.frozen 0
  simp only [D_cons_zero] at h0
  obtain ⟨z, d, hz0, hz1, hd0, hd1, he, hr⟩ := run_add x y c w hx hx1 hy hy1 hc hc1
  have HE := Lib.hid he
  clear he
  go_enter Tryd.func100, Tryd.ntmps100
  go_wp2
  go_ret
  exact ⟨z, d, rfl, hz0, hz1, hd0, hd1, HE, rfl⟩

/-! ### the noughts at the end -/
def TrimPost (A : Option Addr) (c : Nat) (l : List Int) (w : World) (e : Ending) (w' : World) : Prop :=
  ∃ A' c', e = .returned (.slice A' (norm l).length c') ∧ Trims A c A' c' (norm l) ∧ w = w'

set_option maxHeartbeats 1000000 in
theorem trim_any (A : Option Addr) (c : Nat) (l : List Int) (w : World) (B : Nat) (h : Nums w B A c l) (hl : Lim 18446744073709551616 l) :
    Calls Tryd.prog 72 #[.slice A l.length c] w (TrimPost A c l w) := by
  have hm := h.length
  have hle := h.le
  have hmax := h.max'
  go_enter Tryd.func72, Tryd.ntmps72
  go_wp2_with fail
  go_loop [0] (fun s => ∃ k : Nat, k ≤ l.length ∧ (∀ i, k ≤ i → D l i = 0) ∧ s = .slice A k c) (fun s => match s with | .slice _ n _ => n | _ => 0)
  case atStart => exact ⟨l.length, Nat.le_refl _, fun i hi => D_out hi, rfl⟩
  case round =>
    obtain ⟨k, hk, hz, rfl⟩ := hrel
    have HZ := Lib.hid hz
    clear hz
    rcases Nat.eq_zero_or_pos k with h0 | h0
    · subst h0
      go_wp2_with fail
      go_ret
      have e := norm_is (by omega) hl (Nat.zero_le _) HZ.out (.inl rfl)
      exact ⟨none, 0, by rw [e]; rfl, .inl ⟨rfl, rfl, by rw [e]; rfl⟩, rfl⟩
    · obtain ⟨ad, rfl, hb, hc⟩ := h.at_ (k := k - 1) (by omega)
      have h1 : (1 : Int) ≤ k := by omega
      have e1 : ((k : Int) - 1).toNat = k - 1 := by omega
      by_cases hd : D l (k - 1) = 0
      · rw [hd] at hc
        have HD := Lib.hid hd
        clear hd
        go_wp2_with fail
        go_round
        case rel =>
          refine ⟨k - 1, by omega, fun i hi => ?_, rfl⟩
          rcases Nat.lt_or_ge i k with h2 | h2
          · obtain rfl : i = k - 1 := by omega
            exact HD.out
          · exact HZ.out i h2
        case measure => simp; omega
      · have hd' : (D l (k - 1) == 0) = false := by simpa using hd
        have hk0 : ((k : Int) == 0) = false := by simp; omega
        go_wp2_with fail
        go_ret
        have e := norm_is (by omega) hl hk HZ.out (.inr hd)
        have e2 : (norm l).length = k := by rw [e, List.length_take]; omega
        exact ⟨_, _, by rw [e2]; rfl, .inr ⟨rfl, rfl, fun h3 => by rw [h3] at e2; simp at e2; omega⟩, rfl⟩

/-! ### copies; what was handed in -/
/-- a new slice of the call's own that reads as l -/
def NewPost (l : List Int) (w : World) (e : Ending) (w' : World) : Prop :=
  ∃ A c, e = .returned (.slice A l.length c) ∧ Own w' w.heap.size A c l ∧ Below w.heap.size w w'

set_option maxHeartbeats 1000000 in
theorem clone_any (A : Option Addr) (c : Nat) (l : List Int) (w : World) (h : Nums w w.heap.size A c l) (hlen : l.length ≤ 1000000) :
    Calls Tryd.prog 52 #[.slice A l.length c] w (NewPost l w) := by
  go_enter Tryd.func52, Tryd.ntmps52
  go_wp2_with (at_builtin; refine wpList_app _ rfl _ _ rfl w.heap.size none 0 [] rfl (Own.nil w _) w.heap.size A c l rfl h (by simp; omega) (Nat.le_refl _) ?_; intro A2 c2 w' hown hg hat)
  go_ret
  exact ⟨A2, c2, rfl, hown, below_app (Below.refl _ _) (Own.nil w _) hg (Nat.le_refl _)⟩

set_option maxHeartbeats 1000000 in
theorem of_any (n : Int) (w : World) (h0 : 0 ≤ n) (h1 : n < 18446744073709551616) :
    Calls Tryd.prog 47 #[.int .u64 n] w (NewPost (norm [n]) w) := by
  have hl : Lim 18446744073709551616 [n] := fun x hx => by simp at hx; omega
  have hrow := Row.one w n
  have hn : Nums (w.alloc (.cells #[.int .u64 n] 39)) (w.heap.size + 1) (some ⟨w.heap.size, 0, none⟩) 1 [n] := by
    have := hrow.nums (B := w.heap.size + 1) (c := 1) 0 1 (by simp) (by omega) (by unfold maxLen; omega) (by omega)
    simpa using this
  go_enter Tryd.func47, Tryd.ntmps47
  go_wp2_with (go_at_call 72; refine (trim_any (some ⟨w.heap.size, 0, none⟩) 1 [n] _ _ hn hl).mono ?_; rintro e w' ⟨A', c', rfl, ht, rfl⟩)
  go_ret
  exact ⟨A', c', rfl, ht.row hrow (by simp; unfold maxLen; omega) (Nat.le_refl _), (Below.refl _ _).alloc (Nat.le_refl _) _⟩

/-- what 'taken' hands back: the slice without its noughts -/
def TakenPost (A : Option Addr) (c : Nat) (l : List Int) (w : World) (e : Ending) (w' : World) : Prop :=
  ∃ A' c', e = .returned (.tuple #[.slice A' (norm l).length c', .int .i64 0]) ∧ Trims A c A' c' (norm l) ∧ w = w'

set_option maxHeartbeats 1000000 in
theorem taken_any (A : Option Addr) (c : Nat) (l : List Int) (w : World) (B : Nat) (h : Nums w B A c l) (hl : Lim 18446744073709551616 l) (hlen : (norm l).length ≤ 4096) :
    Calls Tryd.prog 51 #[.slice A l.length c] w (TakenPost A c l w) := by
  go_enter Tryd.func51, Tryd.ntmps51
  go_wp2_with (go_at_call 72; refine (trim_any A c l _ _ h hl).mono ?_; rintro e w' ⟨A', c', rfl, ht, rfl⟩)
  go_ret2
  exact ⟨A', c', rfl, ht, rfl⟩

set_option maxHeartbeats 1000000 in
theorem taken_long (A : Option Addr) (c : Nat) (l : List Int) (w : World) (B : Nat) (h : Nums w B A c l) (hl : Lim 18446744073709551616 l) (hlen : 4096 < (norm l).length) :
    Calls Tryd.prog 51 #[.slice A l.length c] w fun e w' => e = .returned (.tuple #[.slice none 0 0, .int .i64 2]) ∧ w = w' := by
  have hn := norm_length l
  have hm := h.length
  go_enter Tryd.func51, Tryd.ntmps51
  go_wp2_with (go_at_call 72; refine (trim_any A c l _ _ h hl).mono ?_; rintro e w' ⟨A', c', rfl, ht, rfl⟩)
  go_ret2
  exact ⟨rfl, rfl⟩

def BothPost (A : Option Addr) (c : Nat) (l : List Int) (A2 : Option Addr) (c2 : Nat) (m : List Int) (w : World) (e : Ending) (w' : World) : Prop :=
  ∃ A' c' A2' c2', e = .returned (.tuple #[.slice A' (norm l).length c', .slice A2' (norm m).length c2', .int .i64 0]) ∧ Trims A c A' c' (norm l) ∧ Trims A2 c2 A2' c2' (norm m) ∧ w = w'

set_option maxHeartbeats 1000000 in
theorem both_any (A : Option Addr) (c : Nat) (l : List Int) (A2 : Option Addr) (c2 : Nat) (m : List Int) (w : World) (B : Nat) (h : Nums w B A c l) (hl : Lim 18446744073709551616 l) (hlen : (norm l).length ≤ 4096)
    (h2 : Nums w B A2 c2 m) (hl2 : Lim 18446744073709551616 m) (hlen2 : (norm m).length ≤ 4096) :
    Calls Tryd.prog 49 #[.slice A l.length c, .slice A2 m.length c2] w (BothPost A c l A2 c2 m w) := by
  go_enter Tryd.func49, Tryd.ntmps49
  go_wp2_with (first
    | (go_at_call 51; ((with_reducible refine (taken_any A c l _ _ h hl hlen).mono ?_); rintro e w' ⟨A', c', rfl, ht, rfl⟩))
    | (go_at_call 51; ((with_reducible refine (taken_any A2 c2 m _ _ h2 hl2 hlen2).mono ?_); rintro e w' ⟨A2', c2', rfl, ht2, rfl⟩)))
  go_ret3
  exact ⟨A', c', A2', c2', rfl, ht, ht2, rfl⟩
theorem taken_nil (w : World) : Calls Tryd.prog 51 #[.slice none 0 0] w (TakenPost none 0 [] w) := taken_any none 0 [] w 0 (Nums.nil _ _) (Lim.nil _) (by simp [norm])

set_option maxHeartbeats 1000000 in
theorem both_long_nil (A : Option Addr) (c : Nat) (l : List Int) (w : World) (B : Nat) (h : Nums w B A c l) (hl : Lim 18446744073709551616 l) (hlen : 4096 < (norm l).length) :
    Calls Tryd.prog 49 #[.slice A l.length c, .slice none 0 0] w fun e w' => e = .returned (.tuple #[.slice none 0 0, .slice none 0 0, .int .i64 2]) ∧ w = w' := by
  go_enter Tryd.func49, Tryd.ntmps49
  go_wp2_with (first
    | (go_at_call 51; ((with_reducible refine (taken_long A c l _ _ h hl hlen).mono ?_); rintro e w' ⟨rfl, rfl⟩))
    | (go_at_call 51; ((with_reducible refine (taken_nil _).mono ?_); rintro e w' ⟨A2', c2', rfl, ht2, rfl⟩)))
  go_ret3
  exact ⟨rfl, rfl⟩
end Go.Proofs.YtigphbjgodfhpaaDoor
