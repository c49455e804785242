/-
  Joined (by wip/tools/joinM.py) of BdO, BdP, BdQ, BdR, BdS, BdT, BdU.
-/
import Derived.Test.YtbaeabmmokgomaaNB1
import Derived.Test.YtbaeabmmokgomaaMJGuF
import Derived.Test.YtbaeabmmokgomaaMJBitsA
import Derived.Below
import Derived.OneCell
import Derived.Laws.OwnMore
import Derived.Laws.Rows
import Derived.Deep.AppendLies
import Derived.Deep.Draws
import Derived.OwnWalk
import Derived.Maps.AppendAt
import Derived.RegionTactic
import Derived.KernelRfl
import Derived.WalkKit
import Derived.WalkSpells
import Derived.WalkLawsBesides
import Derived.Deep.QuietTactic
import Derived.BigQuiet
import Derived.Lib.Hide
import Derived.Laws.Externs
import Derived.Outline
import Derived.Deep.RegionHeld3
import Derived.Deep.RegionWith
import Derived.WalkMore
import Derived.Deep.Cut
import Derived.Handy
import Derived.OrdersHeld
import Derived.Deep.RegionHeld
import Derived.OrdersIn
namespace Go.Proofs.Ytbaeabmmokgomaa
open Go.RowKit Go.Bw
attribute [local go_sem] run_store_float
set_option linter.unusedVariables false
set_option linter.unusedSimpArgs false
section
theorem all_true {P : Int → Bool} {l : List Int} (h : ∀ k, k < l.length → P (D l k) = true) : l.all P = true := by
  rw [List.all_eq_true]
  intro x hx
  obtain ⟨k, hk, rfl⟩ := List.mem_iff_getElem.1 hx
  have := h k hk
  rwa [D_in hk] at this
theorem all_false {P : Int → Bool} {l : List Int} {k : Nat} (hk : k < l.length) (h : P (D l k) = false) : l.all P = false := by
  rw [List.all_eq_false]
  refine ⟨l[k], List.getElem_mem hk, ?_⟩
  rw [D_in hk] at h
  rw [h]; simp
end
section
attribute [local go_sem] run_store_float

set_option maxHeartbeats 400000 in
theorem mNaN_any {x : Nat} (hx : x ≤ 18446744073709551615) (w : World) : Calls Try.prog 67 #[.float .f64 x] w (Ret (.bool (isN x)) w) := by
  have h9 := ne_is x hx
  generalize isN x = b at *
  go_enter Try.func67, Try.ntmps67
  go_wp2_with fail
  go_ret
  exact ⟨by first | rfl | simp [h9], rfl⟩
set_option maxHeartbeats 400000 in
theorem mAbs_any {x : Nat} (hx : x ≤ 18446744073709551615) (w : World) : Calls Try.prog 77 #[.float .f64 x] w (Ret (.float .f64 (x % 9223372036854775808)) w) := by
  have hb := run_float64bits x
  have hf := run_float64frombits (x % 9223372036854775808 : Nat)
  rw [Int.toNat_natCast] at hf
  have e1 : bits .andNot .u64 (x : Int) 9223372036854775808 = ((x % 9223372036854775808 : Nat) : Int) := by
    rw [andnot_sign _ (by omega) (by omega)]; unfold mag; omega
  generalize x % 9223372036854775808 = y at *
  go_enter Try.func77, Try.ntmps77
  go_wp2_with fail
  go_ret
  exact ⟨rfl, rfl⟩
theorem gt_max9 {x : Nat} (hx : x ≤ 18446744073709551615) (hn : isN x = false) : (FloatKind.f64.format.order (x % 9223372036854775808) 9218868437227405311 == some .gt) = !fin (x : Int) := by
  have h9 := notN_le hn
  cases hf : fin (x : Int)
  · have e : x % 9223372036854775808 = 9218868437227405312 := by
      unfold fin mag at hf
      have := of_decide_eq_false hf
      omega
    rw [e]; decide
  · have hf2 : x % 9223372036854775808 < 9218868437227405312 := by
      unfold fin mag at hf
      have := of_decide_eq_true hf
      omega
    have h := (order_lt (x % 9223372036854775808) 9218868437227405311 (by omega) (by omega) (by unfold fin mag; simp; omega) (by decide)).2.1
    rw [h]
    refine decide_eq_false ?_
    unfold sm mag
    split <;> omega
set_option maxHeartbeats 400000 in
theorem mInf_any {x : Nat} (hx : x ≤ 18446744073709551615) (hn : isN x = false) (w : World) : Calls Try.prog 68 #[.float .f64 x, .int .i64 0] w (Ret (.bool (!fin (x : Int))) w) := by
  have hg := gt_max9 hx hn
  generalize fin (x : Int) = b at *
  go_enter Try.func68, Try.ntmps68
  go_wp2_with fail
  with_reducible refine (mAbs_any hx _).mono ?_
  rintro e w1 ⟨rfl, rfl⟩
  cases b
  · go_wp2_with fail
    go_ret
    exact ⟨rfl, rfl⟩
  · go_wp2_with fail
    go_ret
    exact ⟨rfl, rfl⟩
theorem fin_nan {x : Nat} (h : isN x = true) : fin (x : Int) = false := by
  unfold isN at h
  have := of_decide_eq_true h
  unfold fin mag
  exact decide_eq_false (by omega)
set_option maxRecDepth 100000 in
set_option maxHeartbeats 4000000 in
theorem rFinite13_any {A : Option Addr} {n c : Nat} {l : List Int} {w : World} (h : FL w A n c l) :
    Calls Try.prog 38 #[.slice A n c] w (Ret (.bool (l.all fin)) w) := by
  have hmx := h.max
  have hln := Lib.hid h.1
  have H0 := Lib.hid (show ∀ k, k < l.length → fin (D l k) = false → l.all fin = false from fun k hk h => all_false hk h)
  have H1 := Lib.hid (show (∀ k, k < l.length → fin (D l k) = true) → l.all fin = true from fun h => all_true h)
  generalize hV : l.all fin = V at *
  clear hV
  go_enter Try.func38, Try.ntmps38
  go_wp2_with fail
  go_loop [3] (fun i => ∃ k : Nat, k ≤ n ∧ i = .int .i64 k ∧ Hid (∀ j, j < k → fin (D l j) = true)) (fun i => n - (intOf i).toNat)
  case atStart => exact ⟨0, Nat.zero_le _, rfl, Lib.hid (fun j hj => by omega)⟩
  case round =>
    obtain ⟨k, hk, rfl, HK⟩ := hrel
    by_cases hlt : k < n
    · obtain ⟨ad, rfl, hb, hc⟩ := h.at_ hlt
      obtain ⟨x0, x1⟩ := h.2.2.at_ k
      have i0 : (0 : Int) ≤ k := by omega
      have i1 : (k : Int) < n := by omega
      obtain ⟨X, hX⟩ : ∃ X, (D l k).toNat = X := ⟨_, rfl⟩
      have bX : X ≤ 18446744073709551615 := by omega
      have HX : Hid (D l k = (X : Int)) := Lib.hid (by omega)
      rw [hX] at hc
      clear hX
      have pn := fun W => mNaN_any bX W
      cases hN : isN X
      · have pi := fun W => mInf_any bX hN W
        rw [hN] at pn
        cases hP2 : fin (X : Int)
        · have hf : V = false := H0.out k (by rw [hln.out]; exact hlt) (by rw [HX.out]; exact hP2)
          subst hf
          rw [hP2] at pi
          go_wp2_with fail
          with_reducible refine (pn _).mono ?_
          rintro e9 w' ⟨rfl, rfl⟩
          go_wp2_with fail
          with_reducible refine (pi _).mono ?_
          rintro e9 w' ⟨rfl, rfl⟩
          go_wp2_with fail
          go_ret
          exact ⟨rfl, rfl⟩
        · have HK2 := Lib.hid (show ∀ j, j < k + 1 → fin (D l j) = true from fun j hj => by
            rcases Nat.lt_or_ge j k with g | g
            · exact HK.out j g
            · obtain rfl : j = k := by omega
              rw [HX.out]; exact hP2)
          rw [hP2] at pi
          go_wp2_with fail
          with_reducible refine (pn _).mono ?_
          rintro e9 w' ⟨rfl, rfl⟩
          go_wp2_with fail
          with_reducible refine (pi _).mono ?_
          rintro e9 w' ⟨rfl, rfl⟩
          go_wp2_with fail
          go_round
          case rel => exact ⟨k + 1, by omega, by go_num, HK2⟩
          case measure => simp [intOf]; omega
      · have hf : V = false := H0.out k (by rw [hln.out]; exact hlt) (by rw [HX.out]; exact fin_nan hN)
        subst hf
        rw [hN] at pn
        go_wp2_with fail
        with_reducible refine (pn _).mono ?_
        rintro e9 w' ⟨rfl, rfl⟩
        go_wp2_with fail
        go_ret
        exact ⟨rfl, rfl⟩
    · obtain rfl : k = n := by omega
      have hf : V = true := H1.out (fun j hj => HK.out j (by rw [hln.out] at hj; exact hj))
      subst hf
      go_wp2_with fail
      go_ret
      exact ⟨rfl, rfl⟩
end
end Go.Proofs.Ytbaeabmmokgomaa
namespace Go.Proofs.Ytbaeabmmokgomaa
open Go.RowKit Go.Bw
set_option linter.unusedVariables false
set_option linter.unusedSimpArgs false
/-- the error of a matrix -/
def askC (R C : Int) (n : Nat) (l : List Int) : Int := if mayB R C n = false then 2 else if R < C then 8 else if l.all fin = false then 10 else 0
set_option maxRecDepth 100000 in
set_option maxHeartbeats 4000000 in
theorem rAsk11_any {R C : Int} {A : Option Addr} {n c : Nat} {l : List Int} {w : World} (h : FL w A n c l) :
    Calls Try.prog 11 #[mV R C A n c] w (Ans w (.int .i64 (askC R C n l))) := by
  have hmx := h.max
  have DB := Blk.new w [.int .i64 R, .int .i64 C, .slice A n c] 24
  have bz := (Below.refl _ w).alloc (Nat.le_refl _) (.cells #[.int .i64 R, .int .i64 C, .slice A n c] 24)
  replace h := h.on bz
  have pm := fun W => rMay11_any (R := R) (C := C) (A := A) (n := n) (c := c) (by omega) W
  obtain ⟨V, hV⟩ : ∃ V, askC R C n l = V := ⟨_, rfl⟩
  rw [hV]
  unfold askC at hV
  have HV := Lib.hid hV
  clear hV
  go_enter Try.func11, Try.ntmps11
  go_upto_region 1 with fail
  generalize w.alloc (.cells #[.int .i64 R, .int .i64 C, .slice A n c] 24) = W1 at DB bz h ⊢
  obtain ⟨t0, t1, t2, _, _, _⟩ := Mbx.cells DB
  cases hB : mayB R C n
  · rw [hB] at pm
    obtain rfl : 2 = V := by rw [← HV.out, if_pos hB]
    go_wp2_with fail
    with_reducible refine (pm _).mono ?_
    rintro e9 w2 ⟨rfl, hb⟩
    go_wp2_with fail
    go_ret
    exact ⟨rfl, bz.trans (hb.mono bz.size)⟩
  · rw [hB] at pm
    have hB2 : ¬ (mayB R C n = false) := by rw [hB]; decide
    by_cases hR : R < C
    · obtain rfl : 8 = V := by rw [← HV.out, if_neg hB2, if_pos hR]
      clear hB2
      go_wp2_with fail
      with_reducible refine (pm _).mono ?_
      rintro e9 w2 ⟨rfl, hb⟩
      replace DB := DB.on hb
      replace h := h.on hb
      replace bz := bz.trans (hb.mono bz.size)
      clear t0 t1 t2 hb pm
      obtain ⟨t0, t1, t2, _, _, _⟩ := Mbx.cells DB
      go_wp2_with fail
      go_ret
      exact ⟨rfl, bz⟩
    · have pf := fun W (h9 : FL W A n c l) => rFinite13_any h9
      cases hF : l.all fin
      · rw [hF] at pf
        obtain rfl : 10 = V := by rw [← HV.out, if_neg hB2, if_neg hR, if_pos hF]
        clear hB2
        go_wp2_with fail
        with_reducible refine (pm _).mono ?_
        rintro e9 w2 ⟨rfl, hb⟩
        replace DB := DB.on hb
        replace h := h.on hb
        replace bz := bz.trans (hb.mono bz.size)
        clear t0 t1 t2 hb pm
        obtain ⟨t0, t1, t2, _, _, _⟩ := Mbx.cells DB
        go_wp2_with fail
        with_reducible refine (pf _ h).mono ?_
        rintro e9 w3 ⟨rfl, rfl⟩
        go_wp2_with fail
        go_ret
        exact ⟨rfl, bz⟩
      · rw [hF] at pf
        obtain rfl : 0 = V := by rw [← HV.out, if_neg hB2, if_neg hR, if_neg (by rw [hF]; decide)]
        clear hB2
        go_wp2_with fail
        with_reducible refine (pm _).mono ?_
        rintro e9 w2 ⟨rfl, hb⟩
        replace DB := DB.on hb
        replace h := h.on hb
        replace bz := bz.trans (hb.mono bz.size)
        clear t0 t1 t2 hb pm
        obtain ⟨t0, t1, t2, _, _, _⟩ := Mbx.cells DB
        go_wp2_with fail
        with_reducible refine (pf _ h).mono ?_
        rintro e9 w3 ⟨rfl, rfl⟩
        go_wp2_with fail
        go_ret
        exact ⟨rfl, bz⟩
end Go.Proofs.Ytbaeabmmokgomaa
namespace Go.Proofs.Ytbaeabmmokgomaa
open Go.RowKit Go.Bw
set_option linter.unusedVariables false
set_option linter.unusedSimpArgs false
section
section
variable {w w' : World} {B B' c g : Nat} {A : Option Addr} {l : List Int}

end
section
variable (w : World)
end

section
variable {w w' : World} {g g' B : Nat} {vs : List Value}
end
section
variable {w w' : World} {A : Option Addr} {n c : Nat} {l : List Int}
end
section
variable {w : World} {g : Nat} {r s : Int} {A : Option Addr} {n c : Nat}
end
end
section
theorem ret_int {k : IntKind} {a b : Int} (h : a = b) : Ending.returned (.int k a) = .returned (.int k b) := by rw [h]
theorem ret_bool {a b : Bool} (h : a = b) : Ending.returned (.bool a) = .returned (.bool b) := by rw [h]
theorem below_drewN {B : Nat} {w w' : World} (h : Below B w w') (k : Nat) : Below B w (w'.drewN k) := ⟨h.os, h.tape, h.output, h.size, h.block⟩
section
variable {w : World} {K : Int}
end
end
section
open Go Go.RowKit Go.Bw
/-- the same float, all NaNs being one -/
def alikeB (x y : Int) : Bool := decide (one x = one y)
end
section
section
variable {P : Program} {ops : Array Oper} {Q : Exit → Act → World → Prop} {md : Region.Mode} {S : World → Prop}

end
end
section
attribute [local go_sem] Oper.semAt_some

/-! ### what abides a block that is no cells -/
/-- two lists of floats are the same, all NaNs being one -/
def sameL (a b : List Int) : Bool := decide (a.map one = b.map one)
theorem sameL_yes {a b : List Int} (hl : a.length = b.length) (h : ∀ k, k < a.length → alikeB (D a k) (D b k) = true) : sameL a b = true := by
  unfold sameL
  rw [decide_eq_true_iff]
  apply List.ext_getElem
  · simp [hl]
  · intro i h1 h2
    simp only [List.length_map] at h1 h2
    have := of_decide_eq_true (h i h1)
    rw [D_in h1, D_in h2] at this
    simpa using this
section
variable {w : World} {K K2 : Int} {B s g cap c n B2 s2 g2 cap2 c2 n2 : Nat} {l l2 : List Int}
end
end
section
section
variable {s c n : Nat} {K : Int}
end

section
variable {w : World} {K : Int} {B s g cap c : Nat} {l : List Int}
end
end
section
theorem cls_2 {x : Int} (a : (fld x == 2047) = false) (c : (fld x == 0) = true) (b : (frc x != 0) = true) : (2 : Int) = cls x := by
  simp at a b c; unfold cls; rw [if_neg a, if_pos c, if_neg b]
theorem cls_1 {x : Int} (a : (fld x == 2047) = false) (c : (fld x == 0) = true) (b : (frc x != 0) = false) : (1 : Int) = cls x := by
  simp at a b c; unfold cls; rw [if_neg a, if_pos c, if_pos b]
theorem cls_3 {x : Int} (a : (fld x == 2047) = false) (c : (fld x == 0) = false) : (3 : Int) = cls x := by
  simp at a c; unfold cls; rw [if_neg a, if_neg c]
theorem cls_4' {x : Int} (a : (fld x == 2047) = true) (b : (frc x == 0) = true) : (4 : Int) = cls x := by
  simp at a b; unfold cls; rw [if_pos a, if_pos b]
theorem cls_5' {x : Int} (a : (fld x == 2047) = true) (b : (frc x == 0) = false) : (5 : Int) = cls x := by
  simp at a b; unfold cls; rw [if_pos a, if_neg b]
theorem one_yes {x : Int} (h : (cls x == 5) = true) : nan = one x := by
  simp at h; unfold one; rw [if_pos h]
theorem one_no {x : Int} (h : (cls x == 5) = false) : x = one x := by
  simp at h; unfold one; rw [if_neg h]
set_option maxHeartbeats 400000 in
theorem rclass_any (x : Int) (h0 : 0 ≤ x) (h1 : x ≤ 18446744073709551615) (w : World) :
    Calls Try.prog 100 #[.int .u64 x] w fun e w' => e = .returned (.int .i64 (cls x)) ∧ w = w' := by
  have e1 := field_op x h0 h1
  have e2 := fraction_op x h0 h1
  have hb := fld_bd x
  have hc := frc_bd x
  go_enter Try.func100, Try.ntmps100
  go_wp2
  · go_ret; exact ⟨ret_int (cls_4' ‹_› ‹_›), rfl⟩
  · go_ret; exact ⟨ret_int (cls_5' ‹_› ‹_›), rfl⟩
  · have g : 0 < fld x := by assumption
    go_ret; exact ⟨ret_int (cls_3 ‹_› (by simp; omega)), rfl⟩
  · have g : fld x ≤ 0 := by assumption
    have g' : 0 < frc x := by assumption
    go_ret; exact ⟨ret_int (cls_2 ‹_› (by simp; omega) (by simp; omega)), rfl⟩
  · have g : fld x ≤ 0 := by assumption
    have g' : frc x ≤ 0 := by assumption
    go_ret; exact ⟨ret_int (cls_1 ‹_› (by simp; omega) (by simp; omega)), rfl⟩
set_option maxHeartbeats 400000 in
theorem rone_any (x : Int) (h0 : 0 ≤ x) (h1 : x ≤ 18446744073709551615) (w : World) :
    Calls Try.prog 93 #[.int .u64 x] w fun e w' => e = .returned (.int .u64 (one x)) ∧ w = w' := by
  go_enter Try.func93, Try.ntmps93
  go_wp2_with (go_at_call 100; refine (rclass_any _ h0 h1 _).mono ?_; rintro e w' ⟨rfl, rfl⟩)
  · go_ret; exact ⟨ret_int (one_yes ‹_›), rfl⟩
  · go_ret; exact ⟨ret_int (one_no ‹_›), rfl⟩
set_option maxHeartbeats 400000 in
theorem rbits_any {x : Int} (h0 : 0 ≤ x) (h1 : x ≤ 18446744073709551615) (w : World) :
    Calls Try.prog 66 #[.float .f64 x.toNat] w fun e w' => e = .returned (.int .u64 (one x)) ∧ w = w' := by
  have bx := run_float64bits x.toNat
  rw [Int.toNat_of_nonneg h0] at bx
  go_enter Try.func66, Try.ntmps66
  go_wp2_with fail
  with_reducible refine (rone_any _ h0 h1 _).mono ?_
  rintro e w' ⟨rfl, rfl⟩
  go_wp2_with fail
  go_ret
  exact ⟨rfl, rfl⟩
theorem sameL_ne {a b : List Int} {k : Nat} (hk : k < a.length) (hl : a.length = b.length) (h : one (D a k) ≠ one (D b k)) : sameL a b = false := by
  unfold sameL
  rw [decide_eq_false_iff_not]
  intro e
  apply h
  have h1 := congrArg (fun l => l[k]?) e
  simp only [List.getElem?_map] at h1
  rw [List.getElem?_eq_getElem hk, List.getElem?_eq_getElem (by omega)] at h1
  rw [D_in hk, D_in (by omega)]
  simpa using h1
theorem sameL_len {a b : List Int} (h : a.length ≠ b.length) : sameL a b = false := by
  unfold sameL
  rw [decide_eq_false_iff_not]
  intro e
  have := congrArg List.length e
  simp at this
  exact h this
section
variable {w : World} {A A2 : Option Addr} {n n2 c c2 : Nat} {l l2 : List Int}
set_option maxHeartbeats 2000000 in
set_option maxRecDepth 100000 in
theorem SameFloats_any (h : FL w A n c l) (h2 : FL w A2 n2 c2 l2) :
    Calls Try.prog 36 #[.slice A n c, .slice A2 n2 c2] w (Ans w (.bool (sameL l l2))) := by
  have hmx := h.max
  have hmx2 := h2.max
  by_cases hn : n = n2
  · subst hn
    obtain ⟨RES, hRES⟩ : ∃ R, sameL l l2 = R := ⟨_, rfl⟩
    rw [hRES]
    have HN := Lib.hid (show ∀ k, k < n → one (D l k) ≠ one (D l2 k) → RES = false from fun k hk hne => by rw [← hRES]; exact sameL_ne (by rw [h.1]; exact hk) (by rw [h.1, h2.1]) hne)
    have HY := Lib.hid (show (∀ k, k < n → one (D l k) = one (D l2 k)) → RES = true from fun ha => by rw [← hRES]; exact sameL_yes (by rw [h.1, h2.1]) (fun k hk => decide_eq_true (ha k (by rw [← h.1]; exact hk))))
    clear hRES
    go_enter Try.func36, Try.ntmps36
    go_wp2_with fail
    go_loopw [5] (fun i wr => ∃ (k t : Nat), k ≤ n ∧ i = .int .i64 k ∧ wr = w.drewN t ∧ Hid (∀ j, j < k → one (D l j) = one (D l2 j))) (fun i _ => n - (intOf i).toNat)
    case atStart => exact ⟨0, 0, Nat.zero_le _, rfl, rfl, Lib.hid (fun j hj => by omega)⟩
    case round =>
      obtain ⟨k, t, hk, rfl, rfl, HK⟩ := hrel
      by_cases hlt : k < n
      · obtain ⟨ad, rfl, hb, hc⟩ := h.at_ hlt
        obtain ⟨ad2, rfl, hb2, hc2⟩ := h2.at_ hlt
        obtain ⟨x0, x1⟩ := h.2.2.at_ k
        obtain ⟨y0, y1⟩ := h2.2.2.at_ k
        have i0 : (0 : Int) ≤ k := by omega
        have i1 : (k : Int) < n := by omega
        have HNK := Lib.hid (HN.out k hlt)
        obtain ⟨X, hX⟩ : ∃ X, D l k = X := ⟨_, rfl⟩
        obtain ⟨Y, hY⟩ : ∃ Y, D l2 k = Y := ⟨_, rfl⟩
        have HKS := Lib.hid (show one X = one Y → ∀ j, j < k + 1 → one (D l j) = one (D l2 j) from fun e j hj => by
          rcases Nat.lt_or_ge j k with g | g
          · exact HK.out j g
          · obtain rfl : j = k := by omega
            rw [hX, hY]; exact e)
        rw [hX, hY] at HNK
        rw [hX] at hc x0 x1
        rw [hY] at hc2 y0 y1
        clear hX hY
        have px := fun w => rbits_any x0 x1 w
        have py := fun w => rbits_any y0 y1 w
        obtain ⟨X1, hX1⟩ : ∃ Z, one X = Z := ⟨_, rfl⟩
        obtain ⟨Y1, hY1⟩ : ∃ Z, one Y = Z := ⟨_, rfl⟩
        rw [hX1, hY1] at HNK HKS
        simp only [hX1] at px
        simp only [hY1] at py
        clear hX1 hY1
        by_cases hxy : X1 = Y1
        · subst hxy
          have dx : (X1 != X1) = false := by simp
          have HKS2 := Lib.hid (HKS.out rfl)
          go_wp2_with fail
          go_quiet ((go_at_call 66; first | exact (px _).mono (by rintro e w' ⟨he, hw⟩; exact ⟨he, _, hw.symm⟩) | exact (py _).mono (by rintro e w' ⟨he, hw⟩; exact ⟨he, _, hw.symm⟩)))
          go_wp2_with fail
          go_roundw
          case rel => exact ⟨k + 1, _, by omega, by go_num, by first | rfl | simp, HKS2⟩
          case measure => simp [intOf]; omega
        · have dx : (X1 != Y1) = true := by simp [hxy]
          have hRF := HNK.out hxy
          subst hRF
          clear hxy
          go_wp2_with fail
          go_quiet ((go_at_call 66; first | exact (px _).mono (by rintro e w' ⟨he, hw⟩; exact ⟨he, _, hw.symm⟩) | exact (py _).mono (by rintro e w' ⟨he, hw⟩; exact ⟨he, _, hw.symm⟩)))
          go_wp2_with fail
          go_ret
          exact ⟨rfl, below_drewN (below_drewN (Below.refl _ w) _) _⟩
      · obtain rfl : k = n := by omega
        have hRT := HY.out HK.out
        subst hRT
        go_wp2_with fail
        go_ret
        exact ⟨rfl, below_drewN (Below.refl _ w) _⟩
  · rw [sameL_len (by rw [h.1, h2.1]; exact hn)]
    have hne : ((n : Int) != n2) = true := by simp; omega
    clear hn
    go_enter Try.func36, Try.ntmps36
    go_wp2_with fail
    go_ret
    exact ⟨rfl, by go_grown⟩
/-- the same matrix, all NaNs being one? -/
def sameM (m n : Int) (l : List Int) (m2 n2 : Int) (l2 : List Int) : Bool := m == m2 && n == n2 && sameL l l2
set_option maxHeartbeats 2000000 in
theorem SameMatrix_any (r q r2 q2 : Int) (h : FL w A n c l) (h2 : FL w A2 n2 c2 l2) :
    Calls Try.prog 48 #[mV r q A n c, mV r2 q2 A2 n2 c2] w (Ans w (.bool (sameM r q l r2 q2 l2))) := by
  have DB := (Blk.new w [.int .i64 r, .int .i64 q, .slice A n c] 24).alloc (.cells #[.int .i64 r2, .int .i64 q2, .slice A2 n2 c2] 24)
  have D2 := Blk.new (w.alloc (.cells #[.int .i64 r, .int .i64 q, .slice A n c] 24)) [.int .i64 r2, .int .i64 q2, .slice A2 n2 c2] 24
  rw [World.size_alloc] at D2
  have g := (h.alloc (.cells #[.int .i64 r, .int .i64 q, .slice A n c] 24)).alloc (.cells #[.int .i64 r2, .int .i64 q2, .slice A2 n2 c2] 24)
  have g2 := (h2.alloc (.cells #[.int .i64 r, .int .i64 q, .slice A n c] 24)).alloc (.cells #[.int .i64 r2, .int .i64 q2, .slice A2 n2 c2] 24)
  have bw := ((Below.refl _ w).alloc (Nat.le_refl _) (.cells #[.int .i64 r, .int .i64 q, .slice A n c] 24)).alloc (by simp) (.cells #[.int .i64 r2, .int .i64 q2, .slice A2 n2 c2] 24)
  have ps := SameFloats_any g g2
  clear g g2 h h2
  obtain ⟨DB_0, DB_1, DB_2, DB_f0, DB_f1, DB_f2⟩ := Mbx.cells DB
  obtain ⟨D2_0, D2_1, D2_2, D2_f0, D2_f1, D2_f2⟩ := Mbx.cells D2
  obtain ⟨B, hB⟩ : ∃ B, sameL l l2 = B := ⟨_, rfl⟩
  unfold sameM
  rw [hB] at ps ⊢
  clear DB D2 hB
  cases e1 : (r == r2)
  · go_enter Try.func48, Try.ntmps48
    go_wp2_with fail
    go_ret
    exact ⟨ret_bool (by simp), by go_grown⟩
  · cases e2 : (q == q2)
    · go_enter Try.func48, Try.ntmps48
      go_wp2_with fail
      go_ret
      exact ⟨ret_bool (by simp), by go_grown⟩
    · go_enter Try.func48, Try.ntmps48
      go_wp2_with fail
      with_reducible refine ps.mono ?_
      rintro e w3 ⟨rfl, hb⟩
      replace bw := bw.trans (hb.mono bw.size)
      go_wp2_with fail
      go_ret
      exact ⟨ret_bool (by simp), bw⟩
end
end
end Go.Proofs.Ytbaeabmmokgomaa
namespace Go.Proofs.Ytbaeabmmokgomaa
open Go.RowKit Go.Bw
set_option linter.unusedVariables false
set_option linter.unusedSimpArgs false
set_option maxRecDepth 100000 in
theorem wsame_any {A A2 : Option Addr} {n c n2 c2 : Nat} {l l2 : List Int} {w : World} (h : FL w A n c l) (h2 : FL w A2 n2 c2 l2) :
    Calls Try.prog 10 #[.slice A n c, .slice A2 n2 c2] w (Ans w (.bool (sameL l l2))) := by
  have p := SameFloats_any h h2
  generalize sameL l l2 = b at *
  go_enter Try.func10, Try.ntmps10
  go_wp2_with fail
  with_reducible refine p.mono ?_
  rintro e9 w2 ⟨rfl, hb⟩
  go_wp2_with fail
  go_ret
  exact ⟨rfl, hb⟩
set_option maxRecDepth 100000 in
theorem wnum_any (x : Int) (w : World) : Calls Try.prog 12 #[.int .i64 x] w (Ans w (.int .i64 x)) := by
  have bz := Below.refl w.heap.size w
  go_enter Try.func12, Try.ntmps12
  go_wp2_with fail
  go_ret
  exact ⟨rfl, bz⟩
set_option maxRecDepth 100000 in
theorem wis_any (r q r2 q2 : Int) {A A2 : Option Addr} {n c n2 c2 : Nat} {l l2 : List Int} {w : World} (h : FL w A n c l) (h2 : FL w A2 n2 c2 l2) :
    Calls Try.prog 19 #[mV r q A n c, mV r2 q2 A2 n2 c2] w (Ans w (.bool (sameM r q l r2 q2 l2))) := by
  have bz := ((Below.refl _ w).alloc (Nat.le_refl _) (.cells #[.int .i64 r, .int .i64 q, .slice A n c] 24)).alloc (by simp) (.cells #[.int .i64 r2, .int .i64 q2, .slice A2 n2 c2] 24)
  have p := SameMatrix_any r q r2 q2 (h.on bz) (h2.on bz)
  have D1 := (Blk.new w [.int .i64 r, .int .i64 q, .slice A n c] 24).alloc (.cells #[.int .i64 r2, .int .i64 q2, .slice A2 n2 c2] 24)
  have D2 := Blk.new (w.alloc (.cells #[.int .i64 r, .int .i64 q, .slice A n c] 24)) [.int .i64 r2, .int .i64 q2, .slice A2 n2 c2] 24
  rw [World.size_alloc] at D2
  generalize sameM r q l r2 q2 l2 = b at *
  go_enter Try.func19, Try.ntmps19
  go_upto_region 1 with fail
  generalize (w.alloc (.cells #[.int .i64 r, .int .i64 q, .slice A n c] 24)).alloc (.cells #[.int .i64 r2, .int .i64 q2, .slice A2 n2 c2] 24) = W1 at D1 D2 bz p ⊢
  obtain ⟨t0, t1, t2, _, _, _⟩ := Mbx.cells D1
  obtain ⟨u0, u1, u2, _, _, _⟩ := Mbx.cells D2
  go_wp2_with fail
  with_reducible refine p.mono ?_
  rintro e9 w2 ⟨rfl, hb⟩
  go_wp2_with fail
  go_ret
  exact ⟨rfl, bz.trans (hb.mono bz.size)⟩
set_option maxRecDepth 100000 in
theorem wbig_any {r q : Int} {A : Option Addr} {n c : Nat} (hn : n ≤ 9223372036854775807) (w : World) :
    Calls Try.prog 7 #[mV r q A n c] w (Ans w (.bool (decide (150 < n)))) := by
  have bz := (Below.refl _ w).alloc (Nat.le_refl _) (.cells #[.int .i64 r, .int .i64 q, .slice A n c] 24)
  by_cases h : 150 < n
  · rw [decide_eq_true h]
    have hi : (150 : Int) < n := by omega
    clear h
    go_enter Try.func7, Try.ntmps7
    go_wp2_with fail
    go_ret
    exact ⟨by simp <;> omega, bz⟩
  · rw [decide_eq_false h]
    have hi : ¬ (150 : Int) < n := by omega
    clear h
    go_enter Try.func7, Try.ntmps7
    go_wp2_with fail
    go_ret
    exact ⟨by simp <;> omega, bz⟩
set_option maxRecDepth 100000 in
set_option maxHeartbeats 4000000 in
theorem wsameBi_any {A A2 B B2 : Option Addr} {n c m c2 b m2 b2 n2 : Nat} {d e x y : List Int} {w : World} (h1 : FL w A n c d) (h2 : FL w A2 m c2 e) (k1 : FL w B n2 b x) (k2 : FL w B2 m2 b2 y) :
    Calls Try.prog 14 #[tV A n c A2 m c2, tV B n2 b B2 m2 b2] w (Ans w (.bool (sameL d x && sameL e y))) := by
  have D1 := (Blk.new w [.slice A n c, .slice A2 m c2] 28).alloc (.cells #[.slice B n2 b, .slice B2 m2 b2] 28)
  have D2 := Blk.new (w.alloc (.cells #[.slice A n c, .slice A2 m c2] 28)) [.slice B n2 b, .slice B2 m2 b2] 28
  rw [World.size_alloc] at D2
  have bz := ((Below.refl _ w).alloc (Nat.le_refl _) (.cells #[.slice A n c, .slice A2 m c2] 28)).alloc (by simp) (.cells #[.slice B n2 b, .slice B2 m2 b2] 28)
  replace h1 := h1.on bz
  replace h2 := h2.on bz
  replace k1 := k1.on bz
  replace k2 := k2.on bz
  go_enter Try.func14, Try.ntmps14
  go_upto_region 1 with fail
  generalize (w.alloc (.cells #[.slice A n c, .slice A2 m c2] 28)).alloc (.cells #[.slice B n2 b, .slice B2 m2 b2] 28) = W1 at D1 D2 bz h1 h2 k1 k2 ⊢
  obtain ⟨t0, t1, _, _⟩ := Tbx.cells D1
  obtain ⟨u0, u1, _, _⟩ := Tbx.cells D2
  have p1 := wsame_any h1 k1
  have p2 := fun W (h9 : FL W A2 m c2 e) (h8 : FL W B2 m2 b2 y) => wsame_any h9 h8
  cases hs : sameL d x
  · rw [hs] at p1
    generalize sameL e y = s2 at *
    rw [Bool.false_and]
    go_wp2_with fail
    with_reducible refine p1.mono ?_
    rintro e9 w2 ⟨rfl, hb⟩
    replace bz := bz.trans (hb.mono bz.size)
    clear t0 t1 u0 u1 hb
    go_wp2_with fail
    go_ret
    exact ⟨by rw [hs]; rfl, bz⟩
  · rw [hs] at p1
    generalize sameL e y = s2 at *
    rw [Bool.true_and]
    go_wp2_with fail
    with_reducible refine p1.mono ?_
    rintro e9 w2 ⟨rfl, hb⟩
    replace D1 := D1.on hb
    replace D2 := D2.on hb
    replace h2 := h2.on hb
    replace k2 := k2.on hb
    replace bz := bz.trans (hb.mono bz.size)
    clear t0 t1 u0 u1 hb
    obtain ⟨t0, t1, _, _⟩ := Tbx.cells D1
    obtain ⟨u0, u1, _, _⟩ := Tbx.cells D2
    go_wp2_with fail
    with_reducible refine (p2 _ h2 k2).mono ?_
    rintro e9 w3 ⟨rfl, hb⟩
    go_wp2_with fail
    go_ret
    exact ⟨by rw [hs]; rfl, bz.trans (hb.mono bz.size)⟩
end Go.Proofs.Ytbaeabmmokgomaa
namespace Go.Proofs.Ytbaeabmmokgomaa
open Go.RowKit Go.Bw
set_option linter.unusedVariables false
set_option linter.unusedSimpArgs false
/-- are there more than 20, or is one of the first 21 of more than 40 entries? -/
def lonP (hs : List Re) : Prop := 20 < hs.length ∨ ∃ (k : Nat) (e : Re), k < 21 ∧ hs[k]? = some e ∧ 40 < e.l.length
set_option maxRecDepth 100000 in
set_option maxHeartbeats 8000000 in
theorem wlong_any {K c : Nat} {A : Option Addr} {hs : List Re} {w : World} {b : Bool} (h : Rl w A K c hs) (hb : b = true ↔ lonP hs) :
    Calls Try.prog 16 #[.slice A K c] w (Ans w (.bool b)) := by
  have HLL := Lib.hid h.1
  have hmx := h.2.1
  have HB := Lib.hid hb
  clear hb
  have bz := Below.refl w.heap.size w
  go_enter Try.func16, Try.ntmps16
  go_wp2_with fail
  go_loopw [3] (fun i wr => ∃ (k : Nat), k ≤ K ∧ k ≤ 21 ∧ i = .int .i64 k ∧ Hid (∀ (j : Nat) (r : Re), j < k → hs[j]? = some r → ¬ 40 < r.l.length) ∧ Below w.heap.size w wr) (fun i _ => K - (intOf i).toNat)
  case atStart => exact ⟨0, Nat.zero_le _, by omega, rfl, Lib.hid (fun j r hj => absurd hj (Nat.not_lt_zero j)), bz⟩
  case round =>
    clear bz
    obtain ⟨k, hk, h21, rfl, HG, bz⟩ := hrel
    have k0 : (0 : Int) ≤ k := by omega
    by_cases hlt : k < K
    · have k1 : (k : Int) < K := by omega
      by_cases h20 : k < 21
      · have k2 : (k : Int) < 21 := by omega
        obtain ⟨e, ad, ea, he, rfl, hE, hl, hc0, hc1, hv, bt⟩ := (h.on bz).at_ (k := k) hlt
        have hvm := hv.max
        have HE := Lib.hid he
        clear he hv
        by_cases hg : 40 < e.l.length
        · have d : (40 : Int) < (e.l.length : Int) := by omega
          obtain rfl : true = b := (HB.out.2 (.inr ⟨k, e, h20, HE.out, hg⟩)).symm
          clear hg
          go_wp2_with fail
          go_ret
          exact ⟨rfl, bz⟩
        · have d : ¬ (40 : Int) < (e.l.length : Int) := by omega
          have HG2 : Hid (∀ (j : Nat) (r : Re), j < k + 1 → hs[j]? = some r → ¬ 40 < r.l.length) := Lib.hid (fun j r hj hr => by
            rcases Nat.lt_or_ge j k with g | g
            · exact HG.out j r g hr
            · obtain rfl : j = k := by omega
              have h9 := HE.out
              rw [h9] at hr
              injection hr with hr
              rw [← hr]; exact hg)
          clear hg
          go_wp2_with fail
          go_roundw
          case rel => exact ⟨k + 1, by omega, by omega, by go_num, HG2, bz⟩
          case measure => simp [intOf]; omega
      · have k2 : ¬ (k : Int) < 21 := by omega
        have k3 : (20 : Int) < K := by omega
        obtain rfl : true = b := (HB.out.2 (.inl (by rw [HLL.out]; omega))).symm
        go_wp2_with fail
        go_ret
        exact ⟨by first | rfl | (simp <;> omega), bz⟩
    · obtain rfl : k = K := by omega
      have k1 : ¬ (k : Int) < k := by omega
      by_cases h20 : 20 < k
      · have k3 : (20 : Int) < k := by omega
        obtain rfl : true = b := (HB.out.2 (.inl (by rw [HLL.out]; omega))).symm
        go_wp2_with fail
        go_ret
        exact ⟨by first | rfl | (simp <;> omega), bz⟩
      · have k3 : ¬ (20 : Int) < k := by omega
        have hb0 : b = false := by
          cases hb9 : b
          · rfl
          · rcases HB.out.1 hb9 with h9 | ⟨j, r, j1, j2, j3⟩
            · rw [HLL.out] at h9; omega
            · exact absurd j3 (HG.out j r (by have := (List.getElem?_eq_some_iff.1 j2).1; rw [HLL.out] at this; exact this) j2)
        subst hb0
        go_wp2_with fail
        go_ret
        exact ⟨by first | rfl | (simp <;> omega), bz⟩
end Go.Proofs.Ytbaeabmmokgomaa
namespace Go.Proofs.Ytbaeabmmokgomaa
open Go.RowKit Go.Bw
set_option linter.unusedVariables false
set_option linter.unusedSimpArgs false
theorem Rl.two {w : World} {ad : Addr} {n c k : Nat} {hs : List Re} {e : Re} {ea : Addr} (h : Rl w (some ad) n c hs) (hk : hs[k]? = some e) (he : ad.add (k * 2) = ea) :
    ea.block < w.heap.size ∧ w.cell? ea = some (.slice e.A e.l.length e.c) ∧ w.cell? ⟨ea.block, ea.off + 1, none⟩ = some (.float .f64 e.t) ∧ FL w e.A e.l.length e.c e.l := by
  have h1 := (List.getElem?_eq_some_iff.1 hk).1
  obtain ⟨e2, ad2, ea2, q1, q2, q3, q4, q5, q6, q7, _⟩ := h.at_ (k := k) (by rw [h.1] at h1; exact h1)
  rw [q1] at hk
  injection hk with hk
  injection q2 with q2
  subst hk q2
  rw [he] at q3
  subst q3
  exact ⟨q4, q5, q6, q7⟩
set_option maxRecDepth 100000 in
set_option maxHeartbeats 16000000 in
theorem wsameAll_true {K c c2 : Nat} {A A2 : Option Addr} {hs gs : List Re} {w : World} (h : Rl w A K c hs) (h2 : Rl w A2 K c2 gs) (hp : ∀ (j : Nat) (e f : Re), hs[j]? = some e → gs[j]? = some f → sameL e.l f.l = true ∧ sameL [(e.t : Int)] [(f.t : Int)] = true) :
    Calls Try.prog 15 #[.slice A K c, .slice A2 K c2] w (Ans w (.bool true)) := by
  have hmx := h.2.1
  have HP := Lib.hid hp
  clear hp
  have bz := Below.refl w.heap.size w
  have d0 : ((K : Int) != (K : Int)) = false := by simp
  go_enter Try.func15, Try.ntmps15
  go_wp2_with fail
  go_loopw [5] (fun i wr => ∃ (k : Nat), k ≤ K ∧ i = .int .i64 k ∧ Below w.heap.size w wr) (fun i _ => K - (intOf i).toNat)
  case atStart => exact ⟨0, Nat.zero_le _, rfl, bz⟩
  case round =>
    clear bz
    obtain ⟨k, hk, rfl, bz⟩ := hrel
    have k0 : (0 : Int) ≤ k := by omega
    by_cases hlt : k < K
    · as_aux_lemma =>
        have k1 : (k : Int) < K := by omega
        replace h := h.on bz
        replace h2 := h2.on bz
        obtain ⟨e, ad, ea, he, rfl, hE, hl, hc0, hc1, hv, bt⟩ := h.at_ hlt
        obtain ⟨f, ad2, eb, hf, rfl, hE2, hl2, hd0, hd1, hv2, bt2⟩ := h2.at_ hlt
        obtain ⟨s1, s2⟩ := HP.out k e f he hf
        have Q1 := Lib.hid (fun (W : World) (h9 : Rl W (some ad) K c hs) => h9.two he hE)
        have Q2 := Lib.hid (fun (W : World) (h9 : Rl W (some ad2) K c2 gs) => h9.two hf hE2)
        have p1 := fun W (h9 : FL W e.A e.l.length e.c e.l) (h8 : FL W f.A f.l.length f.c f.l) => wsame_any h9 h8
        have p2 := fun W (B1 B2 : Option Addr) (x1 x2 : Nat) (h9 : FL W B1 1 x1 [(e.t : Int)]) (h8 : FL W B2 1 x2 [(f.t : Int)]) => wsame_any h9 h8
        rw [s1] at p1
        rw [s2] at p2
        clear s1 s2 he hf hc0 hc1 hd0 hd1 hv hv2 hl hl2
        go_wp2_with fail
        have hd := (Below.refl wr.heap.size wr).drew
        replace h := h.on hd
        replace h2 := h2.on hd
        clear hd
        replace bz := bz.drew
        refine wp_region_held_drew (S := fun w9 : World => (w9.cell? ea = some (.slice e.A e.l.length e.c) ∧ w9.cell? ⟨ea.block, ea.off + 1, none⟩ = some (.float .f64 e.t)) ∧ w9.cell? eb = some (.slice f.A f.l.length f.c) ∧ w9.cell? ⟨eb.block, eb.off + 1, none⟩ = some (.float .f64 f.t)) (by kernel_rfl) ⟨⟨(Q1.out _ h).2.1, (Q1.out _ h).2.2.1⟩, (Q2.out _ h2).2.1, (Q2.out _ h2).2.2.1⟩ (fun hS => ?_)
        generalize wr.drew = wl at hS h h2  bz ⊢
        refine wpAnyH_take (i := 0) (v := ?v0_1) rfl (by kernel_rfl) (by kernel_rfl) (by kernel_rfl) (fun _ _ _ h => h) (Or.inl ⟨by rfl, ?hy0_1⟩) (by assumption) ?rest0_1
        case hy0_1 => (intro w9 hSw; clear hSw; go_simp; try with_reducible rfl)
        try simp only [Act.put, List.setIfInBounds_toArray, List.set_cons_zero, List.set_cons_succ, List.getElem_toArray, List.getElem_cons_zero, List.getElem_cons_succ]
        refine wpAnyH_take (i := 1) (v := ?v1_2) rfl (by kernel_rfl) (by kernel_rfl) (by kernel_rfl) (fun _ _ _ h => h) (Or.inl ⟨by rfl, ?hy1_2⟩) (by assumption) ?rest1_2
        case hy1_2 => (intro w9 hSw; clear hSw; go_simp; try with_reducible rfl)
        try simp only [Act.put, List.setIfInBounds_toArray, List.set_cons_zero, List.set_cons_succ, List.getElem_toArray, List.getElem_cons_zero, List.getElem_cons_succ]
        refine wpAnyH_take (i := 2) (v := ?v2_3) rfl (by kernel_rfl) (by kernel_rfl) (by kernel_rfl) (fun _ _ _ h => h) (Or.inl ⟨by rfl, ?hy2_3⟩) (by assumption) ?rest2_3
        case hy2_3 => (intro w9 hSw; clear hSw; go_simp; try with_reducible rfl)
        try simp only [Act.put, List.setIfInBounds_toArray, List.set_cons_zero, List.set_cons_succ, List.getElem_toArray, List.getElem_cons_zero, List.getElem_cons_succ]
        refine wpAnyH_take (i := 3) (v := ?v3_4) rfl (by kernel_rfl) (by kernel_rfl) (by kernel_rfl) (fun _ _ _ h => h) (Or.inl ⟨by rfl, ?hy3_4⟩) (by assumption) ?rest3_4
        case hy3_4 => (intro w9 hSw; clear hSw; go_simp; try with_reducible rfl)
        try simp only [Act.put, List.setIfInBounds_toArray, List.set_cons_zero, List.set_cons_succ, List.getElem_toArray, List.getElem_cons_zero, List.getElem_cons_succ]
        refine wpAnyH_take (i := 4) (v := ?v4_5) rfl (by kernel_rfl) (by kernel_rfl) (by kernel_rfl) (fun _ _ _ h => h) (Or.inl ⟨by rfl, ?hy4_5⟩) (by assumption) ?rest4_5
        case hy4_5 => (intro w9 hSw; obtain ⟨⟨y0, y1⟩, y2, y3⟩ := hSw; go_simp; try with_reducible rfl)
        try simp only [Act.put, List.setIfInBounds_toArray, List.set_cons_zero, List.set_cons_succ, List.getElem_toArray, List.getElem_cons_zero, List.getElem_cons_succ]
        refine wpAnyH_take (i := 5) (v := ?v5_6) rfl (by kernel_rfl) (by kernel_rfl) (by kernel_rfl) (fun _ _ _ h => h) (Or.inl ⟨by rfl, ?hy5_6⟩) (by assumption) ?rest5_6
        case hy5_6 => (intro w9 hSw; clear hSw; go_simp; try with_reducible rfl)
        try simp only [Act.put, List.setIfInBounds_toArray, List.set_cons_zero, List.set_cons_succ, List.getElem_toArray, List.getElem_cons_zero, List.getElem_cons_succ]
        refine wpAnyH_take (i := 6) (v := ?v6_7) rfl (by kernel_rfl) (by kernel_rfl) (by kernel_rfl) (fun _ _ _ h => h) (Or.inl ⟨by rfl, ?hy6_7⟩) (by assumption) ?rest6_7
        case hy6_7 => (intro w9 hSw; clear hSw; go_simp; try with_reducible rfl)
        try simp only [Act.put, List.setIfInBounds_toArray, List.set_cons_zero, List.set_cons_succ, List.getElem_toArray, List.getElem_cons_zero, List.getElem_cons_succ]
        refine wpAnyH_take (i := 7) (v := ?v7_8) rfl (by kernel_rfl) (by kernel_rfl) (by kernel_rfl) (fun _ _ _ h => h) (Or.inl ⟨by rfl, ?hy7_8⟩) (by assumption) ?rest7_8
        case hy7_8 => (intro w9 hSw; clear hSw; go_simp; try with_reducible rfl)
        try simp only [Act.put, List.setIfInBounds_toArray, List.set_cons_zero, List.set_cons_succ, List.getElem_toArray, List.getElem_cons_zero, List.getElem_cons_succ]
        refine wpAnyH_take (i := 8) (v := ?v8_9) rfl (by kernel_rfl) (by kernel_rfl) (by kernel_rfl) (fun _ _ _ h => h) (Or.inl ⟨by rfl, ?hy8_9⟩) (by assumption) ?rest8_9
        case hy8_9 => (intro w9 hSw; clear hSw; go_simp; try with_reducible rfl)
        try simp only [Act.put, List.setIfInBounds_toArray, List.set_cons_zero, List.set_cons_succ, List.getElem_toArray, List.getElem_cons_zero, List.getElem_cons_succ]
        refine wpAnyH_take (i := 9) (v := ?v9_10) rfl (by kernel_rfl) (by kernel_rfl) (by kernel_rfl) (fun _ _ _ h => h) (Or.inl ⟨by rfl, ?hy9_10⟩) (by assumption) ?rest9_10
        case hy9_10 => (intro w9 hSw; obtain ⟨⟨y0, y1⟩, y2, y3⟩ := hSw; go_simp; try with_reducible rfl)
        try simp only [Act.put, List.setIfInBounds_toArray, List.set_cons_zero, List.set_cons_succ, List.getElem_toArray, List.getElem_cons_zero, List.getElem_cons_succ]
        refine wpAnyH_ready (rs := [10]) (by kernel_rfl) (by simp) ?_
        refine AllReadyH.cons rfl (fun K hK => ?_) AllReadyH.nil
        go_simp
        with_reducible refine (p1 _ (Q1.out _ h).2.2.2 (Q2.out _ h2).2.2.2).mono ?_
        rintro e9 w4 ⟨rfl, hb⟩
        replace h := h.on hb
        replace h2 := h2.on hb
        replace bz := bz.trans (hb.mono bz.size)
        clear hb
        clear hS; refine hK.out _ _ ⟨⟨(Q1.out _ h).2.1, (Q1.out _ h).2.2.1⟩, (Q2.out _ h2).2.1, (Q2.out _ h2).2.2.1⟩ (fun hS => ?_); clear hK K
        try simp only [Act.put, List.setIfInBounds_toArray, List.set_cons_zero, List.set_cons_succ, List.getElem_toArray, List.getElem_cons_zero, List.getElem_cons_succ]
        refine wpAnyH_take (i := 11) (v := ?v11_11) rfl (by kernel_rfl) (by kernel_rfl) (by kernel_rfl) (fun _ _ _ h => h) (Or.inl ⟨by rfl, ?hy11_11⟩) (by assumption) ?rest11_11
        case hy11_11 => (intro w9 hSw; clear hSw; go_simp; try with_reducible rfl)
        try simp only [Act.put, List.setIfInBounds_toArray, List.set_cons_zero, List.set_cons_succ, List.getElem_toArray, List.getElem_cons_zero, List.getElem_cons_succ]
        refine wpAnyH_take (i := 12) (v := ?v12_12) rfl (by kernel_rfl) (by kernel_rfl) (by kernel_rfl) (fun _ _ _ h => h) (Or.inl ⟨by rfl, ?hy12_12⟩) (by assumption) ?rest12_12
        case hy12_12 => (intro w9 hSw; clear hSw; go_simp; try with_reducible rfl)
        try simp only [Act.put, List.setIfInBounds_toArray, List.set_cons_zero, List.set_cons_succ, List.getElem_toArray, List.getElem_cons_zero, List.getElem_cons_succ]
        refine wpAnyH_take (i := 13) (v := ?v13_13) rfl (by kernel_rfl) (by kernel_rfl) (by kernel_rfl) (fun _ _ _ h => h) (Or.inl ⟨by rfl, ?hy13_13⟩) (by assumption) ?rest13_13
        case hy13_13 => (intro w9 hSw; clear hSw; go_simp; try with_reducible rfl)
        try simp only [Act.put, List.setIfInBounds_toArray, List.set_cons_zero, List.set_cons_succ, List.getElem_toArray, List.getElem_cons_zero, List.getElem_cons_succ]
        refine wpAnyH_take (i := 14) (v := ?v14_14) rfl (by kernel_rfl) (by kernel_rfl) (by kernel_rfl) (fun _ _ _ h => h) (Or.inl ⟨by rfl, ?hy14_14⟩) (by assumption) ?rest14_14
        case hy14_14 => (intro w9 hSw; clear hSw; go_simp; try with_reducible rfl)
        try simp only [Act.put, List.setIfInBounds_toArray, List.set_cons_zero, List.set_cons_succ, List.getElem_toArray, List.getElem_cons_zero, List.getElem_cons_succ]
        refine wpAnyH_take (i := 15) (v := ?v15_15) rfl (by kernel_rfl) (by kernel_rfl) (by kernel_rfl) (fun _ _ _ h => h) (Or.inl ⟨by rfl, ?hy15_15⟩) (by assumption) ?rest15_15
        case hy15_15 => (intro w9 hSw; clear hSw; go_simp; try with_reducible rfl)
        try simp only [Act.put, List.setIfInBounds_toArray, List.set_cons_zero, List.set_cons_succ, List.getElem_toArray, List.getElem_cons_zero, List.getElem_cons_succ]
        refine wpAnyH_take (i := 16) (v := ?v16_16) rfl (by kernel_rfl) (by kernel_rfl) (by kernel_rfl) (fun _ _ _ h => h) (Or.inl ⟨by rfl, ?hy16_16⟩) (by assumption) ?rest16_16
        case hy16_16 => (intro w9 hSw; clear hSw; go_simp; try with_reducible rfl)
        try simp only [Act.put, List.setIfInBounds_toArray, List.set_cons_zero, List.set_cons_succ, List.getElem_toArray, List.getElem_cons_zero, List.getElem_cons_succ]
        refine wpAnyH_take (i := 17) (v := ?v17_17) rfl (by kernel_rfl) (by kernel_rfl) (by kernel_rfl) (fun _ _ _ h => h) (Or.inl ⟨by rfl, ?hy17_17⟩) (by assumption) ?rest17_17
        case hy17_17 => (intro w9 hSw; obtain ⟨⟨y0, y1⟩, y2, y3⟩ := hSw; go_simp; try with_reducible rfl)
        try simp only [Act.put, List.setIfInBounds_toArray, List.set_cons_zero, List.set_cons_succ, List.getElem_toArray, List.getElem_cons_zero, List.getElem_cons_succ]
        refine wpAnyH_take (i := 19) (v := ?v19_18) rfl (by kernel_rfl) (by kernel_rfl) (by kernel_rfl) (fun _ _ _ h => h) (Or.inl ⟨by rfl, ?hy19_18⟩) (by assumption) ?rest19_18
        case hy19_18 => (intro w9 hSw; clear hSw; go_simp; try with_reducible rfl)
        try simp only [Act.put, List.setIfInBounds_toArray, List.set_cons_zero, List.set_cons_succ, List.getElem_toArray, List.getElem_cons_zero, List.getElem_cons_succ]
        refine wpAnyH_take (i := 20) (v := ?v20_19) rfl (by kernel_rfl) (by kernel_rfl) (by kernel_rfl) (fun _ _ _ h => h) (Or.inl ⟨by rfl, ?hy20_19⟩) (by assumption) ?rest20_19
        case hy20_19 => (intro w9 hSw; clear hSw; go_simp; try with_reducible rfl)
        try simp only [Act.put, List.setIfInBounds_toArray, List.set_cons_zero, List.set_cons_succ, List.getElem_toArray, List.getElem_cons_zero, List.getElem_cons_succ]
        refine wpAnyH_take (i := 21) (v := ?v21_20) rfl (by kernel_rfl) (by kernel_rfl) (by kernel_rfl) (fun _ _ _ h => h) (Or.inl ⟨by rfl, ?hy21_20⟩) (by assumption) ?rest21_20
        case hy21_20 => (intro w9 hSw; clear hSw; go_simp; try with_reducible rfl)
        try simp only [Act.put, List.setIfInBounds_toArray, List.set_cons_zero, List.set_cons_succ, List.getElem_toArray, List.getElem_cons_zero, List.getElem_cons_succ]
        refine wpAnyH_take (i := 22) (v := ?v22_21) rfl (by kernel_rfl) (by kernel_rfl) (by kernel_rfl) (fun _ _ _ h => h) (Or.inl ⟨by rfl, ?hy22_21⟩) (by assumption) ?rest22_21
        case hy22_21 => (intro w9 hSw; clear hSw; go_simp; try with_reducible rfl)
        try simp only [Act.put, List.setIfInBounds_toArray, List.set_cons_zero, List.set_cons_succ, List.getElem_toArray, List.getElem_cons_zero, List.getElem_cons_succ]
        refine wpAnyH_take (i := 23) (v := ?v23_22) rfl (by kernel_rfl) (by kernel_rfl) (by kernel_rfl) (fun _ _ _ h => h) (Or.inl ⟨by rfl, ?hy23_22⟩) (by assumption) ?rest23_22
        case hy23_22 => (intro w9 hSw; obtain ⟨⟨y0, y1⟩, y2, y3⟩ := hSw; go_simp; try with_reducible rfl)
        try simp only [Act.put, List.setIfInBounds_toArray, List.set_cons_zero, List.set_cons_succ, List.getElem_toArray, List.getElem_cons_zero, List.getElem_cons_succ]
        refine wpAnyH_ready (rs := [18, 24]) (by kernel_rfl) (by simp) ?_
        refine (AllReadyH.cons rfl (fun K hK => ?_) (AllReadyH.cons rfl (fun K hK => ?_) AllReadyH.nil))
        · go_simp
          have k1 : FL (w4.alloc (.cells #[.float .f64 e.t] 49)) (some ⟨w4.heap.size, 0, none⟩) 1 1 [(e.t : Int)] := RowF.fl (RowF.one w4 (e.t : Int)) (fun x hx => by rw [List.mem_singleton.1 hx]; omega) (by simp [maxLen])
          have hbA := (Below.refl _ w4).alloc (Nat.le_refl _) (.cells #[.float .f64 e.t] 49)
          replace h := h.on hbA
          replace h2 := h2.on hbA
          clear hbA
          replace bz := bz.alloc bz.size (.cells #[.float .f64 e.t] 49)
          generalize w4.alloc (.cells #[.float .f64 e.t] 49) = v1 at h h2 k1 bz ⊢
          clear hS; refine hK.out _ _ ⟨⟨(Q1.out _ h).2.1, (Q1.out _ h).2.2.1⟩, (Q2.out _ h2).2.1, (Q2.out _ h2).2.2.1⟩ (fun hS => ?_); clear hK K
          try simp only [Act.put, List.setIfInBounds_toArray, List.set_cons_zero, List.set_cons_succ, List.getElem_toArray, List.getElem_cons_zero, List.getElem_cons_succ]
          refine wpAnyH_ready (rs := [24]) (by kernel_rfl) (by simp) ?_
          refine AllReadyH.cons rfl (fun K hK => ?_) AllReadyH.nil
          go_simp
          have k2 : FL (v1.alloc (.cells #[.float .f64 f.t] 49)) (some ⟨v1.heap.size, 0, none⟩) 1 1 [(f.t : Int)] := RowF.fl (RowF.one v1 (f.t : Int)) (fun x hx => by rw [List.mem_singleton.1 hx]; omega) (by simp [maxLen])
          have hbA := (Below.refl _ v1).alloc (Nat.le_refl _) (.cells #[.float .f64 f.t] 49)
          replace h := h.on hbA
          replace h2 := h2.on hbA
          replace k1 := k1.on hbA
          clear hbA
          replace bz := bz.alloc bz.size (.cells #[.float .f64 f.t] 49)
          generalize v1.alloc (.cells #[.float .f64 f.t] 49) = v2 at h h2 k1 k2 bz ⊢
          clear hS; refine hK.out _ _ ⟨⟨(Q1.out _ h).2.1, (Q1.out _ h).2.2.1⟩, (Q2.out _ h2).2.1, (Q2.out _ h2).2.2.1⟩ (fun hS => ?_); clear hK K
          try simp only [Act.put, List.setIfInBounds_toArray, List.set_cons_zero, List.set_cons_succ, List.getElem_toArray, List.getElem_cons_zero, List.getElem_cons_succ]
          refine wpAnyH_ready (rs := [25]) (by kernel_rfl) (by simp) ?_
          refine AllReadyH.cons rfl (fun K hK => ?_) AllReadyH.nil
          go_simp
          with_reducible refine (p2 _ _ _ _ _ k1 k2).mono ?_
          rintro e9 w7 ⟨rfl, hb⟩
          replace h := h.on hb
          replace h2 := h2.on hb
          replace bz := bz.trans (hb.mono bz.size)
          clear hb k1 k2
          clear hS; refine hK.out _ _ ⟨⟨(Q1.out _ h).2.1, (Q1.out _ h).2.2.1⟩, (Q2.out _ h2).2.1, (Q2.out _ h2).2.2.1⟩ (fun hS => ?_); clear hK K
          try simp only [Act.put, List.setIfInBounds_toArray, List.set_cons_zero, List.set_cons_succ, List.getElem_toArray, List.getElem_cons_zero, List.getElem_cons_succ]
          refine wpAnyH_take (i := 26) (v := ?v26_23) rfl (by kernel_rfl) (by kernel_rfl) (by kernel_rfl) (fun _ _ _ h => h) (Or.inl ⟨by rfl, ?hy26_23⟩) (by assumption) ?rest26_23
          case hy26_23 => (intro w9 hSw; clear hSw; go_simp; try with_reducible rfl)
          try simp only [Act.put, List.setIfInBounds_toArray, List.set_cons_zero, List.set_cons_succ, List.getElem_toArray, List.getElem_cons_zero, List.getElem_cons_succ]
          refine wpAnyH_take (i := 27) (v := ?v27_24) rfl (by kernel_rfl) (by kernel_rfl) (by kernel_rfl) (fun _ _ _ h => h) (Or.inl ⟨by rfl, ?hy27_24⟩) (by assumption) ?rest27_24
          case hy27_24 => (intro w9 hSw; clear hSw; go_simp; try with_reducible rfl)
          try simp only [Act.put, List.setIfInBounds_toArray, List.set_cons_zero, List.set_cons_succ, List.getElem_toArray, List.getElem_cons_zero, List.getElem_cons_succ]
          refine wpAnyH_done (by kernel_rfl) ?_ _
          clear hS h h2
          go_wp2_with fail
          go_roundw
          case rel => exact ⟨k + 1, by omega, by go_num, bz⟩
          case measure => simp [intOf]; omega
        go_simp
        have k2 : FL (w4.alloc (.cells #[.float .f64 f.t] 49)) (some ⟨w4.heap.size, 0, none⟩) 1 1 [(f.t : Int)] := RowF.fl (RowF.one w4 (f.t : Int)) (fun x hx => by rw [List.mem_singleton.1 hx]; omega) (by simp [maxLen])
        have hbA := (Below.refl _ w4).alloc (Nat.le_refl _) (.cells #[.float .f64 f.t] 49)
        replace h := h.on hbA
        replace h2 := h2.on hbA
        clear hbA
        replace bz := bz.alloc bz.size (.cells #[.float .f64 f.t] 49)
        generalize w4.alloc (.cells #[.float .f64 f.t] 49) = v2 at h h2 k2 bz ⊢
        clear hS; refine hK.out _ _ ⟨⟨(Q1.out _ h).2.1, (Q1.out _ h).2.2.1⟩, (Q2.out _ h2).2.1, (Q2.out _ h2).2.2.1⟩ (fun hS => ?_); clear hK K
        try simp only [Act.put, List.setIfInBounds_toArray, List.set_cons_zero, List.set_cons_succ, List.getElem_toArray, List.getElem_cons_zero, List.getElem_cons_succ]
        refine wpAnyH_ready (rs := [18]) (by kernel_rfl) (by simp) ?_
        refine AllReadyH.cons rfl (fun K hK => ?_) AllReadyH.nil
        go_simp
        have k1 : FL (v2.alloc (.cells #[.float .f64 e.t] 49)) (some ⟨v2.heap.size, 0, none⟩) 1 1 [(e.t : Int)] := RowF.fl (RowF.one v2 (e.t : Int)) (fun x hx => by rw [List.mem_singleton.1 hx]; omega) (by simp [maxLen])
        have hbA := (Below.refl _ v2).alloc (Nat.le_refl _) (.cells #[.float .f64 e.t] 49)
        replace h := h.on hbA
        replace h2 := h2.on hbA
        replace k2 := k2.on hbA
        clear hbA
        replace bz := bz.alloc bz.size (.cells #[.float .f64 e.t] 49)
        generalize v2.alloc (.cells #[.float .f64 e.t] 49) = v1 at h h2 k2 k1 bz ⊢
        clear hS; refine hK.out _ _ ⟨⟨(Q1.out _ h).2.1, (Q1.out _ h).2.2.1⟩, (Q2.out _ h2).2.1, (Q2.out _ h2).2.2.1⟩ (fun hS => ?_); clear hK K
        try simp only [Act.put, List.setIfInBounds_toArray, List.set_cons_zero, List.set_cons_succ, List.getElem_toArray, List.getElem_cons_zero, List.getElem_cons_succ]
        refine wpAnyH_ready (rs := [25]) (by kernel_rfl) (by simp) ?_
        refine AllReadyH.cons rfl (fun K hK => ?_) AllReadyH.nil
        go_simp
        with_reducible refine (p2 _ _ _ _ _ k1 k2).mono ?_
        rintro e9 w7 ⟨rfl, hb⟩
        replace h := h.on hb
        replace h2 := h2.on hb
        replace bz := bz.trans (hb.mono bz.size)
        clear hb k1 k2
        clear hS; refine hK.out _ _ ⟨⟨(Q1.out _ h).2.1, (Q1.out _ h).2.2.1⟩, (Q2.out _ h2).2.1, (Q2.out _ h2).2.2.1⟩ (fun hS => ?_); clear hK K
        try simp only [Act.put, List.setIfInBounds_toArray, List.set_cons_zero, List.set_cons_succ, List.getElem_toArray, List.getElem_cons_zero, List.getElem_cons_succ]
        refine wpAnyH_take (i := 26) (v := ?v26_25) rfl (by kernel_rfl) (by kernel_rfl) (by kernel_rfl) (fun _ _ _ h => h) (Or.inl ⟨by rfl, ?hy26_25⟩) (by assumption) ?rest26_25
        case hy26_25 => (intro w9 hSw; clear hSw; go_simp; try with_reducible rfl)
        try simp only [Act.put, List.setIfInBounds_toArray, List.set_cons_zero, List.set_cons_succ, List.getElem_toArray, List.getElem_cons_zero, List.getElem_cons_succ]
        refine wpAnyH_take (i := 27) (v := ?v27_26) rfl (by kernel_rfl) (by kernel_rfl) (by kernel_rfl) (fun _ _ _ h => h) (Or.inl ⟨by rfl, ?hy27_26⟩) (by assumption) ?rest27_26
        case hy27_26 => (intro w9 hSw; clear hSw; go_simp; try with_reducible rfl)
        try simp only [Act.put, List.setIfInBounds_toArray, List.set_cons_zero, List.set_cons_succ, List.getElem_toArray, List.getElem_cons_zero, List.getElem_cons_succ]
        refine wpAnyH_done (by kernel_rfl) ?_ _
        clear hS h h2
        go_wp2_with fail
        go_roundw
        case rel => exact ⟨k + 1, by omega, by go_num, bz⟩
        case measure => simp [intOf]; omega
    · as_aux_lemma =>
        obtain rfl : k = K := by omega
        have k1 : ¬ (k : Int) < k := by omega
        go_wp2_with fail
        go_ret
        exact ⟨rfl, bz⟩
end Go.Proofs.Ytbaeabmmokgomaa
namespace Go.Proofs.Ytbaeabmmokgomaa
open Go.RowKit Go.Bw
set_option linter.unusedVariables false
set_option linter.unusedSimpArgs false
set_option maxRecDepth 100000 in
set_option maxHeartbeats 1000000 in
theorem wmat_any (r q : Int) {A : Option Addr} {n c : Nat} (w : World) :
    Calls Try.prog 24 #[.int .i64 r, .int .i64 q, .slice A n c] w (Ans w (mV r q A n c)) := by
  have DZ := Blk.new w [.int .i64 0, .int .i64 0, .slice none 0 0] 24
  have bz := (Below.refl _ w).alloc (Nat.le_refl _) (.cells #[.int .i64 0, .int .i64 0, .slice none 0 0] 24)
  go_enter Try.func24, Try.ntmps24
  go_upto_region 1 with fail
  generalize w.alloc (.cells #[.int .i64 0, .int .i64 0, .slice none 0 0] 24) = W1 at DZ bz ⊢
  obtain ⟨z0, z1, z2, z3, z4, z5⟩ := Mbx.cells DZ
  go_wp2_with fail
  obtain ⟨x0, x1, x2, _, _, _⟩ := Mbx.cells (Mbx.put DZ r q A n c)
  refine bodyPost_ret (v := mV r q A n c) (by simp [results, Try.results24, go_sem, x0, x1, x2]) rfl ?_
  have hgs : W1.grownBy (((W1.setCell ⟨w.heap.size, 0, none⟩ (.int .i64 r)).setCell ⟨w.heap.size, 1, none⟩ (.int .i64 q)).setCell ⟨w.heap.size, 2, none⟩ (.slice A n c)) (some w.heap.size) := grown_setCell (grown_setCell (grown_setCell (World.grownBy.refl W1 _) 0 _) 1 _) 2 _
  exact ⟨rfl, bz.grown hgs bz.size (fun b e => by injection e with e; omega)⟩
end Go.Proofs.Ytbaeabmmokgomaa
