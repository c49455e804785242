/-
  Layer 9, walks: several reflections' factor, by the reference; which reflections have one. (Written by wip/tools/gen_rfu.py.)
-/
import Derived.Test.YtcdbjlmegkcaiaaRfT
namespace Go.Proofs.Ytcdbjlmegkcaiaa
open Go.RowKit Go.Bw
set_option linter.unusedVariables false
set_option linter.unusedSimpArgs false
attribute [local go_sem] run_store_float

theorem Rl.cells {w : World} {ad ea : Addr} {n c k m : Nat} {hs : List Re} {e : Re} (h : Rl w (some ad) n c hs) (hk : k < n) (he : hs[k]? = some e) (hE : ad.add (k * 2) = ea) (hm : e.l.length = m) :
    w.cell? ea = some (.slice e.A m e.c) ∧ w.cell? ⟨ea.block, ea.off + 1, none⟩ = some (.float .f64 e.t) ∧ FL w e.A m e.c e.l := by
  obtain ⟨e2, ad2, ea2, he2, hA, hE2, hl, h0, h1, h2, h3⟩ := h.at_ hk
  rw [he] at he2
  injection he2 with he2
  injection hA with hA
  subst he2
  subst hA
  rw [hE] at hE2
  subst hE2
  rw [hm] at h0 h2
  exact ⟨h0, h1, h2⟩
/-- the places of a factor that are done, the column's diagonal ahead -/
def fQ (j i a b : Nat) : Bool := decide (b < j ∨ (b = j ∧ (a < i ∨ a = j)) ∨ b < a)
set_option maxHeartbeats 2000000 in
theorem total_any {w : World} {A : Option Addr} {n c : Nat} {hs : List Re} (hL : Rl w A n c hs) : Calls Try.prog 20 #[.slice A n c] w (fun e w' => ∃ z : Int, e = .returned (.int .i64 z) ∧ w = w') := by
  have hn := hL.2.1
  have HL := Lib.hid hL
  clear hL
  go_enter Try.func20, Try.ntmps20
  go_wp2_with fail
  go_loopw [4, 3] (fun i s wr => ∃ (k : Nat) (z : Int), k ≤ n ∧ i = .int .i64 k ∧ s = .int .i64 z ∧ w = wr) (fun i _ _ => n - (intOf i).toNat)
  case atStart => exact ⟨0, 0, Nat.zero_le _, rfl, rfl, rfl⟩
  case round =>
    obtain ⟨k, z, hk, rfl, rfl, rfl⟩ := hrel
    by_cases hlt : k < n
    · obtain ⟨e, ad, ea, he, rfl, hE, hl, hc0, hc1, hv, bt⟩ := HL.out.at_ hlt
      have hlm := hv.max
      have k0 : (0 : Int) ≤ k := by omega
      have k1 : (k : Int) < n := by omega
      clear hv he bt
      go_wp2_with fail
      go_roundw
      case rel => first | exact ⟨k + 1, _, by omega, by go_num, rfl, rfl⟩ | exact ⟨k + 1, by omega, by omega⟩ | exact ⟨k + 1, _, by omega, by go_num, rfl, by trivial⟩
      case measure => simp [intOf]; omega
    · obtain rfl : k = n := by omega
      go_wp2_with fail
      go_ret
      exact ⟨z, rfl, rfl⟩

set_option maxRecDepth 100000 in
set_option maxHeartbeats 8000000 in
theorem rAlike_any {w : World} {A : Option Addr} {n c : Nat} {hs : List Re} {b : Bool} (hL : Rl w A n c hs) (hn9 : n ≤ 512) (hb : togB hs = b) :
    Calls Try.prog 22 #[.slice A n c] w (Ans w (.bool b)) := by
  have hn2 := hL.2.1
  have hlen := hL.1
  rcases hs with _ | ⟨e0, hs⟩
  · have hn0 : n = 0 := hlen.symm
    subst hn0
    obtain rfl : b = false := hb.symm
    clear hL hlen
    go_enter Try.func22, Try.ntmps22
    go_wp2_with fail
    go_loopw [3] (fun i wr => i = .int .i64 0 ∧ w = wr) (fun i _ => 0)
    case atStart => exact ⟨rfl, rfl⟩
    case round =>
      obtain ⟨rfl, rfl⟩ := hrel
      go_wp2_with fail
      go_ret
      exact ⟨rfl, Below.refl _ _⟩
  · have n1 : 0 < n := by rw [← hlen]; simp
    obtain ⟨ad, rfl⟩ : ∃ ad, A = some ad := by obtain ⟨e, ad, ea, _, hA, _⟩ := hL.at_ n1; exact ⟨ad, hA⟩
    have HL := Lib.hid hL
    have c00 := (hL.cells (k := 0) (ea := ad) n1 rfl (by simp [Addr.add]) rfl)
    obtain ⟨c0, _, f0⟩ := c00
    have hl0 := f0.max
    have HB : Hid ((decide (0 < e0.l.length) && longB e0.l.length (e0 :: hs)) = b) := Lib.hid hb
    have n2 : (0 : Int) < n := by omega
    have n3 : (n : Int) ≤ 512 := by omega
    clear hb hL f0
    go_enter Try.func22, Try.ntmps22
    go_wp2_with fail
    go_loopw [3] (fun i wr => ∃ k : Nat, k ≤ n ∧ i = .int .i64 k ∧ Hid (∀ e ∈ (e0 :: hs).take k, 0 < e.l.length ∧ e.l.length = e0.l.length) ∧ Dr w wr) (fun i _ => n - (intOf i).toNat)
    case atStart => exact ⟨0, Nat.zero_le _, rfl, Lib.hid (fun e he => by simp at he), Dr.refl w⟩
    case round =>
      obtain ⟨k, hk, rfl, HT, dr⟩ := hrel
      by_cases hlt : k < n
      · have hLW := HL.out.on (dr.below _)
        obtain ⟨e, he, hfe, _⟩ := hLW.get hlt
        obtain ⟨ea, hE⟩ : ∃ ea, ad.add (k * 2) = ea := ⟨_, rfl⟩
        obtain ⟨d0, _, _⟩ := hLW.cells hlt he hE rfl
        have c1 := (hLW.cells (k := 0) (ea := ad) n1 rfl (by simp [Addr.add]) rfl).1
        have hem := hfe.max
        have HM := Lib.hid (List.mem_of_getElem? he)
        have HTN : Hid ((e0 :: hs).take (k + 1) = (e0 :: hs).take k ++ [e]) := Lib.hid (by rw [List.take_add_one, he]; rfl)
        have k0 : (0 : Int) ≤ k := by omega
        have k1 : (k : Int) < n := by omega
        clear hfe he hLW
        go_wp2_with fail
        replace d0 : wr.drew.cell? ea = some (.slice e.A e.l.length e.c) := d0
        replace c1 : wr.drew.cell? ad = some (.slice e0.A e0.l.length e0.c) := c1
        replace dr : Dr w wr.drew := dr.trans ⟨1, rfl⟩
        by_cases z0 : e.l.length = 0
        · have z1 : ((e.l.length : Int) == 0) = true := beq_iff_eq.2 (by omega)
          obtain rfl : b = false := by
            rw [← HB.out]
            cases h9 : (decide (0 < e0.l.length) && longB e0.l.length (e0 :: hs))
            · rfl
            · exfalso
              simp only [Bool.and_eq_true, decide_eq_true_eq] at h9
              have h8 := of_decide_eq_true (List.all_eq_true.1 h9.2 e HM.out)
              omega
          refine wp_region_held_drew (S := fun w9 : World => w9.cell? ea = some (.slice e.A e.l.length e.c) ∧ w9.cell? ad = some (.slice e0.A e0.l.length e0.c)) (by kernel_rfl) ⟨d0, c1⟩ (fun hS => ?_)
          refine wpAnyH_take (i := 0) (v := ?v0_26) rfl (by kernel_rfl) (by kernel_rfl) (by kernel_rfl) (fun _ _ _ h => h) (Or.inl ⟨by rfl, ?hy0_26⟩) (by assumption) ?rest0_26
          case hy0_26 => (intro w9 hSw; clear hSw; go_simp; try with_reducible rfl)
          try simp only [Act.put, List.setIfInBounds_toArray, List.set_cons_zero, List.set_cons_succ, List.getElem_toArray, List.getElem_cons_zero, List.getElem_cons_succ]
          refine wpAnyH_take (i := 1) (v := ?v1_27) rfl (by kernel_rfl) (by kernel_rfl) (by kernel_rfl) (fun _ _ _ h => h) (Or.inl ⟨by rfl, ?hy1_27⟩) (by assumption) ?rest1_27
          case hy1_27 => (intro w9 hSw; clear hSw; go_simp; try with_reducible rfl)
          try simp only [Act.put, List.setIfInBounds_toArray, List.set_cons_zero, List.set_cons_succ, List.getElem_toArray, List.getElem_cons_zero, List.getElem_cons_succ]
          refine wpAnyH_take (i := 2) (v := ?v2_28) rfl (by kernel_rfl) (by kernel_rfl) (by kernel_rfl) (fun _ _ _ h => h) (Or.inl ⟨by rfl, ?hy2_28⟩) (by assumption) ?rest2_28
          case hy2_28 => (intro w9 hSw; clear hSw; go_simp; try with_reducible rfl)
          try simp only [Act.put, List.setIfInBounds_toArray, List.set_cons_zero, List.set_cons_succ, List.getElem_toArray, List.getElem_cons_zero, List.getElem_cons_succ]
          refine wpAnyH_take (i := 3) (v := ?v3_29) rfl (by kernel_rfl) (by kernel_rfl) (by kernel_rfl) (fun _ _ _ h => h) (Or.inl ⟨by rfl, ?hy3_29⟩) (by assumption) ?rest3_29
          case hy3_29 => (intro w9 hSw; clear hSw; go_simp; try with_reducible rfl)
          try simp only [Act.put, List.setIfInBounds_toArray, List.set_cons_zero, List.set_cons_succ, List.getElem_toArray, List.getElem_cons_zero, List.getElem_cons_succ]
          refine wpAnyH_take (i := 4) (v := ?v4_30) rfl (by kernel_rfl) (by kernel_rfl) (by kernel_rfl) (fun _ _ _ h => h) (Or.inl ⟨by rfl, ?hy4_30⟩) (by assumption) ?rest4_30
          case hy4_30 => (intro w9 hSw; obtain ⟨m0, m1⟩ := hSw; go_simp; try with_reducible rfl)
          try simp only [Act.put, List.setIfInBounds_toArray, List.set_cons_zero, List.set_cons_succ, List.getElem_toArray, List.getElem_cons_zero, List.getElem_cons_succ]
          refine wpAnyH_take (i := 5) (v := ?v5_31) rfl (by kernel_rfl) (by kernel_rfl) (by kernel_rfl) (fun _ _ _ h => h) (Or.inl ⟨by rfl, ?hy5_31⟩) (by assumption) ?rest5_31
          case hy5_31 => (intro w9 hSw; obtain ⟨m0, m1⟩ := hSw; go_simp; try with_reducible rfl)
          try simp only [Act.put, List.setIfInBounds_toArray, List.set_cons_zero, List.set_cons_succ, List.getElem_toArray, List.getElem_cons_zero, List.getElem_cons_succ]
          refine wpAnyH_take (i := 6) (v := ?v6_32) rfl (by kernel_rfl) (by kernel_rfl) (by kernel_rfl) (fun _ _ _ h => h) (Or.inl ⟨by rfl, ?hy6_32⟩) (by assumption) ?rest6_32
          case hy6_32 => (intro w9 hSw; clear hSw; go_simp; try with_reducible rfl)
          try simp only [Act.put, List.setIfInBounds_toArray, List.set_cons_zero, List.set_cons_succ, List.getElem_toArray, List.getElem_cons_zero, List.getElem_cons_succ]
          refine wpAnyH_take (i := 7) (v := ?v7_33) rfl (by kernel_rfl) (by kernel_rfl) (by kernel_rfl) (fun _ _ _ h => h) (Or.inl ⟨by rfl, ?hy7_33⟩) (by assumption) ?rest7_33
          case hy7_33 => (intro w9 hSw; clear hSw; go_simp; try with_reducible rfl)
          try simp only [Act.put, List.setIfInBounds_toArray, List.set_cons_zero, List.set_cons_succ, List.getElem_toArray, List.getElem_cons_zero, List.getElem_cons_succ]
          refine wpAnyH_take (i := 8) (v := undef) rfl (by kernel_rfl) (by kernel_rfl) (by kernel_rfl) (fun _ _ _ h => h) (Or.inr ⟨by rfl, rfl⟩) (by assumption) ?_
          try simp only [Act.put, List.setIfInBounds_toArray, List.set_cons_zero, List.set_cons_succ, List.getElem_toArray, List.getElem_cons_zero, List.getElem_cons_succ]
          refine wpAnyH_take (i := 9) (v := undef) rfl (by kernel_rfl) (by kernel_rfl) (by kernel_rfl) (fun _ _ _ h => h) (Or.inr ⟨by rfl, rfl⟩) (by assumption) ?_
          try simp only [Act.put, List.setIfInBounds_toArray, List.set_cons_zero, List.set_cons_succ, List.getElem_toArray, List.getElem_cons_zero, List.getElem_cons_succ]
          refine wpAnyH_take (i := 10) (v := undef) rfl (by kernel_rfl) (by kernel_rfl) (by kernel_rfl) (fun _ _ _ h => h) (Or.inr ⟨by rfl, rfl⟩) (by assumption) ?_
          try simp only [Act.put, List.setIfInBounds_toArray, List.set_cons_zero, List.set_cons_succ, List.getElem_toArray, List.getElem_cons_zero, List.getElem_cons_succ]
          refine wpAnyH_take (i := 11) (v := undef) rfl (by kernel_rfl) (by kernel_rfl) (by kernel_rfl) (fun _ _ _ h => h) (Or.inr ⟨by rfl, rfl⟩) (by assumption) ?_
          try simp only [Act.put, List.setIfInBounds_toArray, List.set_cons_zero, List.set_cons_succ, List.getElem_toArray, List.getElem_cons_zero, List.getElem_cons_succ]
          refine wpAnyH_take (i := 12) (v := undef) rfl (by kernel_rfl) (by kernel_rfl) (by kernel_rfl) (fun _ _ _ h => h) (Or.inr ⟨by rfl, rfl⟩) (by assumption) ?_
          try simp only [Act.put, List.setIfInBounds_toArray, List.set_cons_zero, List.set_cons_succ, List.getElem_toArray, List.getElem_cons_zero, List.getElem_cons_succ]
          refine wpAnyH_take (i := 13) (v := undef) rfl (by kernel_rfl) (by kernel_rfl) (by kernel_rfl) (fun _ _ _ h => h) (Or.inr ⟨by rfl, rfl⟩) (by assumption) ?_
          try simp only [Act.put, List.setIfInBounds_toArray, List.set_cons_zero, List.set_cons_succ, List.getElem_toArray, List.getElem_cons_zero, List.getElem_cons_succ]
          refine wpAnyH_take (i := 14) (v := undef) rfl (by kernel_rfl) (by kernel_rfl) (by kernel_rfl) (fun _ _ _ h => h) (Or.inr ⟨by rfl, rfl⟩) (by assumption) ?_
          try simp only [Act.put, List.setIfInBounds_toArray, List.set_cons_zero, List.set_cons_succ, List.getElem_toArray, List.getElem_cons_zero, List.getElem_cons_succ]
          refine wpAnyH_take (i := 15) (v := undef) rfl (by kernel_rfl) (by kernel_rfl) (by kernel_rfl) (fun _ _ _ h => h) (Or.inr ⟨by rfl, rfl⟩) (by assumption) ?_
          try simp only [Act.put, List.setIfInBounds_toArray, List.set_cons_zero, List.set_cons_succ, List.getElem_toArray, List.getElem_cons_zero, List.getElem_cons_succ]
          refine wpAnyH_take (i := 16) (v := undef) rfl (by kernel_rfl) (by kernel_rfl) (by kernel_rfl) (fun _ _ _ h => h) (Or.inr ⟨by rfl, rfl⟩) (by assumption) ?_
          try simp only [Act.put, List.setIfInBounds_toArray, List.set_cons_zero, List.set_cons_succ, List.getElem_toArray, List.getElem_cons_zero, List.getElem_cons_succ]
          refine wpAnyH_take (i := 17) (v := undef) rfl (by kernel_rfl) (by kernel_rfl) (by kernel_rfl) (fun _ _ _ h => h) (Or.inr ⟨by rfl, rfl⟩) (by assumption) ?_
          try simp only [Act.put, List.setIfInBounds_toArray, List.set_cons_zero, List.set_cons_succ, List.getElem_toArray, List.getElem_cons_zero, List.getElem_cons_succ]
          refine wpAnyH_take (i := 18) (v := undef) rfl (by kernel_rfl) (by kernel_rfl) (by kernel_rfl) (fun _ _ _ h => h) (Or.inr ⟨by rfl, rfl⟩) (by assumption) ?_
          try simp only [Act.put, List.setIfInBounds_toArray, List.set_cons_zero, List.set_cons_succ, List.getElem_toArray, List.getElem_cons_zero, List.getElem_cons_succ]
          refine wpAnyH_take (i := 19) (v := undef) rfl (by kernel_rfl) (by kernel_rfl) (by kernel_rfl) (fun _ _ _ h => h) (Or.inr ⟨by rfl, rfl⟩) (by assumption) ?_
          try simp only [Act.put, List.setIfInBounds_toArray, List.set_cons_zero, List.set_cons_succ, List.getElem_toArray, List.getElem_cons_zero, List.getElem_cons_succ]
          refine wpAnyH_take (i := 20) (v := ?v20_34) rfl (by kernel_rfl) (by kernel_rfl) (by kernel_rfl) (fun _ _ _ h => h) (Or.inl ⟨by rfl, ?hy20_34⟩) (by assumption) ?rest20_34
          case hy20_34 => (intro w9 hSw; clear hSw; go_simp; try with_reducible rfl)
          try simp only [Act.put, List.setIfInBounds_toArray, List.set_cons_zero, List.set_cons_succ, List.getElem_toArray, List.getElem_cons_zero, List.getElem_cons_succ]
          refine wpAnyH_done (by kernel_rfl) ?_ _
          go_wp2_with fail
          go_ret
          exact ⟨rfl, dr.below _⟩
        · have z1 : ((e.l.length : Int) == 0) = false := beq_eq_false_iff_ne.2 (by omega)
          by_cases z2 : e.l.length = e0.l.length
          · have z3 : ((e.l.length : Int) == (e0.l.length : Int)) = true := beq_iff_eq.2 (by omega)
            have z4 : ((e.l.length : Int) != (e0.l.length : Int)) = false := bne_eq_false_iff_eq.2 (by omega)
            have HZ2 := Lib.hid z2
            clear z2
            refine wp_region_held_drew (S := fun w9 : World => w9.cell? ea = some (.slice e.A e.l.length e.c) ∧ w9.cell? ad = some (.slice e0.A e0.l.length e0.c)) (by kernel_rfl) ⟨d0, c1⟩ (fun hS => ?_)
            refine wpAnyH_take (i := 0) (v := ?v0_35) rfl (by kernel_rfl) (by kernel_rfl) (by kernel_rfl) (fun _ _ _ h => h) (Or.inl ⟨by rfl, ?hy0_35⟩) (by assumption) ?rest0_35
            case hy0_35 => (intro w9 hSw; clear hSw; go_simp; try with_reducible rfl)
            try simp only [Act.put, List.setIfInBounds_toArray, List.set_cons_zero, List.set_cons_succ, List.getElem_toArray, List.getElem_cons_zero, List.getElem_cons_succ]
            refine wpAnyH_take (i := 1) (v := ?v1_36) rfl (by kernel_rfl) (by kernel_rfl) (by kernel_rfl) (fun _ _ _ h => h) (Or.inl ⟨by rfl, ?hy1_36⟩) (by assumption) ?rest1_36
            case hy1_36 => (intro w9 hSw; clear hSw; go_simp; try with_reducible rfl)
            try simp only [Act.put, List.setIfInBounds_toArray, List.set_cons_zero, List.set_cons_succ, List.getElem_toArray, List.getElem_cons_zero, List.getElem_cons_succ]
            refine wpAnyH_take (i := 2) (v := ?v2_37) rfl (by kernel_rfl) (by kernel_rfl) (by kernel_rfl) (fun _ _ _ h => h) (Or.inl ⟨by rfl, ?hy2_37⟩) (by assumption) ?rest2_37
            case hy2_37 => (intro w9 hSw; clear hSw; go_simp; try with_reducible rfl)
            try simp only [Act.put, List.setIfInBounds_toArray, List.set_cons_zero, List.set_cons_succ, List.getElem_toArray, List.getElem_cons_zero, List.getElem_cons_succ]
            refine wpAnyH_take (i := 3) (v := ?v3_38) rfl (by kernel_rfl) (by kernel_rfl) (by kernel_rfl) (fun _ _ _ h => h) (Or.inl ⟨by rfl, ?hy3_38⟩) (by assumption) ?rest3_38
            case hy3_38 => (intro w9 hSw; clear hSw; go_simp; try with_reducible rfl)
            try simp only [Act.put, List.setIfInBounds_toArray, List.set_cons_zero, List.set_cons_succ, List.getElem_toArray, List.getElem_cons_zero, List.getElem_cons_succ]
            refine wpAnyH_take (i := 4) (v := ?v4_39) rfl (by kernel_rfl) (by kernel_rfl) (by kernel_rfl) (fun _ _ _ h => h) (Or.inl ⟨by rfl, ?hy4_39⟩) (by assumption) ?rest4_39
            case hy4_39 => (intro w9 hSw; obtain ⟨m0, m1⟩ := hSw; go_simp; try with_reducible rfl)
            try simp only [Act.put, List.setIfInBounds_toArray, List.set_cons_zero, List.set_cons_succ, List.getElem_toArray, List.getElem_cons_zero, List.getElem_cons_succ]
            refine wpAnyH_take (i := 5) (v := ?v5_40) rfl (by kernel_rfl) (by kernel_rfl) (by kernel_rfl) (fun _ _ _ h => h) (Or.inl ⟨by rfl, ?hy5_40⟩) (by assumption) ?rest5_40
            case hy5_40 => (intro w9 hSw; obtain ⟨m0, m1⟩ := hSw; go_simp; try with_reducible rfl)
            try simp only [Act.put, List.setIfInBounds_toArray, List.set_cons_zero, List.set_cons_succ, List.getElem_toArray, List.getElem_cons_zero, List.getElem_cons_succ]
            refine wpAnyH_take (i := 6) (v := ?v6_41) rfl (by kernel_rfl) (by kernel_rfl) (by kernel_rfl) (fun _ _ _ h => h) (Or.inl ⟨by rfl, ?hy6_41⟩) (by assumption) ?rest6_41
            case hy6_41 => (intro w9 hSw; clear hSw; go_simp; try with_reducible rfl)
            try simp only [Act.put, List.setIfInBounds_toArray, List.set_cons_zero, List.set_cons_succ, List.getElem_toArray, List.getElem_cons_zero, List.getElem_cons_succ]
            refine wpAnyH_take (i := 7) (v := ?v7_42) rfl (by kernel_rfl) (by kernel_rfl) (by kernel_rfl) (fun _ _ _ h => h) (Or.inl ⟨by rfl, ?hy7_42⟩) (by assumption) ?rest7_42
            case hy7_42 => (intro w9 hSw; clear hSw; go_simp; try with_reducible rfl)
            try simp only [Act.put, List.setIfInBounds_toArray, List.set_cons_zero, List.set_cons_succ, List.getElem_toArray, List.getElem_cons_zero, List.getElem_cons_succ]
            refine wpAnyH_take (i := 8) (v := ?v8_43) rfl (by kernel_rfl) (by kernel_rfl) (by kernel_rfl) (fun _ _ _ h => h) (Or.inl ⟨by rfl, ?hy8_43⟩) (by assumption) ?rest8_43
            case hy8_43 => (intro w9 hSw; clear hSw; go_simp; try with_reducible rfl)
            try simp only [Act.put, List.setIfInBounds_toArray, List.set_cons_zero, List.set_cons_succ, List.getElem_toArray, List.getElem_cons_zero, List.getElem_cons_succ]
            refine wpAnyH_take (i := 9) (v := ?v9_44) rfl (by kernel_rfl) (by kernel_rfl) (by kernel_rfl) (fun _ _ _ h => h) (Or.inl ⟨by rfl, ?hy9_44⟩) (by assumption) ?rest9_44
            case hy9_44 => (intro w9 hSw; clear hSw; go_simp; try with_reducible rfl)
            try simp only [Act.put, List.setIfInBounds_toArray, List.set_cons_zero, List.set_cons_succ, List.getElem_toArray, List.getElem_cons_zero, List.getElem_cons_succ]
            refine wpAnyH_take (i := 10) (v := ?v10_45) rfl (by kernel_rfl) (by kernel_rfl) (by kernel_rfl) (fun _ _ _ h => h) (Or.inl ⟨by rfl, ?hy10_45⟩) (by assumption) ?rest10_45
            case hy10_45 => (intro w9 hSw; clear hSw; go_simp; try with_reducible rfl)
            try simp only [Act.put, List.setIfInBounds_toArray, List.set_cons_zero, List.set_cons_succ, List.getElem_toArray, List.getElem_cons_zero, List.getElem_cons_succ]
            refine wpAnyH_take (i := 11) (v := ?v11_46) rfl (by kernel_rfl) (by kernel_rfl) (by kernel_rfl) (fun _ _ _ h => h) (Or.inl ⟨by rfl, ?hy11_46⟩) (by assumption) ?rest11_46
            case hy11_46 => (intro w9 hSw; clear hSw; go_simp; try with_reducible rfl)
            try simp only [Act.put, List.setIfInBounds_toArray, List.set_cons_zero, List.set_cons_succ, List.getElem_toArray, List.getElem_cons_zero, List.getElem_cons_succ]
            refine wpAnyH_take (i := 12) (v := ?v12_47) rfl (by kernel_rfl) (by kernel_rfl) (by kernel_rfl) (fun _ _ _ h => h) (Or.inl ⟨by rfl, ?hy12_47⟩) (by assumption) ?rest12_47
            case hy12_47 => (intro w9 hSw; obtain ⟨m0, m1⟩ := hSw; go_simp; try with_reducible rfl)
            try simp only [Act.put, List.setIfInBounds_toArray, List.set_cons_zero, List.set_cons_succ, List.getElem_toArray, List.getElem_cons_zero, List.getElem_cons_succ]
            refine wpAnyH_take (i := 13) (v := ?v13_48) rfl (by kernel_rfl) (by kernel_rfl) (by kernel_rfl) (fun _ _ _ h => h) (Or.inl ⟨by rfl, ?hy13_48⟩) (by assumption) ?rest13_48
            case hy13_48 => (intro w9 hSw; obtain ⟨m0, m1⟩ := hSw; go_simp; try with_reducible rfl)
            try simp only [Act.put, List.setIfInBounds_toArray, List.set_cons_zero, List.set_cons_succ, List.getElem_toArray, List.getElem_cons_zero, List.getElem_cons_succ]
            refine wpAnyH_take (i := 14) (v := ?v14_49) rfl (by kernel_rfl) (by kernel_rfl) (by kernel_rfl) (fun _ _ _ h => h) (Or.inl ⟨by rfl, ?hy14_49⟩) (by assumption) ?rest14_49
            case hy14_49 => (intro w9 hSw; clear hSw; go_simp; try with_reducible rfl)
            try simp only [Act.put, List.setIfInBounds_toArray, List.set_cons_zero, List.set_cons_succ, List.getElem_toArray, List.getElem_cons_zero, List.getElem_cons_succ]
            refine wpAnyH_take (i := 15) (v := ?v15_50) rfl (by kernel_rfl) (by kernel_rfl) (by kernel_rfl) (fun _ _ _ h => h) (Or.inl ⟨by rfl, ?hy15_50⟩) (by assumption) ?rest15_50
            case hy15_50 => (intro w9 hSw; clear hSw; go_simp; try with_reducible rfl)
            try simp only [Act.put, List.setIfInBounds_toArray, List.set_cons_zero, List.set_cons_succ, List.getElem_toArray, List.getElem_cons_zero, List.getElem_cons_succ]
            refine wpAnyH_take (i := 16) (v := ?v16_51) rfl (by kernel_rfl) (by kernel_rfl) (by kernel_rfl) (fun _ _ _ h => h) (Or.inl ⟨by rfl, ?hy16_51⟩) (by assumption) ?rest16_51
            case hy16_51 => (intro w9 hSw; clear hSw; go_simp; try with_reducible rfl)
            try simp only [Act.put, List.setIfInBounds_toArray, List.set_cons_zero, List.set_cons_succ, List.getElem_toArray, List.getElem_cons_zero, List.getElem_cons_succ]
            refine wpAnyH_take (i := 17) (v := ?v17_52) rfl (by kernel_rfl) (by kernel_rfl) (by kernel_rfl) (fun _ _ _ h => h) (Or.inl ⟨by rfl, ?hy17_52⟩) (by assumption) ?rest17_52
            case hy17_52 => (intro w9 hSw; obtain ⟨m0, m1⟩ := hSw; go_simp; try with_reducible rfl)
            try simp only [Act.put, List.setIfInBounds_toArray, List.set_cons_zero, List.set_cons_succ, List.getElem_toArray, List.getElem_cons_zero, List.getElem_cons_succ]
            refine wpAnyH_take (i := 18) (v := ?v18_53) rfl (by kernel_rfl) (by kernel_rfl) (by kernel_rfl) (fun _ _ _ h => h) (Or.inl ⟨by rfl, ?hy18_53⟩) (by assumption) ?rest18_53
            case hy18_53 => (intro w9 hSw; obtain ⟨m0, m1⟩ := hSw; go_simp; try with_reducible rfl)
            try simp only [Act.put, List.setIfInBounds_toArray, List.set_cons_zero, List.set_cons_succ, List.getElem_toArray, List.getElem_cons_zero, List.getElem_cons_succ]
            refine wpAnyH_take (i := 19) (v := ?v19_54) rfl (by kernel_rfl) (by kernel_rfl) (by kernel_rfl) (fun _ _ _ h => h) (Or.inl ⟨by rfl, ?hy19_54⟩) (by assumption) ?rest19_54
            case hy19_54 => (intro w9 hSw; clear hSw; go_simp; try with_reducible rfl)
            try simp only [Act.put, List.setIfInBounds_toArray, List.set_cons_zero, List.set_cons_succ, List.getElem_toArray, List.getElem_cons_zero, List.getElem_cons_succ]
            refine wpAnyH_take (i := 20) (v := ?v20_55) rfl (by kernel_rfl) (by kernel_rfl) (by kernel_rfl) (fun _ _ _ h => h) (Or.inl ⟨by rfl, ?hy20_55⟩) (by assumption) ?rest20_55
            case hy20_55 => (intro w9 hSw; clear hSw; go_simp; try with_reducible rfl)
            try simp only [Act.put, List.setIfInBounds_toArray, List.set_cons_zero, List.set_cons_succ, List.getElem_toArray, List.getElem_cons_zero, List.getElem_cons_succ]
            refine wpAnyH_done (by kernel_rfl) ?_ _
            have HT2 : Hid (∀ e9 ∈ (e0 :: hs).take (k + 1), 0 < e9.l.length ∧ e9.l.length = e0.l.length) := Lib.hid (by rw [HTN.out]; intro e9 h9; rcases List.mem_append.1 h9 with h8 | h8; exact HT.out e9 h8; rw [List.mem_singleton.1 h8]; have := HZ2.out; omega)
            go_wp2_with fail
            go_roundw
            case rel => exact ⟨k + 1, by omega, by go_num, HT2, dr⟩
            case measure => simp [intOf]; omega
          · have z3 : ((e.l.length : Int) == (e0.l.length : Int)) = false := beq_eq_false_iff_ne.2 (by omega)
            have z4 : ((e.l.length : Int) != (e0.l.length : Int)) = true := bne_iff_ne.2 (by omega)
            obtain rfl : b = false := by
              rw [← HB.out]
              cases h9 : (decide (0 < e0.l.length) && longB e0.l.length (e0 :: hs))
              · rfl
              · exfalso
                simp only [Bool.and_eq_true, decide_eq_true_eq] at h9
                have h8 := of_decide_eq_true (List.all_eq_true.1 h9.2 e HM.out)
                omega
            refine wp_region_held_drew (S := fun w9 : World => w9.cell? ea = some (.slice e.A e.l.length e.c) ∧ w9.cell? ad = some (.slice e0.A e0.l.length e0.c)) (by kernel_rfl) ⟨d0, c1⟩ (fun hS => ?_)
            refine wpAnyH_take (i := 0) (v := ?v0_56) rfl (by kernel_rfl) (by kernel_rfl) (by kernel_rfl) (fun _ _ _ h => h) (Or.inl ⟨by rfl, ?hy0_56⟩) (by assumption) ?rest0_56
            case hy0_56 => (intro w9 hSw; clear hSw; go_simp; try with_reducible rfl)
            try simp only [Act.put, List.setIfInBounds_toArray, List.set_cons_zero, List.set_cons_succ, List.getElem_toArray, List.getElem_cons_zero, List.getElem_cons_succ]
            refine wpAnyH_take (i := 1) (v := ?v1_57) rfl (by kernel_rfl) (by kernel_rfl) (by kernel_rfl) (fun _ _ _ h => h) (Or.inl ⟨by rfl, ?hy1_57⟩) (by assumption) ?rest1_57
            case hy1_57 => (intro w9 hSw; clear hSw; go_simp; try with_reducible rfl)
            try simp only [Act.put, List.setIfInBounds_toArray, List.set_cons_zero, List.set_cons_succ, List.getElem_toArray, List.getElem_cons_zero, List.getElem_cons_succ]
            refine wpAnyH_take (i := 2) (v := ?v2_58) rfl (by kernel_rfl) (by kernel_rfl) (by kernel_rfl) (fun _ _ _ h => h) (Or.inl ⟨by rfl, ?hy2_58⟩) (by assumption) ?rest2_58
            case hy2_58 => (intro w9 hSw; clear hSw; go_simp; try with_reducible rfl)
            try simp only [Act.put, List.setIfInBounds_toArray, List.set_cons_zero, List.set_cons_succ, List.getElem_toArray, List.getElem_cons_zero, List.getElem_cons_succ]
            refine wpAnyH_take (i := 3) (v := ?v3_59) rfl (by kernel_rfl) (by kernel_rfl) (by kernel_rfl) (fun _ _ _ h => h) (Or.inl ⟨by rfl, ?hy3_59⟩) (by assumption) ?rest3_59
            case hy3_59 => (intro w9 hSw; clear hSw; go_simp; try with_reducible rfl)
            try simp only [Act.put, List.setIfInBounds_toArray, List.set_cons_zero, List.set_cons_succ, List.getElem_toArray, List.getElem_cons_zero, List.getElem_cons_succ]
            refine wpAnyH_take (i := 4) (v := ?v4_60) rfl (by kernel_rfl) (by kernel_rfl) (by kernel_rfl) (fun _ _ _ h => h) (Or.inl ⟨by rfl, ?hy4_60⟩) (by assumption) ?rest4_60
            case hy4_60 => (intro w9 hSw; obtain ⟨m0, m1⟩ := hSw; go_simp; try with_reducible rfl)
            try simp only [Act.put, List.setIfInBounds_toArray, List.set_cons_zero, List.set_cons_succ, List.getElem_toArray, List.getElem_cons_zero, List.getElem_cons_succ]
            refine wpAnyH_take (i := 5) (v := ?v5_61) rfl (by kernel_rfl) (by kernel_rfl) (by kernel_rfl) (fun _ _ _ h => h) (Or.inl ⟨by rfl, ?hy5_61⟩) (by assumption) ?rest5_61
            case hy5_61 => (intro w9 hSw; obtain ⟨m0, m1⟩ := hSw; go_simp; try with_reducible rfl)
            try simp only [Act.put, List.setIfInBounds_toArray, List.set_cons_zero, List.set_cons_succ, List.getElem_toArray, List.getElem_cons_zero, List.getElem_cons_succ]
            refine wpAnyH_take (i := 6) (v := ?v6_62) rfl (by kernel_rfl) (by kernel_rfl) (by kernel_rfl) (fun _ _ _ h => h) (Or.inl ⟨by rfl, ?hy6_62⟩) (by assumption) ?rest6_62
            case hy6_62 => (intro w9 hSw; clear hSw; go_simp; try with_reducible rfl)
            try simp only [Act.put, List.setIfInBounds_toArray, List.set_cons_zero, List.set_cons_succ, List.getElem_toArray, List.getElem_cons_zero, List.getElem_cons_succ]
            refine wpAnyH_take (i := 7) (v := ?v7_63) rfl (by kernel_rfl) (by kernel_rfl) (by kernel_rfl) (fun _ _ _ h => h) (Or.inl ⟨by rfl, ?hy7_63⟩) (by assumption) ?rest7_63
            case hy7_63 => (intro w9 hSw; clear hSw; go_simp; try with_reducible rfl)
            try simp only [Act.put, List.setIfInBounds_toArray, List.set_cons_zero, List.set_cons_succ, List.getElem_toArray, List.getElem_cons_zero, List.getElem_cons_succ]
            refine wpAnyH_take (i := 8) (v := ?v8_64) rfl (by kernel_rfl) (by kernel_rfl) (by kernel_rfl) (fun _ _ _ h => h) (Or.inl ⟨by rfl, ?hy8_64⟩) (by assumption) ?rest8_64
            case hy8_64 => (intro w9 hSw; clear hSw; go_simp; try with_reducible rfl)
            try simp only [Act.put, List.setIfInBounds_toArray, List.set_cons_zero, List.set_cons_succ, List.getElem_toArray, List.getElem_cons_zero, List.getElem_cons_succ]
            refine wpAnyH_take (i := 9) (v := ?v9_65) rfl (by kernel_rfl) (by kernel_rfl) (by kernel_rfl) (fun _ _ _ h => h) (Or.inl ⟨by rfl, ?hy9_65⟩) (by assumption) ?rest9_65
            case hy9_65 => (intro w9 hSw; clear hSw; go_simp; try with_reducible rfl)
            try simp only [Act.put, List.setIfInBounds_toArray, List.set_cons_zero, List.set_cons_succ, List.getElem_toArray, List.getElem_cons_zero, List.getElem_cons_succ]
            refine wpAnyH_take (i := 10) (v := ?v10_66) rfl (by kernel_rfl) (by kernel_rfl) (by kernel_rfl) (fun _ _ _ h => h) (Or.inl ⟨by rfl, ?hy10_66⟩) (by assumption) ?rest10_66
            case hy10_66 => (intro w9 hSw; clear hSw; go_simp; try with_reducible rfl)
            try simp only [Act.put, List.setIfInBounds_toArray, List.set_cons_zero, List.set_cons_succ, List.getElem_toArray, List.getElem_cons_zero, List.getElem_cons_succ]
            refine wpAnyH_take (i := 11) (v := ?v11_67) rfl (by kernel_rfl) (by kernel_rfl) (by kernel_rfl) (fun _ _ _ h => h) (Or.inl ⟨by rfl, ?hy11_67⟩) (by assumption) ?rest11_67
            case hy11_67 => (intro w9 hSw; clear hSw; go_simp; try with_reducible rfl)
            try simp only [Act.put, List.setIfInBounds_toArray, List.set_cons_zero, List.set_cons_succ, List.getElem_toArray, List.getElem_cons_zero, List.getElem_cons_succ]
            refine wpAnyH_take (i := 12) (v := ?v12_68) rfl (by kernel_rfl) (by kernel_rfl) (by kernel_rfl) (fun _ _ _ h => h) (Or.inl ⟨by rfl, ?hy12_68⟩) (by assumption) ?rest12_68
            case hy12_68 => (intro w9 hSw; obtain ⟨m0, m1⟩ := hSw; go_simp; try with_reducible rfl)
            try simp only [Act.put, List.setIfInBounds_toArray, List.set_cons_zero, List.set_cons_succ, List.getElem_toArray, List.getElem_cons_zero, List.getElem_cons_succ]
            refine wpAnyH_take (i := 13) (v := ?v13_69) rfl (by kernel_rfl) (by kernel_rfl) (by kernel_rfl) (fun _ _ _ h => h) (Or.inl ⟨by rfl, ?hy13_69⟩) (by assumption) ?rest13_69
            case hy13_69 => (intro w9 hSw; obtain ⟨m0, m1⟩ := hSw; go_simp; try with_reducible rfl)
            try simp only [Act.put, List.setIfInBounds_toArray, List.set_cons_zero, List.set_cons_succ, List.getElem_toArray, List.getElem_cons_zero, List.getElem_cons_succ]
            refine wpAnyH_take (i := 14) (v := ?v14_70) rfl (by kernel_rfl) (by kernel_rfl) (by kernel_rfl) (fun _ _ _ h => h) (Or.inl ⟨by rfl, ?hy14_70⟩) (by assumption) ?rest14_70
            case hy14_70 => (intro w9 hSw; clear hSw; go_simp; try with_reducible rfl)
            try simp only [Act.put, List.setIfInBounds_toArray, List.set_cons_zero, List.set_cons_succ, List.getElem_toArray, List.getElem_cons_zero, List.getElem_cons_succ]
            refine wpAnyH_take (i := 15) (v := ?v15_71) rfl (by kernel_rfl) (by kernel_rfl) (by kernel_rfl) (fun _ _ _ h => h) (Or.inl ⟨by rfl, ?hy15_71⟩) (by assumption) ?rest15_71
            case hy15_71 => (intro w9 hSw; clear hSw; go_simp; try with_reducible rfl)
            try simp only [Act.put, List.setIfInBounds_toArray, List.set_cons_zero, List.set_cons_succ, List.getElem_toArray, List.getElem_cons_zero, List.getElem_cons_succ]
            refine wpAnyH_take (i := 16) (v := ?v16_72) rfl (by kernel_rfl) (by kernel_rfl) (by kernel_rfl) (fun _ _ _ h => h) (Or.inl ⟨by rfl, ?hy16_72⟩) (by assumption) ?rest16_72
            case hy16_72 => (intro w9 hSw; clear hSw; go_simp; try with_reducible rfl)
            try simp only [Act.put, List.setIfInBounds_toArray, List.set_cons_zero, List.set_cons_succ, List.getElem_toArray, List.getElem_cons_zero, List.getElem_cons_succ]
            refine wpAnyH_take (i := 17) (v := ?v17_73) rfl (by kernel_rfl) (by kernel_rfl) (by kernel_rfl) (fun _ _ _ h => h) (Or.inl ⟨by rfl, ?hy17_73⟩) (by assumption) ?rest17_73
            case hy17_73 => (intro w9 hSw; obtain ⟨m0, m1⟩ := hSw; go_simp; try with_reducible rfl)
            try simp only [Act.put, List.setIfInBounds_toArray, List.set_cons_zero, List.set_cons_succ, List.getElem_toArray, List.getElem_cons_zero, List.getElem_cons_succ]
            refine wpAnyH_take (i := 18) (v := ?v18_74) rfl (by kernel_rfl) (by kernel_rfl) (by kernel_rfl) (fun _ _ _ h => h) (Or.inl ⟨by rfl, ?hy18_74⟩) (by assumption) ?rest18_74
            case hy18_74 => (intro w9 hSw; obtain ⟨m0, m1⟩ := hSw; go_simp; try with_reducible rfl)
            try simp only [Act.put, List.setIfInBounds_toArray, List.set_cons_zero, List.set_cons_succ, List.getElem_toArray, List.getElem_cons_zero, List.getElem_cons_succ]
            refine wpAnyH_take (i := 19) (v := ?v19_75) rfl (by kernel_rfl) (by kernel_rfl) (by kernel_rfl) (fun _ _ _ h => h) (Or.inl ⟨by rfl, ?hy19_75⟩) (by assumption) ?rest19_75
            case hy19_75 => (intro w9 hSw; clear hSw; go_simp; try with_reducible rfl)
            try simp only [Act.put, List.setIfInBounds_toArray, List.set_cons_zero, List.set_cons_succ, List.getElem_toArray, List.getElem_cons_zero, List.getElem_cons_succ]
            refine wpAnyH_take (i := 20) (v := ?v20_76) rfl (by kernel_rfl) (by kernel_rfl) (by kernel_rfl) (fun _ _ _ h => h) (Or.inl ⟨by rfl, ?hy20_76⟩) (by assumption) ?rest20_76
            case hy20_76 => (intro w9 hSw; clear hSw; go_simp; try with_reducible rfl)
            try simp only [Act.put, List.setIfInBounds_toArray, List.set_cons_zero, List.set_cons_succ, List.getElem_toArray, List.getElem_cons_zero, List.getElem_cons_succ]
            refine wpAnyH_done (by kernel_rfl) ?_ _
            go_wp2_with fail
            go_ret
            exact ⟨rfl, dr.below _⟩
      · obtain rfl : k = n := by omega
        have e1 : b = true := by
          rw [← HB.out]
          have h9 := HT.out
          rw [← hlen, List.take_length] at h9
          rw [decide_eq_true (h9 e0 (by simp)).1, Bool.true_and]
          unfold longB
          rw [List.all_eq_true]
          intro e he
          exact decide_eq_true (by have := (h9 e he).2; omega)
        subst e1
        go_wp2_with fail
        go_ret
        exact ⟨rfl, dr.below _⟩

/-- a matrix in new memory -/
def MatQ2 (w : World) (R C : Int) (n : Nat) (F : Nat → Option Nat) (e : Ending) (w' : World) : Prop := ∃ A2 c2 L, e = .returned (mV R C A2 n c2) ∧ OwnF w' w.heap.size A2 c2 L ∧ Is L n F ∧ Below w.heap.size w w'
set_option maxRecDepth 100000 in
set_option maxHeartbeats 16000000 in
theorem rFactor_yes {w : World} {A : Option Addr} {n c m N : Nat} {hs : List Re} (hL : Rl w A n c hs) (hN : n * n = N) (hlen : ∀ e ∈ hs, e.l.length = m) (hm0 : 0 < m) (h1 : 0 < n) (h2 : n ≤ 2000) :
    Calls Try.prog 23 #[.slice A n c] w (MatQ2 w n n N (fun k => facC hs m n (k / n) (k % n))) := by
  obtain ⟨ad, rfl⟩ : ∃ ad, A = some ad := by obtain ⟨e, ad, ea, _, hA, _⟩ := hL.at_ h1; exact ⟨ad, hA⟩
  have HBA := Lib.hid (show ∀ e ∈ hs, ∀ a, e.A = some a → a.block ≠ w.heap.size + 1 from fun e he a ea => by have h9 := (hL.2.2.1 e he).1; have := fl_blk h9 (by rw [hlen e he]; exact hm0) a ea; omega)
  have hAB : ∀ a, some ad = some a → a.block ≠ w.heap.size + 1 := fun a ea => by have := hL.blk h1 a ea; omega
  have eN : (n : Int) * (n : Int) = (N : Int) := by exact_mod_cast hN
  have hN4 : N ≤ 4000000 := by rw [← hN]; exact Nat.le_trans (Nat.mul_le_mul h2 h2) (by decide)
  have wN : IntKind.i64.wrap (N : Int) = (N : Int) := IntWalk.i64_in _ (by omega)
  have hmk := run_makeF N hN4
  have HN := Lib.hid hN
  have HLEN := Lib.hid hlen
  clear hN hlen
  have bz := (((Below.refl _ w).alloc (Nat.le_refl _) (.cells #[.int .i64 0, .int .i64 0, .slice none 0 0] 36)).alloc (by simp) (.cells (LF (List.replicate N 0)).toArray 24)).alloc (by simp; omega) (.cells #[.int .i64 n, .int .i64 n, .slice (some ⟨w.heap.size + 1, 0, none⟩) N N] 36)
  have DZ := ((Blk.new w [.int .i64 0, .int .i64 0, .slice none 0 0] 36).alloc (.cells (LF (List.replicate N 0)).toArray 24)).alloc (.cells #[.int .i64 n, .int .i64 n, .slice (some ⟨w.heap.size + 1, 0, none⟩) N N] 36)
  have DT := Blk.new ((w.alloc (.cells #[.int .i64 0, .int .i64 0, .slice none 0 0] 36)).alloc (.cells (LF (List.replicate N 0)).toArray 24)) [.int .i64 n, .int .i64 n, .slice (some ⟨w.heap.size + 1, 0, none⟩) N N] 36
  have hO := (((RowF.new (w.alloc (.cells #[.int .i64 0, .int .i64 0, .slice none 0 0] 36)) (List.replicate N 0)).alloc (.cells #[.int .i64 n, .int .i64 n, .slice (some ⟨w.heap.size + 1, 0, none⟩) N N] 36)).owned (B := w.heap.size) (by rw [List.length_replicate]; exact hN4) (by simp))
  simp only [World.size_alloc, List.length_replicate] at DT hO
  replace hL := hL.on bz
  go_enter Try.func23, Try.ntmps23
  go_wp2_with fail
  clear hmk
  generalize (((w.alloc (.cells #[.int .i64 0, .int .i64 0, .slice none 0 0] 36)).alloc (.cells (LF (List.replicate N 0)).toArray 24)).alloc (.cells #[.int .i64 n, .int .i64 n, .slice (some ⟨w.heap.size + 1, 0, none⟩) N N] 36)) = w5 at hO hL DZ DT bz ⊢
  have hMr := mrZero (hs := hs) (m := m) HN.out
  go_loopw [5] (fun i wr => ∃ (j : Nat) (L : List Int), j ≤ n ∧ i = .int .i64 j ∧ Mr L (List.replicate N (0 : Int)) n n (fP j 0) (facC hs m n) ∧ OwnF wr w.heap.size (some ⟨w.heap.size + 1, 0, none⟩) N L ∧ Rl wr (some ad) n c hs ∧ Mbx wr w.heap.size 0 0 none 0 0 ∧ Mbx wr (w.heap.size + 1 + 1) n n (some ⟨w.heap.size + 1, 0, none⟩) N N ∧ Below w.heap.size w wr) (fun i _ => n - (intOf i).toNat)
  case atStart => exact ⟨0, _, Nat.zero_le _, rfl, hMr, hO, hL, DZ, DT, bz⟩
  case round =>
    clear hMr hO hL DZ DT bz
    obtain ⟨j, L, hj, rfl, hMr, hO, hL, DZ, DT, bz⟩ := hrel
    by_cases hlt : j < n
    · have j0 : (0 : Int) ≤ j := by omega
      have j1 : (j : Int) < n := by omega
      obtain ⟨e, he, hfe, bt⟩ := hL.get hlt
      have hem : e.l.length = m := HLEN.out e (List.mem_of_getElem? he)
      obtain ⟨ea, hE⟩ : ∃ ea, ad.add (j * 2) = ea := ⟨_, rfl⟩
      have HEE := Lib.hid hE
      have HHE := Lib.hid he
      have HEM := Lib.hid hem
      have hmx : m ≤ 9223372036854775807 := by have := hfe.max; omega
      have HVj := Lib.hid (hV_at he)
      have HTj := Lib.hid (hT_at he)
      clear he hem hfe
      obtain ⟨py, hpy⟩ : ∃ y, j * n = y := ⟨_, rfl⟩
      obtain ⟨pz, hpz⟩ : ∃ z, py + j = z := ⟨_, rfl⟩
      have hpzN : pz < N := by rw [← hpz, ← hpy, ← HN.out]; exact ix_lt (by omega) (by omega)
      have epy : (j : Int) * (n : Int) = (py : Int) := by exact_mod_cast hpy
      have epz : (py : Int) + (j : Int) = (pz : Int) := by omega
      have wpy : IntKind.i64.wrap (py : Int) = (py : Int) := IntWalk.i64_in _ (by omega)
      have wpz9 : IntKind.i64.wrap (pz : Int) = (pz : Int) := IntWalk.i64_in _ (by omega)
      have pz0 : (0 : Int) ≤ pz := by omega
      have pz1 : (pz : Int) < N := by omega
      have hLN : L.length = N := by rw [hMr.len, HN.out]
      go_wp2_with fail
      replace hO := hO.drew
      replace hL := hL.drew
      replace DZ := DZ.drew
      replace DT := DT.drew
      replace bz := bz.drew
      obtain ⟨q0, q1, _⟩ := hL.cells hlt HHE.out HEE.out HEM.out
      refine wp_region_held_drew (S := fun w9 : World => Mbx w9 (w.heap.size + 1 + 1) n n (some ⟨w.heap.size + 1, 0, none⟩) N N ∧ w9.cell? ⟨ea.block, ea.off + 1, none⟩ = some (.float .f64 e.t)) (by kernel_rfl) ⟨DT, q1⟩ (fun hS => ?_)
      generalize wr.drew = wd at hS hO hL DZ DT q0 q1 bz ⊢
      refine wpAnyH_take (i := 0) (v := ?v0_77) rfl (by kernel_rfl) (by kernel_rfl) (by kernel_rfl) (fun _ _ _ h => h) (Or.inl ⟨by rfl, ?hy0_77⟩) (by assumption) ?rest0_77
      case hy0_77 => (intro w9 hSw; clear hSw; go_simp; try with_reducible rfl)
      try simp only [Act.put, List.setIfInBounds_toArray, List.set_cons_zero, List.set_cons_succ, List.getElem_toArray, List.getElem_cons_zero, List.getElem_cons_succ]
      refine wpAnyH_take (i := 1) (v := ?v1_78) rfl (by kernel_rfl) (by kernel_rfl) (by kernel_rfl) (fun _ _ _ h => h) (Or.inl ⟨by rfl, ?hy1_78⟩) (by assumption) ?rest1_78
      case hy1_78 => (intro w9 hSw; obtain ⟨ma1, ma2⟩ := hSw; obtain ⟨y0, y1, y2, _, _, _⟩ := Mbx.cells ma1; go_simp; try with_reducible rfl)
      try simp only [Act.put, List.setIfInBounds_toArray, List.set_cons_zero, List.set_cons_succ, List.getElem_toArray, List.getElem_cons_zero, List.getElem_cons_succ]
      refine wpAnyH_take (i := 2) (v := ?v2_79) rfl (by kernel_rfl) (by kernel_rfl) (by kernel_rfl) (fun _ _ _ h => h) (Or.inl ⟨by rfl, ?hy2_79⟩) (by assumption) ?rest2_79
      case hy2_79 => (intro w9 hSw; clear hSw; go_simp; try with_reducible rfl)
      try simp only [Act.put, List.setIfInBounds_toArray, List.set_cons_zero, List.set_cons_succ, List.getElem_toArray, List.getElem_cons_zero, List.getElem_cons_succ]
      refine wpAnyH_take (i := 3) (v := ?v3_80) rfl (by kernel_rfl) (by kernel_rfl) (by kernel_rfl) (fun _ _ _ h => h) (Or.inl ⟨by rfl, ?hy3_80⟩) (by assumption) ?rest3_80
      case hy3_80 => (intro w9 hSw; clear hSw; go_simp; try with_reducible rfl)
      try simp only [Act.put, List.setIfInBounds_toArray, List.set_cons_zero, List.set_cons_succ, List.getElem_toArray, List.getElem_cons_zero, List.getElem_cons_succ]
      refine wpAnyH_take (i := 4) (v := ?v4_81) rfl (by kernel_rfl) (by kernel_rfl) (by kernel_rfl) (fun _ _ _ h => h) (Or.inl ⟨by rfl, ?hy4_81⟩) (by assumption) ?rest4_81
      case hy4_81 => (intro w9 hSw; clear hSw; go_simp; try with_reducible rfl)
      try simp only [Act.put, List.setIfInBounds_toArray, List.set_cons_zero, List.set_cons_succ, List.getElem_toArray, List.getElem_cons_zero, List.getElem_cons_succ]
      refine wpAnyH_take (i := 5) (v := ?v5_82) rfl (by kernel_rfl) (by kernel_rfl) (by kernel_rfl) (fun _ _ _ h => h) (Or.inl ⟨by rfl, ?hy5_82⟩) (by assumption) ?rest5_82
      case hy5_82 => (intro w9 hSw; clear hSw; go_simp; try with_reducible rfl)
      try simp only [Act.put, List.setIfInBounds_toArray, List.set_cons_zero, List.set_cons_succ, List.getElem_toArray, List.getElem_cons_zero, List.getElem_cons_succ]
      refine wpAnyH_take (i := 6) (v := ?v6_83) rfl (by kernel_rfl) (by kernel_rfl) (by kernel_rfl) (fun _ _ _ h => h) (Or.inl ⟨by rfl, ?hy6_83⟩) (by assumption) ?rest6_83
      case hy6_83 => (intro w9 hSw; clear hSw; go_simp; try with_reducible rfl)
      try simp only [Act.put, List.setIfInBounds_toArray, List.set_cons_zero, List.set_cons_succ, List.getElem_toArray, List.getElem_cons_zero, List.getElem_cons_succ]
      refine wpAnyH_take (i := 7) (v := ?v7_84) rfl (by kernel_rfl) (by kernel_rfl) (by kernel_rfl) (fun _ _ _ h => h) (Or.inl ⟨by rfl, ?hy7_84⟩) (by assumption) ?rest7_84
      case hy7_84 => (intro w9 hSw; clear hSw; go_simp; try with_reducible rfl)
      try simp only [Act.put, List.setIfInBounds_toArray, List.set_cons_zero, List.set_cons_succ, List.getElem_toArray, List.getElem_cons_zero, List.getElem_cons_succ]
      refine wpAnyH_take (i := 8) (v := ?v8_85) rfl (by kernel_rfl) (by kernel_rfl) (by kernel_rfl) (fun _ _ _ h => h) (Or.inl ⟨by rfl, ?hy8_85⟩) (by assumption) ?rest8_85
      case hy8_85 => (intro w9 hSw; clear hSw; go_simp; try with_reducible rfl)
      try simp only [Act.put, List.setIfInBounds_toArray, List.set_cons_zero, List.set_cons_succ, List.getElem_toArray, List.getElem_cons_zero, List.getElem_cons_succ]
      refine wpAnyH_take (i := 9) (v := ?v9_86) rfl (by kernel_rfl) (by kernel_rfl) (by kernel_rfl) (fun _ _ _ h => h) (Or.inl ⟨by rfl, ?hy9_86⟩) (by assumption) ?rest9_86
      case hy9_86 => (intro w9 hSw; clear hSw; go_simp; try with_reducible rfl)
      try simp only [Act.put, List.setIfInBounds_toArray, List.set_cons_zero, List.set_cons_succ, List.getElem_toArray, List.getElem_cons_zero, List.getElem_cons_succ]
      refine wpAnyH_take (i := 10) (v := ?v10_87) rfl (by kernel_rfl) (by kernel_rfl) (by kernel_rfl) (fun _ _ _ h => h) (Or.inl ⟨by rfl, ?hy10_87⟩) (by assumption) ?rest10_87
      case hy10_87 => (intro w9 hSw; clear hSw; go_simp; try with_reducible rfl)
      try simp only [Act.put, List.setIfInBounds_toArray, List.set_cons_zero, List.set_cons_succ, List.getElem_toArray, List.getElem_cons_zero, List.getElem_cons_succ]
      refine wpAnyH_take (i := 11) (v := ?v11_88) rfl (by kernel_rfl) (by kernel_rfl) (by kernel_rfl) (fun _ _ _ h => h) (Or.inl ⟨by rfl, ?hy11_88⟩) (by assumption) ?rest11_88
      case hy11_88 => (intro w9 hSw; obtain ⟨ma1, ma2⟩ := hSw; obtain ⟨y0, y1, y2, _, _, _⟩ := Mbx.cells ma1; go_simp; try with_reducible rfl)
      try simp only [Act.put, List.setIfInBounds_toArray, List.set_cons_zero, List.set_cons_succ, List.getElem_toArray, List.getElem_cons_zero, List.getElem_cons_succ]
      refine wpAnyH_take (i := 12) (v := ?v12_89) rfl (by kernel_rfl) (by kernel_rfl) (by kernel_rfl) (fun _ _ _ h => h) (Or.inl ⟨by rfl, ?hy12_89⟩) (by assumption) ?rest12_89
      case hy12_89 => (intro w9 hSw; clear hSw; go_simp; try with_reducible rfl)
      try simp only [Act.put, List.setIfInBounds_toArray, List.set_cons_zero, List.set_cons_succ, List.getElem_toArray, List.getElem_cons_zero, List.getElem_cons_succ]
      obtain ⟨c00, c11⟩ := hO.at' (k := pz) (by rw [hLN]; exact hpzN)
      refine wpAnyH_ready (rs := [13]) (by kernel_rfl) (by simp) ?_
      refine AllReadyH.cons rfl (fun K hK => ?_) AllReadyH.nil
      go_simp
      clear c00 c11
      have hgs : wd.grownBy (wd.setCell ⟨w.heap.size + 1, pz, none⟩ (.float .f64 e.t)) (some (w.heap.size + 1)) := grown_setCell (World.grownBy.refl wd _) _ _
      replace DZ := DZ.grown hgs (by simp)
      replace DT := DT.grown hgs (by simp)
      replace hL := hL.farB hgs hAB HBA.out
      have hO9 : OwnF (wd.setCell ⟨w.heap.size + 1, pz, none⟩ (.float .f64 e.t)) w.heap.size (some ⟨w.heap.size + 1, 0, none⟩) N (L.set pz e.t) := hO.set_ pz e.t
      replace bz := bz.setCell (p := ⟨w.heap.size + 1, pz, none⟩) (by simp) (.float .f64 e.t)
      obtain ⟨q0, q1, _⟩ := hL.cells hlt HHE.out HEE.out HEM.out
      clear hS; refine hK.out _ _ ⟨DT, q1⟩ (fun hS => ?_); clear hK K
      try simp only [Act.put, List.setIfInBounds_toArray, List.set_cons_zero, List.set_cons_succ, List.getElem_toArray, List.getElem_cons_zero, List.getElem_cons_succ]
      refine wpAnyH_done (by kernel_rfl) ?_ _
      have hM9 := hMr.set (i := j) (j := j) (x := (e.t : Int)) hlt hlt (by omega) (by omega) (by rw [fa_nat, facD hlt, HTj.out]) (Q := fQ j 0) (fun a b ha hb => by unfold fP fQ; rw [← Bool.decide_or, decide_eq_decide]; omega)
      rw [hpy, hpz] at hM9
      clear hMr hO q0 q1 hS
      go_wp2_with fail
      go_loopw [6] (fun i wr => ∃ (i2 : Nat) (L2 : List Int), i2 ≤ j ∧ i = .int .i64 i2 ∧ Mr L2 (List.replicate N (0 : Int)) n n (fQ j i2) (facC hs m n) ∧ OwnF wr w.heap.size (some ⟨w.heap.size + 1, 0, none⟩) N L2 ∧ Rl wr (some ad) n c hs ∧ Mbx wr w.heap.size 0 0 none 0 0 ∧ Mbx wr (w.heap.size + 1 + 1) n n (some ⟨w.heap.size + 1, 0, none⟩) N N ∧ Below w.heap.size w wr) (fun i _ => j - (intOf i).toNat)
      case atStart => exact ⟨0, _, Nat.zero_le _, rfl, hM9, hO9, hL, DZ, DT, bz⟩
      case round =>
        clear hM9 hO9 hL DZ DT bz
        obtain ⟨i, L2, hi, rfl, hMr, hO, hL, DZ, DT, bz⟩ := hrel
        by_cases hit : i < j
        · have i0 : (0 : Int) ≤ i := by omega
          have i1 : (i : Int) < j := by omega
          have hLN2 : L2.length = N := by rw [hMr.len, HN.out]
          obtain ⟨iy, hiy⟩ : ∃ y, i * n = y := ⟨_, rfl⟩
          have eiy : (i : Int) * (n : Int) = (iy : Int) := by exact_mod_cast hiy
          obtain ⟨qz, hqz⟩ : ∃ z, iy + j = z := ⟨_, rfl⟩
          have hqzN : qz < N := by rw [← hqz, ← hiy, ← HN.out]; exact ix_lt (by omega) (by omega)
          have eqz : (iy : Int) + (j : Int) = (qz : Int) := by omega
          have wiy : IntKind.i64.wrap (iy : Int) = (iy : Int) := IntWalk.i64_in _ (by omega)
          have wqz9 : IntKind.i64.wrap (qz : Int) = (qz : Int) := IntWalk.i64_in _ (by omega)
          have qz0 : (0 : Int) ≤ qz := by omega
          have qz1 : (qz : Int) < N := by omega
          obtain ⟨wo, hwo⟩ : ∃ x, x = wr := ⟨_, rfl⟩
          subst hwo
          go_wp2_with fail
          have b0 : (0 : Nat) ≤ 18446744073709551615 := by omega
          have HS0 : Hid (af 0 = sumA (fun x => aop .mul (facC hs m n i (i + x)) (yA hs m (i + x) j)) 0) := Lib.hid af_zero
          go_loopw [7, 8] (fun s k wr => ∃ (x r : Nat), i + x ≤ j ∧ k = .int .i64 ((i + x : Nat) : Int) ∧ s = .float .f64 r ∧ Hid (af r = sumA (fun x => aop .mul (facC hs m n i (i + x)) (yA hs m (i + x) j)) x) ∧ r ≤ 18446744073709551615 ∧ Dr wo wr) (fun _ k _ => j - (intOf k).toNat)
          case atStart => exact ⟨0, 0, by omega, by simp, rfl, HS0, b0, Dr.refl _⟩
          case round =>
            clear HS0
            obtain ⟨x, s, hx, rfl, rfl, HS, bs, dr⟩ := hrel
            obtain ⟨k, hk⟩ : ∃ k, i + x = k := ⟨_, rfl⟩
            rw [hk]
            have k0 : (0 : Int) ≤ k := by omega
            by_cases hkt : k < j
            · have k1 : (k : Int) < j := by omega
              obtain ⟨wp, hwp⟩ : ∃ x, x = wr := ⟨_, rfl⟩
              subst hwp
              obtain ⟨e2, he2, _, _⟩ := hL.get (k := k) (by omega)
              have hem2 : e2.l.length = m := HLEN.out e2 (List.mem_of_getElem? he2)
              obtain ⟨ea2, hE2⟩ : ∃ ea, ad.add (k * 2) = ea := ⟨_, rfl⟩
              have HHE2 := Lib.hid he2
              have HEM2 := Lib.hid hem2
              have HVk := Lib.hid (hV_at he2)
              clear he2 hem2
              have k2 : (k : Int) < n := by omega
              have hkn : k < n := by omega
              obtain ⟨kz, hkz⟩ : ∃ z, iy + k = z := ⟨_, rfl⟩
              have hkzN : kz < N := by rw [← hkz, ← hiy, ← HN.out]; exact ix_lt (by omega) (by omega)
              have ekz : (iy : Int) + (k : Int) = (kz : Int) := by omega
              have wkz9 : IntKind.i64.wrap (kz : Int) = (kz : Int) := IntWalk.i64_in _ (by omega)
              have kz0 : (0 : Int) ≤ kz := by omega
              have kz1 : (kz : Int) < N := by omega
              go_wp2_with fail
              have HR0 : Hid (af 0 = sumA (fun r => aop .mul (fa (D (hV hs k) r)) (fa (D (hV hs j) r))) 0) := Lib.hid af_zero
              go_loopw [9, 10] (fun s k9 wr => ∃ (r y : Nat), r ≤ m ∧ k9 = .int .i64 r ∧ s = .float .f64 y ∧ Hid (af y = sumA (fun r => aop .mul (fa (D (hV hs k) r)) (fa (D (hV hs j) r))) r) ∧ y ≤ 18446744073709551615 ∧ Dr wo wr) (fun _ k9 _ => m - (intOf k9).toNat)
              case atStart => exact ⟨0, 0, Nat.zero_le _, rfl, rfl, HR0, b0, dr⟩
              case round =>
                clear HR0
                obtain ⟨r, y, hr, rfl, rfl, HY, by9, dr2⟩ := hrel
                have hLW := hL.on (dr2.below _)
                obtain ⟨q0, q1, fv⟩ := hLW.cells hlt HHE.out HEE.out HEM.out
                by_cases hrt : r < m
                · obtain ⟨s0, s1, fk⟩ := hLW.cells hkn HHE2.out hE2 HEM2.out
                  obtain ⟨ad1, hA1, _, hcA⟩ := fk.at_ hrt
                  obtain ⟨ad2, hA2, _, hcB⟩ := fv.at_ hrt
                  obtain ⟨x0, x1⟩ := fk.2.2.at_ r
                  obtain ⟨y0, y1⟩ := fv.2.2.at_ r
                  have bX : (D e2.l r).toNat ≤ 18446744073709551615 := by omega
                  have bY : (D e.l r).toNat ≤ 18446744073709551615 := by omega
                  have HX : Hid (af (D e2.l r).toNat = fa (D (hV hs k) r)) := Lib.hid (by rw [HVk.out]; rfl)
                  have HYe : Hid (af (D e.l r).toNat = fa (D (hV hs j) r)) := Lib.hid (by rw [HVj.out]; rfl)
                  generalize (D e2.l r).toNat = X at *
                  generalize (D e.l r).toNat = Y at *
                  rw [hA1] at s0
                  rw [hA2] at q0
                  have r0 : (0 : Int) ≤ r := by omega
                  have r1 : (r : Int) < m := by omega
                  clear x0 x1 y0 y1 fk fv hLW hA1 hA2 q1 s1
                  go_wp2_with fail
                  replace q0 : wr.drew.cell? ea = some (.slice (some ad2) m e.c) := q0
                  replace s0 : wr.drew.cell? ea2 = some (.slice (some ad1) m e2.c) := s0
                  replace hcA : wr.drew.cell? (ad1.add r) = some (.float .f64 X) := hcA
                  replace hcB : wr.drew.cell? (ad2.add r) = some (.float .f64 Y) := hcB
                  replace dr2 : Dr wo wr.drew := dr2.trans ⟨1, rfl⟩
                  have bz : Below wr.drew.heap.size wr.drew wr.drew := Below.refl _ _
                  refine wp_region_held_drew (S := fun w9 : World => w9.cell? ea2 = some (.slice (some ad1) m e2.c) ∧ w9.cell? ea = some (.slice (some ad2) m e.c) ∧ w9.cell? (ad1.add r) = some (.float .f64 X) ∧ w9.cell? (ad2.add r) = some (.float .f64 Y)) (by kernel_rfl) ⟨s0, q0, hcA, hcB⟩ (fun hS => ?_)
                  generalize wr.drew = wl at hS  dr2 s0 q0 hcA hcB bz ⊢
                  refine wpAnyH_take (i := 0) (v := ?v0_90) rfl (by kernel_rfl) (by kernel_rfl) (by kernel_rfl) (fun _ _ _ h => h) (Or.inl ⟨by rfl, ?hy0_90⟩) (by assumption) ?rest0_90
                  case hy0_90 => (intro w9 hSw; clear hSw; go_simp; try with_reducible rfl)
                  try simp only [Act.put, List.setIfInBounds_toArray, List.set_cons_zero, List.set_cons_succ, List.getElem_toArray, List.getElem_cons_zero, List.getElem_cons_succ]
                  refine wpAnyH_take (i := 1) (v := ?v1_91) rfl (by kernel_rfl) (by kernel_rfl) (by kernel_rfl) (fun _ _ _ h => h) (Or.inl ⟨by rfl, ?hy1_91⟩) (by assumption) ?rest1_91
                  case hy1_91 => (intro w9 hSw; clear hSw; go_simp; try with_reducible rfl)
                  try simp only [Act.put, List.setIfInBounds_toArray, List.set_cons_zero, List.set_cons_succ, List.getElem_toArray, List.getElem_cons_zero, List.getElem_cons_succ]
                  refine wpAnyH_take (i := 2) (v := ?v2_92) rfl (by kernel_rfl) (by kernel_rfl) (by kernel_rfl) (fun _ _ _ h => h) (Or.inl ⟨by rfl, ?hy2_92⟩) (by assumption) ?rest2_92
                  case hy2_92 => (intro w9 hSw; clear hSw; go_simp; try with_reducible rfl)
                  try simp only [Act.put, List.setIfInBounds_toArray, List.set_cons_zero, List.set_cons_succ, List.getElem_toArray, List.getElem_cons_zero, List.getElem_cons_succ]
                  refine wpAnyH_take (i := 3) (v := ?v3_93) rfl (by kernel_rfl) (by kernel_rfl) (by kernel_rfl) (fun _ _ _ h => h) (Or.inl ⟨by rfl, ?hy3_93⟩) (by assumption) ?rest3_93
                  case hy3_93 => (intro w9 hSw; clear hSw; go_simp; try with_reducible rfl)
                  try simp only [Act.put, List.setIfInBounds_toArray, List.set_cons_zero, List.set_cons_succ, List.getElem_toArray, List.getElem_cons_zero, List.getElem_cons_succ]
                  refine wpAnyH_take (i := 4) (v := ?v4_94) rfl (by kernel_rfl) (by kernel_rfl) (by kernel_rfl) (fun _ _ _ h => h) (Or.inl ⟨by rfl, ?hy4_94⟩) (by assumption) ?rest4_94
                  case hy4_94 => (intro w9 hSw; obtain ⟨m0, m1, m2, m3⟩ := hSw; go_simp; try with_reducible rfl)
                  try simp only [Act.put, List.setIfInBounds_toArray, List.set_cons_zero, List.set_cons_succ, List.getElem_toArray, List.getElem_cons_zero, List.getElem_cons_succ]
                  refine wpAnyH_take (i := 5) (v := ?v5_95) rfl (by kernel_rfl) (by kernel_rfl) (by kernel_rfl) (fun _ _ _ h => h) (Or.inl ⟨by rfl, ?hy5_95⟩) (by assumption) ?rest5_95
                  case hy5_95 => (intro w9 hSw; clear hSw; go_simp; try with_reducible rfl)
                  try simp only [Act.put, List.setIfInBounds_toArray, List.set_cons_zero, List.set_cons_succ, List.getElem_toArray, List.getElem_cons_zero, List.getElem_cons_succ]
                  refine wpAnyH_take (i := 6) (v := ?v6_96) rfl (by kernel_rfl) (by kernel_rfl) (by kernel_rfl) (fun _ _ _ h => h) (Or.inl ⟨by rfl, ?hy6_96⟩) (by assumption) ?rest6_96
                  case hy6_96 => (intro w9 hSw; clear hSw; go_simp; try with_reducible rfl)
                  try simp only [Act.put, List.setIfInBounds_toArray, List.set_cons_zero, List.set_cons_succ, List.getElem_toArray, List.getElem_cons_zero, List.getElem_cons_succ]
                  refine wpAnyH_take (i := 7) (v := ?v7_97) rfl (by kernel_rfl) (by kernel_rfl) (by kernel_rfl) (fun _ _ _ h => h) (Or.inl ⟨by rfl, ?hy7_97⟩) (by assumption) ?rest7_97
                  case hy7_97 => (intro w9 hSw; obtain ⟨m0, m1, m2, m3⟩ := hSw; go_simp; try with_reducible rfl)
                  try simp only [Act.put, List.setIfInBounds_toArray, List.set_cons_zero, List.set_cons_succ, List.getElem_toArray, List.getElem_cons_zero, List.getElem_cons_succ]
                  refine wpAnyH_take (i := 8) (v := ?v8_98) rfl (by kernel_rfl) (by kernel_rfl) (by kernel_rfl) (fun _ _ _ h => h) (Or.inl ⟨by rfl, ?hy8_98⟩) (by assumption) ?rest8_98
                  case hy8_98 => (intro w9 hSw; clear hSw; go_simp; try with_reducible rfl)
                  try simp only [Act.put, List.setIfInBounds_toArray, List.set_cons_zero, List.set_cons_succ, List.getElem_toArray, List.getElem_cons_zero, List.getElem_cons_succ]
                  refine wpAnyH_take (i := 9) (v := ?v9_99) rfl (by kernel_rfl) (by kernel_rfl) (by kernel_rfl) (fun _ _ _ h => h) (Or.inl ⟨by rfl, ?hy9_99⟩) (by assumption) ?rest9_99
                  case hy9_99 => (intro w9 hSw; clear hSw; go_simp; try with_reducible rfl)
                  try simp only [Act.put, List.setIfInBounds_toArray, List.set_cons_zero, List.set_cons_succ, List.getElem_toArray, List.getElem_cons_zero, List.getElem_cons_succ]
                  refine wpAnyH_take (i := 10) (v := ?v10_100) rfl (by kernel_rfl) (by kernel_rfl) (by kernel_rfl) (fun _ _ _ h => h) (Or.inl ⟨by rfl, ?hy10_100⟩) (by assumption) ?rest10_100
                  case hy10_100 => (intro w9 hSw; clear hSw; go_simp; try with_reducible rfl)
                  try simp only [Act.put, List.setIfInBounds_toArray, List.set_cons_zero, List.set_cons_succ, List.getElem_toArray, List.getElem_cons_zero, List.getElem_cons_succ]
                  refine wpAnyH_take (i := 11) (v := ?v11_101) rfl (by kernel_rfl) (by kernel_rfl) (by kernel_rfl) (fun _ _ _ h => h) (Or.inl ⟨by rfl, ?hy11_101⟩) (by assumption) ?rest11_101
                  case hy11_101 => (intro w9 hSw; clear hSw; go_simp; try with_reducible rfl)
                  try simp only [Act.put, List.setIfInBounds_toArray, List.set_cons_zero, List.set_cons_succ, List.getElem_toArray, List.getElem_cons_zero, List.getElem_cons_succ]
                  refine wpAnyH_take (i := 12) (v := ?v12_102) rfl (by kernel_rfl) (by kernel_rfl) (by kernel_rfl) (fun _ _ _ h => h) (Or.inl ⟨by rfl, ?hy12_102⟩) (by assumption) ?rest12_102
                  case hy12_102 => (intro w9 hSw; obtain ⟨m0, m1, m2, m3⟩ := hSw; go_simp; try with_reducible rfl)
                  try simp only [Act.put, List.setIfInBounds_toArray, List.set_cons_zero, List.set_cons_succ, List.getElem_toArray, List.getElem_cons_zero, List.getElem_cons_succ]
                  refine wpAnyH_take (i := 13) (v := ?v13_103) rfl (by kernel_rfl) (by kernel_rfl) (by kernel_rfl) (fun _ _ _ h => h) (Or.inl ⟨by rfl, ?hy13_103⟩) (by assumption) ?rest13_103
                  case hy13_103 => (intro w9 hSw; clear hSw; go_simp; try with_reducible rfl)
                  try simp only [Act.put, List.setIfInBounds_toArray, List.set_cons_zero, List.set_cons_succ, List.getElem_toArray, List.getElem_cons_zero, List.getElem_cons_succ]
                  refine wpAnyH_take (i := 14) (v := ?v14_104) rfl (by kernel_rfl) (by kernel_rfl) (by kernel_rfl) (fun _ _ _ h => h) (Or.inl ⟨by rfl, ?hy14_104⟩) (by assumption) ?rest14_104
                  case hy14_104 => (intro w9 hSw; clear hSw; go_simp; try with_reducible rfl)
                  try simp only [Act.put, List.setIfInBounds_toArray, List.set_cons_zero, List.set_cons_succ, List.getElem_toArray, List.getElem_cons_zero, List.getElem_cons_succ]
                  refine wpAnyH_take (i := 15) (v := ?v15_105) rfl (by kernel_rfl) (by kernel_rfl) (by kernel_rfl) (fun _ _ _ h => h) (Or.inl ⟨by rfl, ?hy15_105⟩) (by assumption) ?rest15_105
                  case hy15_105 => (intro w9 hSw; obtain ⟨m0, m1, m2, m3⟩ := hSw; go_simp; try with_reducible rfl)
                  try simp only [Act.put, List.setIfInBounds_toArray, List.set_cons_zero, List.set_cons_succ, List.getElem_toArray, List.getElem_cons_zero, List.getElem_cons_succ]
                  refine wpAnyH_ready (rs := [16]) (by kernel_rfl) (by simp) ?_
                  refine AllReadyH.cons rfl (fun K hK => ?_) AllReadyH.nil
                  refine step_arith .mul (.inr (.inr (.inl rfl))) rfl _ _ _ _ X Y rfl rfl rfl bX bY ?_
                  intro r9 w11 hb hq1 b1 dq
                  have H1 := Lib.hid hq1
                  clear hq1 hb
                  replace dr2 := dr2.trans dq
                  have hS1 := hS
                  obtain ⟨t9, ht9⟩ := dq
                  subst ht9
                  clear hS; refine hK.out _ _ hS1 (fun hS => ?_); clear hK K
                  try simp only [Act.put, List.setIfInBounds_toArray, List.set_cons_zero, List.set_cons_succ, List.getElem_toArray, List.getElem_cons_zero, List.getElem_cons_succ]
                  refine wpAnyH_take (i := 17) (v := ?v17_106) rfl (by kernel_rfl) (by kernel_rfl) (by kernel_rfl) (fun _ _ _ h => h) (Or.inl ⟨by rfl, ?hy17_106⟩) (by assumption) ?rest17_106
                  case hy17_106 => (intro w9 hSw; clear hSw; go_simp; try with_reducible rfl)
                  try simp only [Act.put, List.setIfInBounds_toArray, List.set_cons_zero, List.set_cons_succ, List.getElem_toArray, List.getElem_cons_zero, List.getElem_cons_succ]
                  refine wpAnyH_done (by kernel_rfl) ?_ _
                  obtain ⟨r2, w12, e12, d2, h22, b22⟩ := run_add (P := Try.prog) 24 (x := y) (y := r9) by9 b1 (wl.drewN t9)
                  have HK : Hid (af r2 = sumA (fun r => aop .mul (fa (D (hV hs k) r)) (fa (D (hV hs j) r))) (r + 1)) := Lib.hid (by rw [h22, HY.out, H1.out, HX.out, HYe.out]; rfl)
                  clear h22 H1 HY
                  go_wp2_with fail
                  go_roundw
                  case rel => first | exact ⟨r + 1, r2, by omega, by go_num, rfl, HK, b22, dr2.trans d2⟩ | exact ⟨r + 1, by omega, by omega, HK, dr2.trans d2⟩
                  case measure => simp [intOf]; omega
                · obtain rfl : r = m := by omega
                  have hbw := dr2.below wo.heap.size
                  have hOW := hO.on_ hbw
                  have DTW := DT.on hbw
                  obtain ⟨z0, z1, z2, _, _, _⟩ := Mbx.cells DTW
                  obtain ⟨c00, _⟩ := hOW.at' (k := kz) (by rw [hLN2]; exact hkzN)
                  obtain ⟨x0, x1⟩ := hMr.wd.at_ kz
                  have bX : (D L2 kz).toNat ≤ 18446744073709551615 := by omega
                  have HX : Hid (af (D L2 kz).toNat = facC hs r n i k) := Lib.hid (by have h8 := hMr.new i k (by omega) (by omega) (by unfold fQ; simp; omega); unfold ma at h8; rw [hiy, hkz] at h8; exact h8)
                  generalize (D L2 kz).toNat = X at *
                  obtain ⟨r3, w13, e13, d13, h13, b13⟩ := run_mul (P := Try.prog) 24 (x := X) (y := y) bX by9 wr
                  obtain ⟨r4, w14, e14, d14, h14, b14⟩ := run_add (P := Try.prog) 24 (x := s) (y := r3) bs b13 w13
                  have HK : Hid (af r4 = sumA (fun x => aop .mul (facC hs r n i (i + x)) (yA hs r (i + x) j)) (x + 1)) := Lib.hid (by rw [h14, h13, HX.out, HY.out, HS.out]; show _ = aop .add _ (aop .mul (facC hs r n i (i + x)) (yA hs r (i + x) j)); rw [hk]; rfl)
                  clear h13 h14 x0 x1 hOW DTW
                  have e15 : ((i + (x + 1) : Nat) : Int) = (k : Int) + 1 := by omega
                  go_wp2_with fail
                  go_roundw
                  case rel => first | exact ⟨x + 1, r4, by omega, by go_num, rfl, HK, b14, (dr2.trans d13).trans d14⟩ | exact ⟨x + 1, r4, by omega, by rw [e15], rfl, HK, b14, (dr2.trans d13).trans d14⟩ | exact ⟨x + 1, by omega, by omega, HK, (dr2.trans d13).trans d14⟩
                  case measure => simp [intOf]; omega
            · obtain rfl : k = j := by omega
              have hxd : x = k - i := by omega
              have hbw := dr.below wo.heap.size
              replace hL := hL.on hbw
              replace DZ := DZ.on hbw
              replace DT := DT.on hbw
              replace hO := hO.on_ hbw
              replace bz := bz.trans (hbw.mono bz.size)
              clear hbw
              obtain ⟨r5, w15, e15, d15, h15, b15⟩ := run_mul (P := Try.prog) 24 (x := e.t) (y := s) bt bs wr
              obtain ⟨nt, hnt, hNt, bnt⟩ := run_neg (P := Try.prog) b15
              obtain ⟨q0, q1, _⟩ := hL.cells hlt HHE.out HEE.out HEM.out
              have hbw := d15.below wr.heap.size
              have hL5 := hL.on hbw
              have DZ5 := DZ.on hbw
              have DT5 := DT.on hbw
              have hO5 := hO.on_ hbw
              have bz5 := bz.trans (hbw.mono bz.size)
              obtain ⟨z0, z1, z2, _, _, _⟩ := Mbx.cells DT5
              obtain ⟨c00, c11⟩ := hO5.at' (k := qz) (by rw [hLN2]; exact hqzN)
              have HF : Hid (fa (nt : Int) = facC hs m n i k) := Lib.hid (by rw [fa_nat, hNt, h15, HS.out, facE hlt (by omega), HTj.out, hxd])
              clear h15 HS hNt
              have hgs : w15.grownBy (w15.setCell ⟨w.heap.size + 1, qz, none⟩ (.float .f64 nt)) (some (w.heap.size + 1)) := grown_setCell (World.grownBy.refl w15 _) _ _
              have DZ6 := DZ5.grown hgs (by simp)
              have DT6 := DT5.grown hgs (by simp)
              have hL6 := hL5.farB hgs hAB HBA.out
              have hO6 : OwnF (w15.setCell ⟨w.heap.size + 1, qz, none⟩ (.float .f64 nt)) w.heap.size (some ⟨w.heap.size + 1, 0, none⟩) N (L2.set qz nt) := hO5.set_ qz nt
              have bz6 := bz5.setCell (p := ⟨w.heap.size + 1, qz, none⟩) (by simp) (.float .f64 nt)
              have hM6 := hMr.set (i := i) (j := k) (x := (nt : Int)) (by omega) hlt (by omega) (by omega) HF.out (Q := fQ k (i + 1)) (fun a b ha hb => by unfold fQ; rw [← Bool.decide_or, decide_eq_decide]; omega)
              rw [hiy, hqz] at hM6
              clear hMr hO hL DZ DT bz hL5 DZ5 DT5 hO5 bz5 hbw d15
              have hnt2 := hnt
              go_wp2_with fail
              go_roundw
              case rel => exact ⟨i + 1, _, by omega, by go_num, hM6, hO6, hL6, DZ6, DT6, bz6⟩
              case measure => simp [intOf]; omega
        · obtain rfl : i = j := by omega
          have hM6 := hMr.congr (Q := fP (i + 1) 0) (fun a b ha hb => by unfold fP fQ; rw [decide_eq_decide]; omega)
          clear hMr
          go_wp2_with fail
          go_roundw
          case rel => exact ⟨i + 1, _, by omega, by go_num, hM6, hO, hL, DZ, DT, bz⟩
          case measure => simp [intOf]; omega
    · obtain rfl : j = n := by omega
      obtain ⟨t0, t1, t2, _, _, _⟩ := Mbx.cells DT
      obtain ⟨z0, z1, z2, z3, z4, z5⟩ := Mbx.cells DZ
      have DZ9 := Mbx.put DZ j j (some ⟨w.heap.size + 1, 0, none⟩) N N
      obtain ⟨c00, c11, c22, _, _, _⟩ := Mbx.cells DZ9
      have hO9 := hO.grown_ (row := some w.heap.size) (w' := ((wr.setCell ⟨w.heap.size, 0, none⟩ (.int .i64 j)).setCell ⟨w.heap.size, 1, none⟩ (.int .i64 j)).setCell ⟨w.heap.size, 2, none⟩ (.slice (some ⟨w.heap.size + 1, 0, none⟩) N N)) (grown_setCell (grown_setCell (grown_setCell (World.grownBy.refl wr _) 0 _) 1 _) 2 _) (fun a e => by injection e with e; subst e; simp)
      have bz9 := ((bz.setCell (p := ⟨w.heap.size, 0, none⟩) (by simp) (.int .i64 j)).setCell (p := ⟨w.heap.size, 1, none⟩) (by simp) (.int .i64 j)).setCell (p := ⟨w.heap.size, 2, none⟩) (by simp) (.slice (some ⟨w.heap.size + 1, 0, none⟩) N N)
      have hI := hMr.is
      rw [HN.out] at hI
      go_wp2_with fail
      refine bodyPost_ret (v := mV j j (some ⟨w.heap.size + 1, 0, none⟩) N N) (by simp [results, Try.results23, go_sem, c00, c11, c22]) rfl ?_
      refine ⟨_, N, L, rfl, hO9, hI.congr (fun k hk => ?_), bz9⟩
      have j0 : 0 < j := h1
      have hk2 : k < j * j := by rw [HN.out]; exact hk
      have h9 := Nat.mod_lt k j0
      unfold tg fP
      rw [if_pos (decide_eq_true (.inl h9))]
end Go.Proofs.Ytcdbjlmegkcaiaa
