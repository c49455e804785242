/-
  Layer 2, the laws, part twelve: the reference's Read; NatTexts.
-/
import Derived.Test.YtigphbjgodfhpaaDoorNatAW
import Derived.Deep.RegionHeld3
import Derived.Deep.RegionWith
namespace Go.Proofs.YtigphbjgodfhpaaDoor
open Go.RowKit
set_option linter.unusedVariables false

theorem Lv.hp {W W' : World} {A : Option Addr} {n c : Nat} {l : List Int} (h : Lv W A n c l) (e : W'.heap = W.heap) : Lv W' A n c l := by
  obtain ⟨h1, h2, h3⟩ := h
  refine ⟨h1, ⟨h2.1, h2.2.1, fun hn => ?_⟩, h3⟩
  obtain ⟨ad, hA, hb, hc⟩ := h2.2.2 hn
  refine ⟨ad, hA, by rw [e]; exact hb, fun k hk => ?_⟩
  rw [← hc k hk]
  simp only [World.cell?, e]
theorem below_lv {W W' : World} {A : Option Addr} {n c : Nat} {l : List Int} (hb : Below W.heap.size W W') (h : Lv W A n c l) : Lv W' A n c l := h.on hb
theorem lim_digit {d : Int} (h0 : 0 ≤ d) (h1 : d < 10) : Lim 18446744073709551616 [d] := by intro x hx; simp at hx; omega

set_option maxHeartbeats 8000000 in
theorem refRead_yes (s : ByteArray) (hm : s.size ≤ 2000) (h : OkText s.data.toList) (w : World) :
    Calls Tryd.prog 45 #[.string s] w (GoodV (dval s.data.toList) w) := by
  have h0 : 0 < s.size := by
    have := List.length_pos_iff.2 h.1
    simpa using this
  have HO := Lib.hid h
  have hz : (1 : Int) ≤ s.size := by omega
  have hs2 : (s.size : Int) ≤ 2000 := by omega
  have hcase : ((s.size : Int) ≤ 1 ∧ 1 ≤ s.size) ∨ (1 < s.size ∧ ((s[0].toNat : Int) == 48) = false) := by
    rcases (show s.size = 1 ∨ 1 < s.size by omega) with h1 | h1
    · exact .inl ⟨by omega, by omega⟩
    · exact .inr ⟨h1, head_not h h1⟩
  have hdall : ∀ k (hk : k < s.size), 48 ≤ s[k].toNat ∧ s[k].toNat ≤ 57 := fun k hk => ok_digit h hk
  have HD := Lib.hid hdall
  clear h hdall
  rcases hcase with ⟨h1, h2⟩ | ⟨h1, h2⟩
  all_goals
    go_enter Tryd.func45, Tryd.ntmps45
    go_wp2_with fail
    go_loop [4] (fun i => ∃ k : Nat, k ≤ s.size ∧ i = .int .i64 k) (fun i => s.size - (intOf i).toNat)
    case atStart => exact ⟨0, by omega, rfl⟩
    case round =>
      obtain ⟨k, hk, rfl⟩ := hrel
      by_cases hlt : k < s.size
      · have hb := HD.out k hlt
        go_wp2_with fail
        go_round
        case rel => exact ⟨k + 1, by omega, by go_num⟩
        case measure => simp [intOf]; omega
      · go_wp2_with fail
        go_loopw [5, 6] (fun a i wr => ∃ (k : Nat) (l : List Int) (A : Option Addr) (c : Nat), k ≤ s.size ∧ i = .int .i64 k ∧ a = .slice A l.length c ∧ Hid (Normal l ∧ val 18446744073709551616 l = dval (s.data.toList.take k)) ∧ l.length ≤ 2000 ∧ Lv wr A l.length c l ∧ Below w.heap.size w wr) (fun _ i _ => s.size - (intOf i).toNat)
        case atStart => exact ⟨0, [], none, 0, by omega, rfl, rfl, ⟨Normal.nil, by simp [val_nil, dval_nil]⟩, by simp, lv_nil w, Below.refl _ _⟩
        case round =>
          obtain ⟨t, l, A, c, ht, rfl, rfl, hv, hl, ml, hb⟩ := hrel
          by_cases htl : t < s.size
          · have hbt := HD.out t htl
            have hdt := dval_take s t htl
            obtain ⟨d, hd⟩ : ∃ d, (s[t].toNat : Int) - 48 = d := ⟨_, rfl⟩
            have hw1 : IntKind.u8.wrap d = d := IntWalk.u8_in _ (by omega)
            have hw2 : IntKind.u64.wrap d = d := by rw [IntKind.wrap_u64]; omega
            have hd0 : 0 ≤ d := by omega
            have hd1 : d < 10 := by omega
            have i0 : (0 : Int) ≤ t := by omega
            have i1 : (t : Int) < s.size := by omega
            have hsz := hb.size
            have hlen1 : ∀ q, Lim 18446744073709551616 q → Normal q → val 18446744073709551616 q = val 18446744073709551616 l * val 18446744073709551616 [10] → q.length ≤ 2001 := fun q h1 h2 h3 => by
              refine length_le_of_lt (b := 18446744073709551616) (by omega) h1 h2 ?_
              rw [h3, show val 18446744073709551616 [10] = 10 by decide]
              have h4 := ml.less hl
              have h5 := ml.nonneg
              have e : (18446744073709551616 : Int) ^ 2001 = 18446744073709551616 ^ 2000 * 18446744073709551616 := Int.pow_succ _ _
              generalize (18446744073709551616 : Int) ^ 2001 = P at *
              generalize (18446744073709551616 : Int) ^ 2000 = Q at *
              omega
            have hstep : ∀ q r, val 18446744073709551616 q = val 18446744073709551616 l * val 18446744073709551616 [10] → Lim 18446744073709551616 r → Normal r → val 18446744073709551616 r = val 18446744073709551616 q + val 18446744073709551616 [d] →
                (Normal r ∧ val 18446744073709551616 r = dval (s.data.toList.take (t + 1))) ∧ r.length ≤ 2000 := fun q r h1 h2 h3 h4 => by
              have h5 : val 18446744073709551616 r = dval (s.data.toList.take (t + 1)) := by
                rw [h4, h1, show val 18446744073709551616 [10] = 10 by decide, hv.out.2, hdt, val_cons, val_nil, ← hd]
                unfold dig
                omega
              refine ⟨⟨h3, h5⟩, ?_⟩
              have h6 := dval_bd (s.data.toList.take (t + 1)) (fun c hc => HO.out.2.2.2 c (List.mem_of_mem_take hc))
              rw [← h5] at h6
              have h7 := len_dec h2 h3 h6.2
              have h8 : (s.data.toList.take (t + 1)).length ≤ s.size := by rw [List.length_take, Array.length_toList]; exact Nat.min_le_right _ _
              omega
            have HL1 := Lib.hid hlen1
            have HST := Lib.hid hstep
            clear hlen1 hstep hdt
            have m10 := Lv.row wr [10] 1 wr.heap.size rfl rfl (by omega) lim_k5 (.cells #[.int .u64 10] 39) rfl
            have m10b := fun o => Lv.row (wr.alloc o) [10] 1 (wr.heap.size + 1) (by simp) rfl (by omega) lim_k5 (.cells #[.int .u64 10] 39) rfl
            have md := fun W => Lv.row W [d] 1 W.heap.size rfl rfl (by omega) (lim_digit hd0 hd1) (.cells #[.int .u64 d] 39) rfl
            have mdb := fun o => Lv.row (wr.alloc o) [d] 1 (wr.heap.size + 1) (by simp) rfl (by omega) (lim_digit hd0 hd1) (.cells #[.int .u64 d] 39) rfl
            go_wp2_with fail
            go_region_held3 (fun w' => True) (trivial) (first
              | (go_at_call 28; refine (refMul_lv (l := l) (s := [10]) (by first | exact Lv.hp (ml.alloc _) rfl | exact Lv.hp ((ml.alloc _).alloc _) rfl) (by first | exact Lv.hp m10 rfl | exact Lv.hp (m10.alloc _) rfl | exact Lv.hp (m10b _) rfl) (by omega) (by omega)).mono ?_; rintro e w3 ⟨lq, Aq, cq, rfl, nq, vq, mq, hb3⟩)
              | (go_at_call 24; refine (refAdd_lv (l := lq) (s := [d]) (by first | exact Lv.hp mq rfl | exact Lv.hp (mq.alloc _) rfl) (by first | exact Lv.hp (md w3) rfl | exact Lv.hp (below_lv hb3 (Lv.hp ((md wr).alloc _) rfl)) rfl | exact Lv.hp (below_lv hb3 (Lv.hp (mdb _) rfl)) rfl) (by have := HL1.out lq mq.2.2 nq vq.out; omega) (by omega)).mono ?_; rintro e w4 ⟨lt, At, ct, rfl, nt, vt, mt, hb4⟩))
            all_goals
              go_wp2_with fail
              go_roundw
              case rel =>
                have hst := HST.out lq lt vq.out mt.2.2 nt vt.out
                refine ⟨t + 1, lt, At, ct, by omega, by go_num, rfl, hst.1, hst.2, mt, ?_⟩
                first
                  | (have b3 := bel_then ((hb.alloc hsz _).alloc (by simp; omega) _).drew hb3; exact bel_then b3 hb4)
                  | (have b3 := bel_then (hb.alloc hsz _).drew hb3; exact bel_then (b3.alloc b3.size _) hb4)
              case measure => simp [intOf]; omega
          · obtain rfl : t = s.size := by omega
            have hfin : val 18446744073709551616 l = dval s.data.toList := by rw [hv.out.2, List.take_of_length_le (by rw [Array.length_toList]; exact Nat.le_refl _)]
            have HF := Lib.hid hfin
            clear hfin
            go_wp2_with fail
            go_ret2
            exact ⟨l, A, c, rfl, hv.out.1, HF, by omega, ml, hb⟩
end Go.Proofs.YtigphbjgodfhpaaDoor
