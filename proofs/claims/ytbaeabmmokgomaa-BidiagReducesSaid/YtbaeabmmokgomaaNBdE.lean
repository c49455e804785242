/-
  Layer 11, walks: the bidiagonal form, by the reference. (Written by wip/tools/gen_bde.py.)
-/
import Derived.Test.YtbaeabmmokgomaaNB1
namespace Go.Proofs.Ytbaeabmmokgomaa
open Go.RowKit Go.Bw
set_option linter.unusedVariables false
set_option linter.unusedSimpArgs false
attribute [local go_sem] run_store_float
/-- the answer of the reference's Reduce -/
def BdP (w : World) (m n : Nat) (a : List Int) (r : Ending) (w' : World) : Prop :=
  ∃ Ls Ms Ad cd d Ae ce e Ah ch hs Ag cg gs, r = .returned (.tuple #[tV Ad d.length cd Ae e.length ce, .slice Ah hs.length ch, .slice Ag gs.length cg]) ∧ FL w' Ad d.length cd d ∧ FL w' Ae e.length ce e ∧ Rl w' Ah hs.length ch hs ∧ Rl w' Ag gs.length cg gs ∧ BdK m n n Ls Ms d e hs gs ∧ Ls 0 = a ∧ Below w.heap.size w w'
theorem bdX_next {L : List Int} {m n k i : Nat} (hi : i < m - k) : (bdX L m n k).take (i + 1) = (bdX L m n k).take i ++ [D L ((k + i) * n + k)] := by
  rw [take_next (by rw [bdX_len]; exact hi), bdX_at L m n k hi]
theorem bdY_next {L : List Int} {n k i : Nat} (hi : i < n - 1 - k) : (bdY L n k).take (i + 1) = (bdY L n k).take i ++ [D L (k * n + (k + 1 + i))] := by
  rw [take_next (by rw [bdY_len]; exact hi), bdY_at L n k hi]
theorem wd_push {d : List Int} (h : Wd d) {x : Int} (xb : 0 ≤ x ∧ x ≤ 18446744073709551615) : Wd (d ++ [x]) := fun y hy => by
  rcases List.mem_append.1 hy with q | q
  · exact h y q
  · rw [List.mem_singleton.1 q]; exact xb
theorem bdX_wd {L : List Int} {m n k : Nat} (h : Wd L) : Wd (bdX L m n k) := by
  intro x hx
  unfold bdX at hx
  obtain ⟨i, _, rfl⟩ := List.mem_map.1 hx
  exact h.at_ _
theorem bdY_wd {L : List Int} {n k : Nat} (h : Wd L) : Wd (bdY L n k) := by
  intro x hx
  unfold bdY at hx
  obtain ⟨i, _, rfl⟩ := List.mem_map.1 hx
  exact h.at_ _
set_option maxRecDepth 100000 in
set_option maxHeartbeats 32000000 in
theorem rReduce11_any {A : Option Addr} {m n N c : Nat} {l : List Int} {w : World} (h : FL w A N c l) (hN : N = m * n) (hm : m ≤ 512) (hnm : n ≤ m) :
    Calls Try.prog 13 #[mV m n A N c] w (BdP w m n l) := by
  have hn : n ≤ 512 := by omega
  have n4 : N ≤ 262144 := by rw [hN]; exact Nat.le_trans (Nat.mul_le_mul hm hn) (by decide)
  have hll := Lib.hid h.1
  have HWD := Lib.hid h.2.2
  have HN := Lib.hid hN
  have bz := ((Below.refl _ w).alloc (Nat.le_refl _) (.cells #[.int .i64 m, .int .i64 n, .slice A N c] 24)).alloc (by simp) (.cells #[.slice none 0 0, .slice none 0 0] 28)
  have DM := (Blk.new w [.int .i64 m, .int .i64 n, .slice A N c] 24).alloc (.cells #[.slice none 0 0, .slice none 0 0] 28)
  have DZ := Blk.new (w.alloc (.cells #[.int .i64 m, .int .i64 n, .slice A N c] 24)) [.slice none 0 0, .slice none 0 0] 28
  rw [World.size_alloc] at DZ
  replace h := h.on bz
  have hs1 : ((w.alloc (.cells #[.int .i64 m, .int .i64 n, .slice A N c] 24)).alloc (.cells #[.slice none 0 0, .slice none 0 0] 28)).heap.size = w.heap.size + 1 + 1 := by simp
  clear hN
  go_enter Try.func13, Try.ntmps13
  go_upto_region 1 with fail
  generalize (w.alloc (.cells #[.int .i64 m, .int .i64 n, .slice A N c] 24)).alloc (.cells #[.slice none 0 0, .slice none 0 0] 28) = W1 at DM DZ bz hs1 h ⊢
  obtain ⟨y0, y1, y2, y3, y4, y5⟩ := Mbx.cells DM
  have pc := rCopy_any (R := (m : Int)) (C := (n : Int)) h (by omega)
  go_wp2_with fail
  with_reducible refine pc.mono ?_
  rintro e9 w2 ⟨A2, c2, rfl, hO, hb, hgt⟩
  clear pc y0 y1 y2 y3 y4 y5
  replace DM := DM.on hb
  replace DZ := DZ.on hb
  replace bz := bz.trans (hb.mono bz.size)
  have hs2 := hb.size
  rw [hs1] at hgt hs2
  obtain ⟨y0, y1, y2, y3, y4, y5⟩ := Mbx.cells DM
  have hgs : w2.grownBy (((w2.setCell ⟨w.heap.size, 0, none⟩ (.int .i64 m)).setCell ⟨w.heap.size, 1, none⟩ (.int .i64 n)).setCell ⟨w.heap.size, 2, none⟩ (.slice A2 N c2)) (some w.heap.size) := grown_setCell (grown_setCell (grown_setCell (World.grownBy.refl w2 _) 0 _) 1 _) 2 _
  have DM3 := Mbx.put DM m n A2 N c2
  have DZ3 := Blk.grown DZ hgs (by simp)
  have hO3 := hO.grown_ hgs (fun a e9 => by have := hgt a e9; simp; omega)
  have bz3 := bz.grown hgs bz.size (fun b e9 => by injection e9 with e9; omega)
  have hs3 := hgs.size
  have F3 := hO3.fl HWD.out
  rw [hll.out] at F3
  have hlA : ∀ a, A2 = some a → a.block < ((((w2.setCell ⟨w.heap.size, 0, none⟩ (.int .i64 m)).setCell ⟨w.heap.size, 1, none⟩ (.int .i64 n)).setCell ⟨w.heap.size, 2, none⟩ (.slice A2 N c2))).heap.size := fun a e9 => (hO3.gt e9).2
  clear hgs DM DZ hO hO3 bz hb h hs1
  go_upto_region 2 with fail
  clear y0 y1 y2 y3 y4 y5
  generalize (((w2.setCell ⟨w.heap.size, 0, none⟩ (.int .i64 m)).setCell ⟨w.heap.size, 1, none⟩ (.int .i64 n)).setCell ⟨w.heap.size, 2, none⟩ (.slice A2 N c2)) = W3 at DM3 DZ3 F3 bz3 hs3 hlA ⊢
  obtain ⟨bb, hbb⟩ : ∃ x, W3.heap.size = x := ⟨_, rfl⟩
  have DB := Blk.new W3 [.slice none 0 0, .slice none 0 0] 28
  have hbA := (Below.refl _ W3).alloc (Nat.le_refl _) (.cells #[.slice none 0 0, .slice none 0 0] 28)
  replace DM3 := DM3.on hbA
  replace DZ3 := DZ3.on hbA
  replace F3 := F3.on hbA
  replace bz3 := bz3.trans (hbA.mono bz3.size)
  have hs4 := World.size_alloc W3 (.cells #[.slice none 0 0, .slice none 0 0] 28)
  rw [hbb] at DB hs3 hlA hs4
  have hown : ∃ own : Nat → Nat, (own w.heap.size = 9 ∧ own (w.heap.size + 1) = 9 ∧ own bb = 9) ∧ ∀ b, b ≠ w.heap.size → b ≠ w.heap.size + 1 → b ≠ bb → own b = 0 := ⟨fun b => if b = w.heap.size ∨ b = w.heap.size + 1 ∨ b = bb then 9 else 0, ⟨by simp, by simp, by simp⟩, fun b h1 h2 h3 => (if_neg (by omega) : (if b = w.heap.size ∨ b = w.heap.size + 1 ∨ b = bb then 9 else 0) = 0)⟩
  obtain ⟨own, hbx, how⟩ := hown
  have S0 : BS w (W3.alloc (.cells #[.slice none 0 0, .slice none 0 0] 28)) m n N w.heap.size (w.heap.size + 1) bb own A2 c2 l none none none none 0 0 0 0 [] [] [] [] :=
    ⟨F3, fun x q => by have := hlA x q; omega, fun x q => how _ (by have := hgt x q; omega) (by have := hgt x q; omega) (by have := hlA x q; omega), DM3, DZ3, DB, OwnF.nil _ _, OwnF.nil _ _, OwnR.nil _ _, OwnR.nil _ _, Tg.none _ _, Tg.none _ _, Tg.none _ _, Tg.none _ _, (fun r h => by cases h), (fun r h => by cases h), hbx, ⟨by omega, by omega, by omega⟩, ⟨by omega, by omega, by omega⟩, bz3⟩
  have K0 := BdK.start (m := m) (n := n) (by rw [hll.out]; exact HN.out) HWD.out
  clear DM3 DZ3 DB F3 bz3 hs3 hlA hbA hbx how hgt hs2
  go_upto_region 4 with fail
  try simp only [hbb] at ⊢
  clear hbb
  generalize W3.alloc (.cells #[.slice none 0 0, .slice none 0 0] 28) = W4 at S0 hs4 ⊢
  clear hs4
  go_wp2_with fail
  go_loopw [8, 6, 7, 9, 10, 11, 12, 13, 14, 15, 16] (fun v8 v6 v7 v9 v10 v11 v12 v13 v14 v15 v16 wr => ∃ (k : Nat) (Ls Ms : Nat → List Int) (own : Nat → Nat) (A Ad Ae Al Ar : Option Addr) (c cd ce cl cr : Nat) (d e : List Int) (hs gs : List Re), k ≤ n ∧ v8 = .int .i64 k ∧ v6 = .slice Al hs.length cl ∧ v7 = .slice Ar gs.length cr ∧ BS w wr m n N w.heap.size (w.heap.size + 1) bb own A c (Ls k) Ad Ae Al Ar cd ce cl cr d e hs gs ∧ BdK m n k Ls Ms d e hs gs ∧ Ls 0 = l) (fun i _ _ _ _ _ _ _ _ _ _ _ => n - (intOf i).toNat)
  case atStart => exact ⟨0, _, _, own, A2, none, none, none, none, c2, 0, 0, 0, 0, [], [], [], [], Nat.zero_le _, rfl, rfl, rfl, S0, K0, rfl⟩
  case round =>
    clear S0 K0
    obtain ⟨k, Ls, Ms, own, A, Ad, Ae, Al, Ar, c, cd, ce, cl, cr, d, e, hs, gs, hk, rfl, rfl, rfl, S, K, hL0⟩ := hrel
    have HL0 := Lib.hid hL0
    clear hL0
    have k0 : (0 : Int) ≤ k := by omega
    by_cases hlt : k < n
    · as_aux_lemma =>
        have k1 : (k : Int) < n := by omega
        have HK := Lib.hid K
        have hKL : (Ls k).length = N := by rw [K.now.1]; exact HN.out.symm
        have HKL := Lib.hid hKL
        have HKW := Lib.hid K.now.2
        clear K hKL
        obtain ⟨y0, y1, y2, _, _, _⟩ := Mbx.cells S.xa
        go_wp2_with fail
        clear y0 y1 y2
        obtain ⟨wo, hwo⟩ : ∃ x, x = wr := ⟨_, rfl⟩
        subst hwo
        have hX0 : OwnF wo wo.heap.size none 0 ((bdX (Ls k) m n k).take 0) := OwnF.nil _ _
        go_loopw [9, 10] (fun v1 v2 wr => ∃ (i : Nat) (A9 : Option Addr) (c9 : Nat), i ≤ m - k ∧ v1 = .slice A9 i c9 ∧ v2 = .int .i64 ((k + i : Nat) : Int) ∧ OwnF wr wo.heap.size A9 c9 ((bdX (Ls k) m n k).take i) ∧ Below wo.heap.size wo wr) (fun _ i _ => m - (intOf i).toNat)
        case atStart => exact ⟨0, none, 0, Nat.zero_le _, rfl, by go_num, hX0, Below.refl _ _⟩
        case round =>
          clear hX0
          obtain ⟨i, A9, c9, hi, rfl, rfl, hX, bx⟩ := hrel
          have hXl : ((bdX (Ls k) m n k).take i).length = i := by rw [List.length_take, bdX_len]; omega
          have S1 := S.on bx
          obtain ⟨y0, y1, y2, _, _, _⟩ := Mbx.cells S1.xa
          by_cases hit : i < m - k
          · as_aux_lemma =>
              obtain ⟨p, hp⟩ : ∃ p, k + i = p := ⟨_, rfl⟩
              rw [hp]
              have hpn : p < m := by omega
              have hpi : (p : Int) < m := by omega
              have hp0 : (0 : Int) ≤ p := by omega
              have HP := Lib.hid hp
              have pa := rat11_any (m := m) (n := n) (i := p) (k := k) S1.oa HN.out hm hn (by omega) (by omega)
              obtain ⟨x1, x2⟩ := HKW.out.at_ (p * n + k)
              obtain ⟨Y, hY⟩ : ∃ Y, (D (Ls k) (p * n + k)).toNat = Y := ⟨_, rfl⟩
              rw [hY] at pa
              have e1 : (bdX (Ls k) m n k).take i ++ [(Y : Int)] = (bdX (Ls k) m n k).take (i + 1) := by
                rw [bdX_next hit, HP.out, ← hY, Int.toNat_of_nonneg x1]
              have hXl2 : ((bdX (Ls k) m n k).take (i + 1)).length = i + 1 := by rw [List.length_take, bdX_len]; omega
              clear hp hY x1 x2
              go_wp2_with fail
              with_reducible refine pa.mono ?_
              rintro e9 w5 ⟨rfl, hb⟩
              clear pa y0 y1 y2
              have hX1 := hX.on_ hb
              have bx1 := bx.trans (hb.mono bx.size)
              have hsrc : NumF (w5.alloc (.cells #[.float .f64 Y] 49)) (w5.heap.size + 1) (some ⟨w5.heap.size, 0, none⟩) 1 [(Y : Int)] := by
                have h9 := (RowF.one w5 (Y : Int)).nums (c := 1) (B := w5.heap.size + 1) 0 1 (by simp) (by omega) (by unfold maxLen; omega) (by omega)
                exact h9
              replace hX1 := hX1.alloc_ (.cells #[.float .f64 Y] 49)
              replace bx1 := bx1.alloc bx1.size (.cells #[.float .f64 Y] 49)
              clear hb
              go_wp2_with (at_builtin; refine wpList_appF _ rfl _ _ rfl wo.heap.size A9 c9 ((bdX (Ls k) m n k).take i) (by rw [hXl]; rfl) hX1 _ _ _ [(Y : Int)] rfl hsrc (by rw [hXl]; simp; omega) (by have := bx1.size; simpa using this) ?_; intro A5 c5 w6 hO5 hg5 _; have bx5 := below_appF bx1 hX1 hg5 bx1.size; rw [e1] at hO5 ⊢; rw [hXl2])
              go_roundw
              case rel => exact ⟨i + 1, A5, c5, by omega, rfl, by have := HP.out; go_num, hO5, bx5⟩
              case measure => simp [intOf] <;> (have := HP.out; omega)
          · obtain hin : i = m - k := by omega
            have eX : (bdX (Ls k) m n k).take i = bdX (Ls k) m n k := List.take_of_length_le (by rw [bdX_len]; omega)
            have hXl3 : (bdX (Ls k) m n k).length = i := by rw [bdX_len]; omega
            rw [eX] at hX
            have FX : FL wr A9 i c9 (bdX (Ls k) m n k) := by have h9 := hX.fl (bdX_wd HKW.out); rw [hXl3] at h9; exact h9
            have hpn : ¬ ((k + i : Nat) : Int) < m := by omega
            clear eX hXl hXl3 hit hX
            have HIN := Lib.hid hin
            clear hin
            have S2 := S.on bx
            have hi0 : 0 < i := by omega
            have hi5 : i ≤ 512 := by omega
            clear S S1
            go_wp2_with fail
            clear y0 y1 y2 hpn
            with_reducible refine (rMake_any FX hi0 (by omega)).mono ?_
            rintro e9 w7x ⟨gv, t1, be, v, rfl, RV, hgv, IV, hmt, hmb, btx, bbx, hb⟩
            have S3 := (S2.tags 0).on hb
            have hT0x : Tg (tgU own wr.heap.size 0) (some ⟨gv, 0, none⟩) 0 := tgU_new (fun x q => by injection q with q; subst q; exact hgv)
            have hwx : ∀ b, wr.heap.size ≤ b → tgU own wr.heap.size 0 b = 0 := fun b q => by unfold tgU; rw [if_neg (by omega)]
            obtain ⟨ownx, hox⟩ : ∃ o, tgU own wr.heap.size 0 = o := ⟨_, rfl⟩
            rw [hox] at S3 hT0x hwx
            clear hox
            have hIV := IV
            have FVx := RV.fl IV.wd (by rw [IV.len]; unfold maxLen; omega)
            rw [IV.len] at FVx
            have hvlx := Lib.hid IV.len
            have HIVx := Lib.hid IV
            have HMTx := Lib.hid hmt
            have HMBx := Lib.hid hmb
            have hgvlx := RV.lt
            have hs7x := hb.size
            clear S2 hb IV hIV hmt hmb RV FX bx
            have DH := Blk.new w7x [.slice (some ⟨gv, 0, none⟩) i i, .float .f64 t1] 51
            obtain ⟨ghx, eH⟩ : ∃ H, w7x.heap.size = H := ⟨_, rfl⟩
            rw [eH] at DH hgvlx hs7x
            have hgtx := hwx ghx hs7x
            have hbA := (Below.refl _ w7x).alloc (Nat.le_refl _) (.cells #[.slice (some ⟨gv, 0, none⟩) i i, .float .f64 t1] 51)
            have S4 := S3.on hbA
            have F4 := FVx.on hbA
            have hs8 := Nat.le_of_eq (World.size_alloc w7x (.cells #[.slice (some ⟨gv, 0, none⟩) i i, .float .f64 t1] 51)).symm
            clear S3 FVx hbA
            go_upto_region 13 with fail
            try simp only [eH] at ⊢
            rw [eH] at hs8
            clear eH
            generalize w7x.alloc (.cells #[.slice (some ⟨gv, 0, none⟩) i i, .float .f64 t1] 51) = w8x at S4 F4 DH hs8 ⊢
            have hsrc9 : NumF (w8x.alloc (.cells #[.float .f64 be] 49)) (w8x.heap.size + 1) (some ⟨w8x.heap.size, 0, none⟩) 1 [(be : Int)] := by
              have h9 := (RowF.one w8x (be : Int)).nums (c := 1) (B := w8x.heap.size + 1) 0 1 (by simp) (by omega) (by unfold maxLen; omega) (by omega)
              exact h9
            have hbA := (Below.refl _ w8x).alloc (Nat.le_refl _) (.cells #[.float .f64 be] 49)
            have S5 := S4.on hbA
            have F5 := F4.on hbA
            have DH5 := Blk.on DH hbA
            obtain ⟨p0, p1, _, _⟩ := Tbx.cells (Blk.on S4.xb hbA)
            obtain ⟨p4, p5, _, _⟩ := Tbx.cells S4.xb
            have hDL := Lib.hid HK.out.dl
            have hs9 := World.size_alloc w8x (.cells #[.float .f64 be] 49)
            clear S4 F4 DH hbA
            go_upto_region 14 with (at_builtin; refine wpList_appF _ rfl _ _ rfl w.heap.size Ad cd d rfl S5.od _ _ _ [(be : Int)] rfl hsrc9 (by have := hDL.out; simp; omega) S5.bw.size ?_; intro A10x c10x w10x hO10 hg10 ho10; have T10 := Blk.grown S5.xb hg10 (own_nb (S5.td.nb S5.bx.2.2 (by decide))); obtain ⟨r0, r1, r2, r3⟩ := Tbx.cells T10)
            have hs2 : w10x.grownBy (w10x.setCell ⟨bb, 0, none⟩ (.slice A10x (d.length + 1) c10x)) (some bb) := grown_setCell (World.grownBy.refl w10x _) _ _
            have DH6 := Blk.grown (Blk.grown DH5 hg10 (own_nb (S5.td.nb hgtx (by decide)))) hs2 (by have h9 := S5.bx.2.2; have h8 := hgtx; intro e9; injection e9 with e9; rw [e9, h9] at h8; omega)
            have F6 := fl_far9 (fl_far9 F5 hg10 (na_own9 (hT0x.na S5.td (by decide)))) hs2 (fun x hx e9 => (hT0x.nb S5.bx.2.2 (by decide)) x hx (by injection e9))
            have S6 := S5.pushD hO10 hg10 ho10
            have hle : (d ++ [(be : Int)]).length = d.length + 1 := by simp
            rw [hle] at S6
            have hT6 := hT0x.up 1 (n := (w8x.alloc (.cells #[.float .f64 be] 49)).heap.size) (fun x hx => by injection hx with hx; subst hx; show gv < _; omega)
            have hg6 := tgU_lt (i := 1) (n := (w8x.alloc (.cells #[.float .f64 be] 49)).heap.size) hgtx (by omega)
            have hs10 := hs2.size
            have hs11 := hg10.size
            clear S5 F5 DH5 hO10 hg10 ho10 T10 r0 r1 r2 r3 p0 p1 p4 p5 hsrc9 hle hs2 hDL
            obtain ⟨ownx2, ho9⟩ : ∃ o, tgU ownx (w8x.alloc (.cells #[.float .f64 be] 49)).heap.size 1 = o := ⟨_, rfl⟩
            rw [ho9] at S6 hT6 hg6
            clear ho9
            generalize w10x.setCell ⟨bb, 0, none⟩ (.slice A10x (d.length + 1) c10x) = w11x at S6 F6 DH6 hs10 ⊢
            have hbA := (Below.refl _ w11x).alloc (Nat.le_refl _) (.cells #[.slice (some ⟨gv, 0, none⟩) i i, .float .f64 t1] 51)
            have S7 := S6.on hbA
            have DBx := Blk.new w11x [.slice (some ⟨gv, 0, none⟩) i i, .float .f64 t1] 51
            have q0 : (w11x.alloc (.cells #[.slice (some ⟨gv, 0, none⟩) i i, .float .f64 t1] 51)).cell? ⟨w11x.heap.size, 0, none⟩ = some (.slice (some ⟨gv, 0, none⟩) v.length i) := by rw [hvlx.out]; exact DBx.cell 0 rfl
            have q1 : (w11x.alloc (.cells #[.slice (some ⟨gv, 0, none⟩) i i, .float .f64 t1] 51)).cell? ((⟨w11x.heap.size, 0, none⟩ : Addr).add 1) = some (.float .f64 t1) := by rw [add_at]; exact DBx.cell 1 rfl
            obtain ⟨cH0, cH1, _, _⟩ := Rbx.cells DH6
            have F7 : FL (w11x.alloc (.cells #[.slice (some ⟨gv, 0, none⟩) i i, .float .f64 t1] 51)) (some ⟨gv, 0, none⟩) v.length i v := by rw [hvlx.out]; exact F6.on hbA
            have DH7 := Blk.on DH6 hbA
            have hHL := Lib.hid HK.out.hl
            have hs12 := World.size_alloc w11x (.cells #[.slice (some ⟨gv, 0, none⟩) i i, .float .f64 t1] 51)
            clear DBx S6 F6 DH6 hbA
            go_upto_region 15 with (at_builtin; refine wpList_appR _ rfl _ _ rfl w.heap.size Al cl hs hs.length rfl rfl S7.ol _ 1 ⟨some ⟨gv, 0, none⟩, i, v, t1⟩ rfl q0 q1 (by have := hHL.out; omega) S7.bw.size ?_; intro A12x c12x w12x hO12 hg12 ho12)
            have DH8 := Blk.grown DH7 hg12 (own_nb (S7.tl.nb hg6 (by decide)))
            have F8 := fl_far9 F7 hg12 (na_own9 (hT6.na S7.tl (by decide)))
            have S8 := S7.pushL (r := ⟨some ⟨gv, 0, none⟩, i, v, t1⟩) hO12 hg12 ho12 F7 btx hT6 (fun x hx => by injection hx with hx; subst hx; show gv < _; omega)
            have hT8 := hT6.up 3 (n := (w11x.alloc (.cells #[.slice (some ⟨gv, 0, none⟩) i i, .float .f64 t1] 51)).heap.size) (fun x hx => by injection hx with hx; subst hx; show gv < _; omega)
            have hs13 := hg12.size
            clear S7 F7 DH7 hO12 hg12 ho12 q0 q1 cH0 cH1 hT6 hg6 hHL
            obtain ⟨ownx3, ho9⟩ : ∃ o, tgU ownx2 (w11x.alloc (.cells #[.slice (some ⟨gv, 0, none⟩) i i, .float .f64 t1] 51)).heap.size 3 = o := ⟨_, rfl⟩
            rw [ho9] at S8 hT8
            clear ho9
            rw [hvlx.out] at F8
            obtain ⟨k1', hk1⟩ : ∃ z, k + 1 = z := ⟨_, rfl⟩
            have ek1 : (k : Int) + 1 = (k1' : Int) := by omega
            have wk1 : IntKind.i64.wrap (k1' : Int) = (k1' : Int) := IntWalk.i64_in _ (by omega)
            have HK1 := Lib.hid hk1
            have hk1n : k1' ≤ n := by omega
            clear hk1
            have PL := Lib.hid (rLeft_any (M := m) (q := n) (p := k) (f := k1') S8.oa F8 btx hm hn HN.out hi0 (by have := HIN.out; omega) hk1n (fun x hx => by injection hx with hx; subst hx; show gv < _; omega) (fun _ x hx => S8.la x hx))
            obtain ⟨y0, y1, y2, _, _, _⟩ := Mbx.cells S8.xa
            obtain ⟨cH0, cH1, _, _⟩ := Rbx.cells DH8
            go_wp2_with fail
            clear y0 y1 y2 cH0 cH1
            with_reducible refine PL.out.mono ?_
            rintro e9 w14x ⟨A3x, c3x, M, rfl, hO3, hI3, hb⟩
            have HI3x := Lib.hid hI3
            have S9 := S8.setA hb hO3 hI3.wd hI3.len
            obtain ⟨y0, y1, y2, y3, y4, y5⟩ := Mbx.cells (S8.on hb).xa
            clear S8 F8 DH8 PL hO3 hI3 hb
            go_upto_region 16 with fail
            clear y0 y1 y2 y3 y4 y5
            generalize (((w14x.setCell ⟨w.heap.size, 0, none⟩ (.int .i64 m)).setCell ⟨w.heap.size, 1, none⟩ (.int .i64 n)).setCell ⟨w.heap.size, 2, none⟩ (.slice A3x N c3x)) = w15x at S9 ⊢
            obtain ⟨ownx4, ho9⟩ : ∃ o, tgU ownx3 w12x.heap.size 0 = o := ⟨_, rfl⟩
            rw [ho9] at S9
            clear ho9
            have HM9 : Hid (Is M (m * n) (lT (Ls k) v n k (m - k) (k + 1) (af t1))) := Lib.hid (by have h9 := HI3x.out; rw [HIN.out, ← HK1.out, HN.out] at h9; exact h9)
            have HVX : Hid (Is v (m - k) (mkV (bdX (Ls k) m n k))) := Lib.hid (by rw [← HIN.out]; exact HIVx.out)
            have HMW := Lib.hid HM9.out.wd
            have HML : Hid (M.length = m * n ∧ Wd M) := Lib.hid ⟨HM9.out.len, HM9.out.wd⟩
            obtain ⟨ix, rfl⟩ : ∃ z, z = i := ⟨_, rfl⟩
            have hxb : Hid (0 ≤ (be : Int) ∧ (be : Int) ≤ 18446744073709551615) := Lib.hid (by omega)
            have HX9 : Hid (fa (be : Int) = mkB (bdX (Ls k) m n k)) := Lib.hid (by rw [fa_nat]; exact HMBx.out)
            clear HI3x HIVx HIN hvlx hi hi0 hi5 hwx hT0x hgtx hs8 hs9 hs10 hs11 hgv hgvlx hs7x hT8 bbx HMBx
            obtain ⟨y0, y1, y2, _, _, _⟩ := Mbx.cells S9.xa
            by_cases c1 : k + 1 = n
            · as_aux_lemma =>
                have d2 : ((k : Int) + 2 == (n : Int)) = false := by simp; omega
                have d3 : ¬ (k : Int) + 2 < (n : Int) := by omega
                have d4 : ¬ (k : Int) + 2 = (n : Int) := by omega
                go_upto_region 6 with fail
                clear y0 y1 y2
                have K2 := BdK.next (L := M) (M := M) (e2 := e) (gs2 := gs) (r := ⟨some ⟨gv, 0, none⟩, ix, v, t1⟩) (x := (be : Int)) HK.out hlt HX9.out hxb.out HVX.out HMTx.out HM9.out HML.out (by rw [HK.out.el]; omega) (fun j _ _ => rfl) (fun h9 => absurd h9 (by omega)) HK.out.ew (by rw [HK.out.gl]; omega) (fun j q _ hq => hq) (fun q hq => absurd (List.getElem?_eq_some_iff.1 hq).1 (by rw [HK.out.gl]; omega)) (fun _ => rfl)
                have HK2 := Lib.hid K2
                clear K2
                go_wp2_with fail
                go_roundw
                case rel => exact ⟨k + 1, _, _, _, A3x, A10x, Ae, A12x, Ar, c3x, c10x, ce, c12x, cr, _, _, _, _, by omega, by go_num, by simp, by simp, (by show BS _ _ _ _ _ _ _ _ _ _ _ (if k + 1 = k + 1 then M else Ls (k + 1)) _ _ _ _ _ _ _ _ _ _ _ _; rw [if_pos rfl]; exact S9), HK2.out, (by show (if 0 = k + 1 then M else Ls 0) = l; rw [if_neg (by omega)]; exact HL0.out)⟩
                case measure => simp [intOf]; omega
            · by_cases c2 : k + 2 = n
              · as_aux_lemma =>
                  have d2 : ((k : Int) + 2 == (n : Int)) = true := by simp; omega
                  have d4 : (k : Int) + 2 = (n : Int) := by omega
                  have pa := fun (W : World) (h9 : FL W A3x N c3x M) => rat11_any (m := m) (n := n) (i := k) (k := k1') h9 HN.out hm hn (by omega) (by have := HK1.out; omega)
                  obtain ⟨x1, x2⟩ := HMW.out.at_ (k * n + k1')
                  obtain ⟨Ye, hY⟩ : ∃ Y, (D M (k * n + k1')).toNat = Y := ⟨_, rfl⟩
                  rw [hY] at pa
                  have HYe : Hid ((Ye : Int) = D M (k * n + k1')) := Lib.hid (by rw [← hY, Int.toNat_of_nonneg x1])
                  have bYe : Ye ≤ 18446744073709551615 := by omega
                  have HEL := Lib.hid HK.out.el
                  clear hY x1 x2
                  go_wp2_with fail
                  clear y0 y1 y2
                  replace S9 := S9.drew
                  have bz := Below.refl w15x.drew.heap.size w15x.drew
                  refine wp_region_late [10] (S := fun w9 : World => Tbx w9 bb A10x (d ++ [(be : Int)]).length c10x Ae e.length ce ∧ Mbx w9 w.heap.size m n A3x N c3x) (by kernel_rfl) ⟨S9.xb, S9.xa⟩ (fun hS => ?_)
                  generalize w15x.drew = wd at hS S9  bz ⊢
                  refine wpAnyL_take (i := 0) (v := ?v0_1) rfl (by kernel_rfl) (by kernel_rfl) (by kernel_rfl) (fun _ _ _ h => h) (Or.inl ⟨by rfl, ?hy0_1⟩) (by assumption) ?rest0_1
                  case hy0_1 => (intro w9 hSw; clear hSw; go_simp; try with_reducible rfl)
                  try simp only [Act.put, List.setIfInBounds_toArray, List.set_cons_zero, List.set_cons_succ, List.getElem_toArray, List.getElem_cons_zero, List.getElem_cons_succ]
                  refine wpAnyL_take (i := 1) (v := ?v1_2) rfl (by kernel_rfl) (by kernel_rfl) (by kernel_rfl) (fun _ _ _ h => h) (Or.inl ⟨by rfl, ?hy1_2⟩) (by assumption) ?rest1_2
                  case hy1_2 => (intro w9 hSw; obtain ⟨ma1, ma2⟩ := hSw; obtain ⟨z0, z1, _, _⟩ := Tbx.cells ma1; obtain ⟨y0, y1, y2, _, _, _⟩ := Mbx.cells ma2; go_simp; try with_reducible rfl)
                  try simp only [Act.put, List.setIfInBounds_toArray, List.set_cons_zero, List.set_cons_succ, List.getElem_toArray, List.getElem_cons_zero, List.getElem_cons_succ]
                  refine wpAnyL_take (i := 2) (v := ?v2_3) rfl (by kernel_rfl) (by kernel_rfl) (by kernel_rfl) (fun _ _ _ h => h) (Or.inl ⟨by rfl, ?hy2_3⟩) (by assumption) ?rest2_3
                  case hy2_3 => (intro w9 hSw; obtain ⟨ma1, ma2⟩ := hSw; obtain ⟨z0, z1, _, _⟩ := Tbx.cells ma1; obtain ⟨y0, y1, y2, _, _, _⟩ := Mbx.cells ma2; go_simp; try with_reducible rfl)
                  try simp only [Act.put, List.setIfInBounds_toArray, List.set_cons_zero, List.set_cons_succ, List.getElem_toArray, List.getElem_cons_zero, List.getElem_cons_succ]
                  refine wpAnyL_take (i := 3) (v := ?v3_4) rfl (by kernel_rfl) (by kernel_rfl) (by kernel_rfl) (fun _ _ _ h => h) (Or.inl ⟨by rfl, ?hy3_4⟩) (by assumption) ?rest3_4
                  case hy3_4 => (intro w9 hSw; clear hSw; go_simp; try with_reducible rfl)
                  try simp only [Act.put, List.setIfInBounds_toArray, List.set_cons_zero, List.set_cons_succ, List.getElem_toArray, List.getElem_cons_zero, List.getElem_cons_succ]
                  refine wpAnyL_take (i := 4) (v := ?v4_5) rfl (by kernel_rfl) (by kernel_rfl) (by kernel_rfl) (fun _ _ _ h => h) (Or.inl ⟨by rfl, ?hy4_5⟩) (by assumption) ?rest4_5
                  case hy4_5 => (intro w9 hSw; clear hSw; go_simp; try with_reducible rfl)
                  try simp only [Act.put, List.setIfInBounds_toArray, List.set_cons_zero, List.set_cons_succ, List.getElem_toArray, List.getElem_cons_zero, List.getElem_cons_succ]
                  refine wpAnyL_take (i := 5) (v := ?v5_6) rfl (by kernel_rfl) (by kernel_rfl) (by kernel_rfl) (fun _ _ _ h => h) (Or.inl ⟨by rfl, ?hy5_6⟩) (by assumption) ?rest5_6
                  case hy5_6 => (intro w9 hSw; clear hSw; go_simp; try with_reducible rfl)
                  try simp only [Act.put, List.setIfInBounds_toArray, List.set_cons_zero, List.set_cons_succ, List.getElem_toArray, List.getElem_cons_zero, List.getElem_cons_succ]
                  refine wpAnyL_ready (rs := [6]) (by kernel_rfl) (by simp) ?_
                  refine AllReadyL.cons rfl (fun K hK => ?_) AllReadyL.nil
                  go_simp
                  with_reducible refine (pa _ S9.oa).mono ?_
                  rintro e9 w16 ⟨rfl, hb⟩
                  replace S9 := S9.on hb
                  replace bz := bz.trans (hb.mono bz.size)
                  clear hb
                  clear hS; refine hK.out _ _ ⟨S9.xb, S9.xa⟩ (fun hS => ?_); clear hK K
                  try simp only [Act.put, List.setIfInBounds_toArray, List.set_cons_zero, List.set_cons_succ, List.getElem_toArray, List.getElem_cons_zero, List.getElem_cons_succ]
                  refine wpAnyL_ready (rs := [7]) (by kernel_rfl) (by simp) ?_
                  refine AllReadyL.cons rfl (fun K hK => ?_) AllReadyL.nil
                  go_simp
                  have hsrc : NumF (w16.alloc (.cells #[.float .f64 Ye] 49)) (w16.heap.size + 1) (some ⟨w16.heap.size, 0, none⟩) 1 [(Ye : Int)] := by
                    have h9 := (RowF.one w16 (Ye : Int)).nums (c := 1) (B := w16.heap.size + 1) 0 1 (by simp) (by omega) (by unfold maxLen; omega) (by omega)
                    exact h9
                  have hse := World.size_alloc w16 (.cells #[.float .f64 Ye] 49)
                  have hbA := (Below.refl _ w16).alloc (Nat.le_refl _) (.cells #[.float .f64 Ye] 49)
                  replace S9 := S9.on hbA
                  clear hbA
                  replace bz := bz.alloc bz.size (.cells #[.float .f64 Ye] 49)
                  generalize w16.alloc (.cells #[.float .f64 Ye] 49) = we at S9 bz hsrc hse ⊢
                  clear hS; refine hK.out _ _ ⟨S9.xb, S9.xa⟩ (fun hS => ?_); clear hK K
                  try simp only [Act.put, List.setIfInBounds_toArray, List.set_cons_zero, List.set_cons_succ, List.getElem_toArray, List.getElem_cons_zero, List.getElem_cons_succ]
                  refine wpAnyL_ready (rs := [8]) (by kernel_rfl) (by simp) ?_
                  refine AllReadyL.cons rfl (fun K hK => ?_) AllReadyL.nil
                  refine step_appF we rfl _ _ (by rfl) w.heap.size Ae ce e (by rfl) S9.oe _ (some ⟨w16.heap.size, 0, none⟩) 1 [(Ye : Int)] (by rfl) hsrc (by have := HEL.out; simp; omega) S9.bw.size ?_
                  intro A17 c17 w17 hO7 hg7 ho7
                  have T7 := Blk.grown S9.xb hg7 (own_nb (S9.te.nb S9.bx.2.2 (by decide)))
                  have M7 := Blk.grown S9.xa hg7 (own_nb (S9.te.nb S9.bx.1 (by decide)))
                  clear hsrc
                  clear hS; refine hK.out _ _ ⟨T7, M7⟩ (fun hS => ?_); clear hK K
                  try simp only [Act.put, List.setIfInBounds_toArray, List.set_cons_zero, List.set_cons_succ, List.getElem_toArray, List.getElem_cons_zero, List.getElem_cons_succ]
                  refine wpAnyL_take (i := 9) (v := ?v9_7) rfl (by kernel_rfl) (by kernel_rfl) (by kernel_rfl) (fun _ _ _ h => h) (Or.inl ⟨by rfl, ?hy9_7⟩) (by assumption) ?rest9_7
                  case hy9_7 => (intro w9 hSw; clear hSw; go_simp; try with_reducible rfl)
                  try simp only [Act.put, List.setIfInBounds_toArray, List.set_cons_zero, List.set_cons_succ, List.getElem_toArray, List.getElem_cons_zero, List.getElem_cons_succ]
                  obtain ⟨q0, q1, q2, q3⟩ := Tbx.cells T7
                  refine wpAnyL_ready (rs := [10]) (by kernel_rfl) (by simp) ?_
                  refine AllReadyL.lat (by rfl) rfl (fun K hK => ?_) AllReadyL.nil
                  go_simp
                  clear q0 q1 q2 q3
                  refine hK.out _ _ trivial (fun _ => ?_)
                  clear hK K
                  try simp only [Act.put, List.setIfInBounds_toArray, List.set_cons_zero, List.set_cons_succ, List.getElem_toArray, List.getElem_cons_zero, List.getElem_cons_succ]
                  refine wpAnyL_done (by kernel_rfl) ?_ _
                  have S10 := S9.pushE hO7 hg7 ho7
                  have hle : (e ++ [(Ye : Int)]).length = e.length + 1 := by simp
                  rw [hle] at S10
                  clear S9 hO7 hg7 ho7 T7 M7 hle bz pa
                  generalize w17.setCell ⟨bb, 1, none⟩ (.slice A17 (e.length + 1) c17) = w18 at S10 ⊢
                  obtain ⟨y0, y1, y2, _, _, _⟩ := Mbx.cells S10.xa
                  have d3 : ¬ (k : Int) + 2 < (n : Int) := by omega
                  go_upto_region 6 with fail
                  clear y0 y1 y2
                  have K2 := BdK.next (L := M) (M := M) (e2 := (e ++ [(Ye : Int)])) (gs2 := gs) (r := ⟨some ⟨gv, 0, none⟩, ix, v, t1⟩) (x := (be : Int)) HK.out hlt HX9.out hxb.out HVX.out HMTx.out HM9.out HML.out (by rw [List.length_append, HK.out.el]; show min k (n - 1) + 1 = _; omega) (fun j hj _ => by rw [D_append, HK.out.el, if_pos (by omega)]) (fun _ => by rw [D_append, HK.out.el, if_neg (by omega), show k - min k (n - 1) = 0 by omega, if_neg (by omega)]; show fa (Ye : Int) = _; rw [HYe.out, ← HK1.out]; rfl) (wd_push HK.out.ew (by omega)) (by rw [HK.out.gl]; omega) (fun j q _ hq => hq) (fun q hq => absurd (List.getElem?_eq_some_iff.1 hq).1 (by rw [HK.out.gl]; omega)) (fun _ => rfl)
                  have HK2 := Lib.hid K2
                  clear K2
                  go_wp2_with fail
                  go_roundw
                  case rel => exact ⟨k + 1, _, _, _, A3x, A10x, A17, A12x, Ar, c3x, c10x, c17, c12x, cr, _, _, _, _, by omega, by go_num, by simp, by simp, (by show BS _ _ _ _ _ _ _ _ _ _ _ (if k + 1 = k + 1 then M else Ls (k + 1)) _ _ _ _ _ _ _ _ _ _ _ _; rw [if_pos rfl]; exact S10), HK2.out, (by show (if 0 = k + 1 then M else Ls 0) = l; rw [if_neg (by omega)]; exact HL0.out)⟩
                  case measure => simp [intOf]; omega
              · as_aux_lemma =>
                  have c3 : k + 2 < n := by omega
                  have d2 : ((k : Int) + 2 == (n : Int)) = false := by simp; omega
                  have d4 : ¬ (k : Int) + 2 = (n : Int) := by omega
                  have d3 : (k : Int) + 2 < (n : Int) := by omega
                  have hMl : M.length = N := by rw [HML.out.1]; exact HN.out.symm
                  clear hMl c1 c2
                  go_wp2_with fail
                  clear y0 y1 y2
                  obtain ⟨wo, hwo⟩ : ∃ x, x = w15x := ⟨_, rfl⟩
                  subst hwo
                  have hX0 : OwnF wo wo.heap.size none 0 ((bdY M n k).take 0) := OwnF.nil _ _
                  go_loopw [13, 14] (fun v1 v2 wr => ∃ (i : Nat) (A9 : Option Addr) (c9 : Nat), i ≤ n - 1 - k ∧ v1 = .slice A9 i c9 ∧ v2 = .int .i64 ((k1' + i : Nat) : Int) ∧ OwnF wr wo.heap.size A9 c9 ((bdY M n k).take i) ∧ Below wo.heap.size wo wr) (fun _ i _ => n - (intOf i).toNat)
                  case atStart => exact ⟨0, none, 0, Nat.zero_le _, rfl, by go_num, hX0, Below.refl _ _⟩
                  case round =>
                    clear hX0
                    obtain ⟨i, A9, c9, hi, rfl, rfl, hX, bx⟩ := hrel
                    have hXl : ((bdY M n k).take i).length = i := by rw [List.length_take, bdY_len]; omega
                    have S1 := S9.on bx
                    obtain ⟨y0, y1, y2, _, _, _⟩ := Mbx.cells S1.xa
                    by_cases hit : i < n - 1 - k
                    · as_aux_lemma =>
                        obtain ⟨p, hp⟩ : ∃ p, k1' + i = p := ⟨_, rfl⟩
                        rw [hp]
                        have hpn : p < n := by omega
                        have hpi : (p : Int) < n := by omega
                        have hp0 : (0 : Int) ≤ p := by omega
                        have HP := Lib.hid hp
                        have pa := rat11_any (m := m) (n := n) (i := k) (k := p) S1.oa HN.out hm hn (by omega) (by omega)
                        obtain ⟨x1, x2⟩ := HMW.out.at_ (k * n + p)
                        obtain ⟨Y, hY⟩ : ∃ Y, (D M (k * n + p)).toNat = Y := ⟨_, rfl⟩
                        rw [hY] at pa
                        have e1 : (bdY M n k).take i ++ [(Y : Int)] = (bdY M n k).take (i + 1) := by
                          rw [bdY_next hit, HK1.out, HP.out, ← hY, Int.toNat_of_nonneg x1]
                        have hXl2 : ((bdY M n k).take (i + 1)).length = i + 1 := by rw [List.length_take, bdY_len]; omega
                        clear hp hY x1 x2
                        go_wp2_with fail
                        with_reducible refine pa.mono ?_
                        rintro e9 w5 ⟨rfl, hb⟩
                        clear pa y0 y1 y2
                        have hX1 := hX.on_ hb
                        have bx1 := bx.trans (hb.mono bx.size)
                        have hsrc : NumF (w5.alloc (.cells #[.float .f64 Y] 49)) (w5.heap.size + 1) (some ⟨w5.heap.size, 0, none⟩) 1 [(Y : Int)] := by
                          have h9 := (RowF.one w5 (Y : Int)).nums (c := 1) (B := w5.heap.size + 1) 0 1 (by simp) (by omega) (by unfold maxLen; omega) (by omega)
                          exact h9
                        replace hX1 := hX1.alloc_ (.cells #[.float .f64 Y] 49)
                        replace bx1 := bx1.alloc bx1.size (.cells #[.float .f64 Y] 49)
                        clear hb
                        go_wp2_with (at_builtin; refine wpList_appF _ rfl _ _ rfl wo.heap.size A9 c9 ((bdY M n k).take i) (by rw [hXl]; rfl) hX1 _ _ _ [(Y : Int)] rfl hsrc (by rw [hXl]; simp; omega) (by have := bx1.size; simpa using this) ?_; intro A5 c5 w6 hO5 hg5 _; have bx5 := below_appF bx1 hX1 hg5 bx1.size; rw [e1] at hO5 ⊢; rw [hXl2])
                        go_roundw
                        case rel => exact ⟨i + 1, A5, c5, by omega, rfl, by have := HP.out; go_num, hO5, bx5⟩
                        case measure => simp [intOf] <;> (have := HP.out; omega)
                    · obtain hin : i = n - 1 - k := by omega
                      have eX : (bdY M n k).take i = bdY M n k := List.take_of_length_le (by rw [bdY_len]; omega)
                      have hXl3 : (bdY M n k).length = i := by rw [bdY_len]; omega
                      rw [eX] at hX
                      have FX : FL wr A9 i c9 (bdY M n k) := by have h9 := hX.fl (bdY_wd HMW.out); rw [hXl3] at h9; exact h9
                      have hpn : ¬ ((k1' + i : Nat) : Int) < n := by omega
                      clear eX hXl hXl3 hit hX
                      have HIN := Lib.hid hin
                      clear hin
                      have S2 := S9.on bx
                      have hi0 : 0 < i := by omega
                      have hi5 : i ≤ 512 := by omega
                      clear S9 S1
                      go_wp2_with fail
                      clear y0 y1 y2 hpn
                      with_reducible refine (rMake_any FX hi0 (by omega)).mono ?_
                      rintro e9 w7y ⟨gv2, t2, be2, v2, rfl, RV, hgv, IV, hmt, hmb, bty, bby, hb⟩
                      have S3 := (S2.tags 0).on hb
                      have hT0y : Tg (tgU ownx4 wr.heap.size 0) (some ⟨gv2, 0, none⟩) 0 := tgU_new (fun x q => by injection q with q; subst q; exact hgv)
                      have hwy : ∀ b, wr.heap.size ≤ b → tgU ownx4 wr.heap.size 0 b = 0 := fun b q => by unfold tgU; rw [if_neg (by omega)]
                      obtain ⟨owny, hoy⟩ : ∃ o, tgU ownx4 wr.heap.size 0 = o := ⟨_, rfl⟩
                      rw [hoy] at S3 hT0y hwy
                      clear hoy
                      have hIV := IV
                      have FVy := RV.fl IV.wd (by rw [IV.len]; unfold maxLen; omega)
                      rw [IV.len] at FVy
                      have hvly := Lib.hid IV.len
                      have HIVy := Lib.hid IV
                      have HMTy := Lib.hid hmt
                      have HMBy := Lib.hid hmb
                      have hgvly := RV.lt
                      have hs7y := hb.size
                      clear S2 hb IV hIV hmt hmb RV FX bx
                      have DH := Blk.new w7y [.slice (some ⟨gv2, 0, none⟩) i i, .float .f64 t2] 51
                      obtain ⟨ghy, eH⟩ : ∃ H, w7y.heap.size = H := ⟨_, rfl⟩
                      rw [eH] at DH hgvly hs7y
                      have hgty := hwy ghy hs7y
                      have hbA := (Below.refl _ w7y).alloc (Nat.le_refl _) (.cells #[.slice (some ⟨gv2, 0, none⟩) i i, .float .f64 t2] 51)
                      have S4 := S3.on hbA
                      have F4 := FVy.on hbA
                      have hs8 := Nat.le_of_eq (World.size_alloc w7y (.cells #[.slice (some ⟨gv2, 0, none⟩) i i, .float .f64 t2] 51)).symm
                      clear S3 FVy hbA
                      go_upto_region 25 with fail
                      try simp only [eH] at ⊢
                      rw [eH] at hs8
                      clear eH
                      generalize w7y.alloc (.cells #[.slice (some ⟨gv2, 0, none⟩) i i, .float .f64 t2] 51) = w8y at S4 F4 DH hs8 ⊢
                      have hsrc9 : NumF (w8y.alloc (.cells #[.float .f64 be2] 49)) (w8y.heap.size + 1) (some ⟨w8y.heap.size, 0, none⟩) 1 [(be2 : Int)] := by
                        have h9 := (RowF.one w8y (be2 : Int)).nums (c := 1) (B := w8y.heap.size + 1) 0 1 (by simp) (by omega) (by unfold maxLen; omega) (by omega)
                        exact h9
                      have hbA := (Below.refl _ w8y).alloc (Nat.le_refl _) (.cells #[.float .f64 be2] 49)
                      have S5 := S4.on hbA
                      have F5 := F4.on hbA
                      have DH5 := Blk.on DH hbA
                      obtain ⟨p0, p1, _, _⟩ := Tbx.cells (Blk.on S4.xb hbA)
                      obtain ⟨p4, p5, _, _⟩ := Tbx.cells S4.xb
                      have hDL := Lib.hid HK.out.el
                      have hs9 := World.size_alloc w8y (.cells #[.float .f64 be2] 49)
                      clear S4 F4 DH hbA
                      go_upto_region 26 with (at_builtin; refine wpList_appF _ rfl _ _ rfl w.heap.size Ae ce e rfl S5.oe _ _ _ [(be2 : Int)] rfl hsrc9 (by have := hDL.out; simp; omega) S5.bw.size ?_; intro A10y c10y w10y hO10 hg10 ho10; have T10 := Blk.grown S5.xb hg10 (own_nb (S5.te.nb S5.bx.2.2 (by decide))); obtain ⟨r0, r1, r2, r3⟩ := Tbx.cells T10)
                      have hs2 : w10y.grownBy (w10y.setCell ⟨bb, 1, none⟩ (.slice A10y (e.length + 1) c10y)) (some bb) := grown_setCell (World.grownBy.refl w10y _) _ _
                      have DH6 := Blk.grown (Blk.grown DH5 hg10 (own_nb (S5.te.nb hgty (by decide)))) hs2 (by have h9 := S5.bx.2.2; have h8 := hgty; intro e9; injection e9 with e9; rw [e9, h9] at h8; omega)
                      have F6 := fl_far9 (fl_far9 F5 hg10 (na_own9 (hT0y.na S5.te (by decide)))) hs2 (fun x hx e9 => (hT0y.nb S5.bx.2.2 (by decide)) x hx (by injection e9))
                      have S6 := S5.pushE hO10 hg10 ho10
                      have hle : (e ++ [(be2 : Int)]).length = e.length + 1 := by simp
                      rw [hle] at S6
                      have hT6 := hT0y.up 2 (n := (w8y.alloc (.cells #[.float .f64 be2] 49)).heap.size) (fun x hx => by injection hx with hx; subst hx; show gv2 < _; omega)
                      have hg6 := tgU_lt (i := 2) (n := (w8y.alloc (.cells #[.float .f64 be2] 49)).heap.size) hgty (by omega)
                      have hs10 := hs2.size
                      have hs11 := hg10.size
                      clear S5 F5 DH5 hO10 hg10 ho10 T10 r0 r1 r2 r3 p0 p1 p4 p5 hsrc9 hle hs2 hDL
                      obtain ⟨owny2, ho9⟩ : ∃ o, tgU owny (w8y.alloc (.cells #[.float .f64 be2] 49)).heap.size 2 = o := ⟨_, rfl⟩
                      rw [ho9] at S6 hT6 hg6
                      clear ho9
                      generalize w10y.setCell ⟨bb, 1, none⟩ (.slice A10y (e.length + 1) c10y) = w11y at S6 F6 DH6 hs10 ⊢
                      have hbA := (Below.refl _ w11y).alloc (Nat.le_refl _) (.cells #[.slice (some ⟨gv2, 0, none⟩) i i, .float .f64 t2] 51)
                      have S7 := S6.on hbA
                      have DBx := Blk.new w11y [.slice (some ⟨gv2, 0, none⟩) i i, .float .f64 t2] 51
                      have q0 : (w11y.alloc (.cells #[.slice (some ⟨gv2, 0, none⟩) i i, .float .f64 t2] 51)).cell? ⟨w11y.heap.size, 0, none⟩ = some (.slice (some ⟨gv2, 0, none⟩) v2.length i) := by rw [hvly.out]; exact DBx.cell 0 rfl
                      have q1 : (w11y.alloc (.cells #[.slice (some ⟨gv2, 0, none⟩) i i, .float .f64 t2] 51)).cell? ((⟨w11y.heap.size, 0, none⟩ : Addr).add 1) = some (.float .f64 t2) := by rw [add_at]; exact DBx.cell 1 rfl
                      obtain ⟨cH0, cH1, _, _⟩ := Rbx.cells DH6
                      have F7 : FL (w11y.alloc (.cells #[.slice (some ⟨gv2, 0, none⟩) i i, .float .f64 t2] 51)) (some ⟨gv2, 0, none⟩) v2.length i v2 := by rw [hvly.out]; exact F6.on hbA
                      have DH7 := Blk.on DH6 hbA
                      have hHL := Lib.hid HK.out.gl
                      have hs12 := World.size_alloc w11y (.cells #[.slice (some ⟨gv2, 0, none⟩) i i, .float .f64 t2] 51)
                      clear DBx S6 F6 DH6 hbA
                      go_upto_region 27 with (at_builtin; refine wpList_appR _ rfl _ _ rfl w.heap.size Ar cr gs gs.length rfl rfl S7.og _ 1 ⟨some ⟨gv2, 0, none⟩, i, v2, t2⟩ rfl q0 q1 (by have := hHL.out; omega) S7.bw.size ?_; intro A12y c12y w12y hO12 hg12 ho12)
                      have DH8 := Blk.grown DH7 hg12 (own_nb (S7.tr.nb hg6 (by decide)))
                      have F8 := fl_far9 F7 hg12 (na_own9 (hT6.na S7.tr (by decide)))
                      have S8 := S7.pushR (r := ⟨some ⟨gv2, 0, none⟩, i, v2, t2⟩) hO12 hg12 ho12 F7 bty hT6 (fun x hx => by injection hx with hx; subst hx; show gv2 < _; omega)
                      have hT8 := hT6.up 4 (n := (w11y.alloc (.cells #[.slice (some ⟨gv2, 0, none⟩) i i, .float .f64 t2] 51)).heap.size) (fun x hx => by injection hx with hx; subst hx; show gv2 < _; omega)
                      have hs13 := hg12.size
                      clear S7 F7 DH7 hO12 hg12 ho12 q0 q1 cH0 cH1 hT6 hg6 hHL
                      obtain ⟨owny3, ho9⟩ : ∃ o, tgU owny2 (w11y.alloc (.cells #[.slice (some ⟨gv2, 0, none⟩) i i, .float .f64 t2] 51)).heap.size 4 = o := ⟨_, rfl⟩
                      rw [ho9] at S8 hT8
                      clear ho9
                      rw [hvly.out] at F8
                      have PL := Lib.hid (rRight_any (M := m) (q := n) (p := k1') (f := k1') S8.oa F8 bty hm hn HN.out hi0 (by have := HIN.out; have := HK1.out; omega) (by omega) (fun x hx => by injection hx with hx; subst hx; show gv2 < _; omega) (fun _ x hx => S8.la x hx))
                      obtain ⟨y0, y1, y2, _, _, _⟩ := Mbx.cells S8.xa
                      obtain ⟨cH0, cH1, _, _⟩ := Rbx.cells DH8
                      go_wp2_with fail
                      clear y0 y1 y2 cH0 cH1
                      with_reducible refine PL.out.mono ?_
                      rintro e9 w14y ⟨A3y, c3y, L2, rfl, hO3, hI3, hb⟩
                      have HI3y := Lib.hid hI3
                      have S9 := S8.setA hb hO3 hI3.wd hI3.len
                      obtain ⟨y0, y1, y2, y3, y4, y5⟩ := Mbx.cells (S8.on hb).xa
                      clear S8 F8 DH8 PL hO3 hI3 hb
                      go_upto_region 6 with fail
                      clear y0 y1 y2 y3 y4 y5
                      generalize (((w14y.setCell ⟨w.heap.size, 0, none⟩ (.int .i64 m)).setCell ⟨w.heap.size, 1, none⟩ (.int .i64 n)).setCell ⟨w.heap.size, 2, none⟩ (.slice A3y N c3y)) = w15y at S9 ⊢
                      obtain ⟨owny4, ho9⟩ : ∃ o, tgU owny3 w12y.heap.size 0 = o := ⟨_, rfl⟩
                      rw [ho9] at S9
                      clear ho9
                      have HL9 : Hid (Is L2 (m * n) (rT M v2 m n (k + 1) (n - 1 - k) (k + 1) (af t2))) := Lib.hid (by have h9 := HI3y.out; rw [HIN.out, ← HK1.out, HN.out] at h9; exact h9)
                      have HVY : Hid (Is v2 (n - 1 - k) (mkV (bdY M n k))) := Lib.hid (by rw [← HIN.out]; exact HIVy.out)
                      have HGL := Lib.hid HK.out.gl
                      have K2 := BdK.next (L := L2) (M := M) (e2 := (e ++ [(be2 : Int)])) (gs2 := (gs ++ [⟨some ⟨gv2, 0, none⟩, i, v2, t2⟩])) (r := ⟨some ⟨gv, 0, none⟩, ix, v, t1⟩) (x := (be : Int)) HK.out hlt HX9.out hxb.out HVX.out HMTx.out HM9.out ⟨HL9.out.len, HL9.out.wd⟩ (by rw [List.length_append, HK.out.el]; show min k (n - 1) + 1 = _; omega) (fun j hj _ => by rw [D_append, HK.out.el, if_pos (by omega)]) (fun _ => by rw [D_append, HK.out.el, if_neg (by omega), show k - min k (n - 1) = 0 by omega, if_pos c3]; show fa (be2 : Int) = _; rw [fa_nat]; exact HMBy.out) (wd_push HK.out.ew (by omega)) (by rw [List.length_append, HGL.out]; show min k (n - 2) + 1 = _; omega) (fun j q hj hq => by rw [List.getElem?_append_left (by rw [HGL.out]; omega)] at hq; exact hq) (fun q hq => by rw [List.getElem?_append_right (by rw [HGL.out]; omega), HGL.out, show k - min k (n - 2) = 0 by omega] at hq; obtain rfl : (⟨some ⟨gv2, 0, none⟩, i, v2, t2⟩ : Re) = q := (by simpa using hq); exact ⟨HVY.out, HMTy.out, HL9.out⟩) (fun h9 => absurd c3 h9)
                      have HK2 := Lib.hid K2
                      clear K2
                      go_wp2_with fail
                      go_roundw
                      case rel => exact ⟨k + 1, _, _, _, A3y, A10x, A10y, A12x, A12y, c3y, c10x, c10y, c12x, c12y, _, _, _, _, by omega, by go_num, by simp, by simp, (by show BS _ _ _ _ _ _ _ _ _ _ _ (if k + 1 = k + 1 then L2 else Ls (k + 1)) _ _ _ _ _ _ _ _ _ _ _ _; rw [if_pos rfl]; exact S9), HK2.out, (by show (if 0 = k + 1 then L2 else Ls 0) = l; rw [if_neg (by omega)]; exact HL0.out)⟩
                      case measure => simp [intOf]; omega
    · as_aux_lemma =>
        obtain rfl : k = n := by omega
        have k1 : ¬ (k : Int) < k := by omega
        obtain ⟨y0, y1, y2, _, _, _⟩ := Mbx.cells S.xa
        obtain ⟨p0, p1, _, _⟩ := Tbx.cells S.xb
        obtain ⟨z0, z1, z2, z3⟩ := Tbx.cells S.xz
        have HK := Lib.hid K
        clear K
        go_wp2_with fail
        have DY := Blk.set_ (Blk.set_ S.xz 0 (.slice Ad d.length cd)) 1 (.slice Ae e.length ce)
        have x0 := Blk.cell DY 0 rfl
        have x1 := Blk.cell DY 1 rfl
        have hgs : wr.grownBy ((wr.setCell ⟨w.heap.size + 1, 0, none⟩ (.slice Ad d.length cd)).setCell ⟨w.heap.size + 1, 1, none⟩ (.slice Ae e.length ce)) (some (w.heap.size + 1)) := grown_setCell (grown_setCell (World.grownBy.refl wr _) 0 _) 1 _
        refine bodyPost_ret (v := .tuple #[tV Ad d.length cd Ae e.length ce, .slice Al hs.length cl, .slice Ar gs.length cr]) (by simp [results, Try.results13, go_sem, x0, x1]) rfl ?_
        have nn : ∀ {B : Option Addr} {s : Nat}, Tg own B s → s ≠ 9 → ∀ x, B = some x → some x.block ≠ some (w.heap.size + 1) := fun k q x hx e9 => (k.nb S.bx.2.1 q) x hx (by injection e9)
        exact ⟨Ls, Ms, Ad, cd, d, Ae, ce, e, Al, cl, hs, Ar, cr, gs, rfl, (S.od.grown_ hgs (nn S.td (by decide))).fl HK.out.dw, (S.oe.grown_ hgs (nn S.te (by decide))).fl HK.out.ew,
          (S.ol.grown_ hgs (nn S.tl (by decide))).rl (fun r hr => ⟨fl_far9 (S.eh r hr).1.1 hgs (nn (S.eh r hr).2.1 (by decide)), (S.eh r hr).1.2⟩), (S.og.grown_ hgs (nn S.tr (by decide))).rl (fun r hr => ⟨fl_far9 (S.eg r hr).1.1 hgs (nn (S.eg r hr).2.1 (by decide)), (S.eg r hr).1.2⟩),
          HK.out, HL0.out, S.bw.grown hgs S.bw.size (fun b e9 => by injection e9 with e9; omega)⟩
end Go.Proofs.Ytbaeabmmokgomaa
