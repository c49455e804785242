/-
  Layer 7, walks: the reference's Part. (Written by wip/tools/gen_vxg.py.)
-/
import Derived.Test.YtceoefgjjekgaaaVxF
namespace Go.Proofs.Ytceoefgjjekgaaa
open Go.RowKit Go.Bw Go.Sort Go.Shelf
set_option linter.unusedVariables false
set_option linter.unusedSimpArgs false

section
variable {w : World} {A : Option Addr} {n cd c s : Nat} {r : Ru} {v : Vu} {K : Int} {B : Nat} {l : List Int}
set_option maxRecDepth 100000 in
set_option maxHeartbeats 4000000 in
theorem rPart_yes (h : Rk w A n cd r v c) (hs : Sr w B A n cd l) (hv : Vk v s c n K) (hbt : r.b = true) {i0 j0 rr nn : Nat} (hi : (i0 : Int) + rr ≤ v.R) (hj : (j0 : Int) + nn ≤ v.C) :
    Calls Try.prog 65 #[r.V, .int .i64 i0, .int .i64 j0, .int .i64 rr, .int .i64 nn] w (NewR w A n cd (v.partO i0 j0 rr nn) c) := by
  have hp : (v.p == none) = false := by have := h.b; rw [hbt] at this; simpa using this
  have hw1 : withinB i0 rr v.R = true := decide_eq_true (by omega)
  have hw2 : withinB j0 nn v.C = true := decide_eq_true (by omega)
  have e : v.partO i0 j0 rr nn = v.part i0 j0 rr nn := by unfold Vu.partO; rw [hp, hw1, hw2]; rfl
  clear hw1 hw2
  have hAl : ∀ a, A = some a → a.block < w.heap.size := fun a e => (hs.own.gt e).2
  rw [e]
  clear e
  obtain ⟨⟨R0, R1⟩, C0, C1⟩ := And.intro hv.bd.R hv.bd.C
  obtain ⟨rn, hrn⟩ : ∃ m : Nat, v.R = m := ⟨v.R.toNat, by omega⟩
  obtain ⟨cn, hcn⟩ : ∃ m : Nat, v.C = m := ⟨v.C.toNat, by omega⟩
  have hFl : ((v.part i0 j0 rr nn).ats c).length = rr * nn := by
    rw [ats_length]
    show ((rr : Int) * nn).toNat = _
    rw [Int.toNat_mul (by omega) (by omega), Int.toNat_natCast, Int.toNat_natCast]
  have HF2 : Hid (∀ a b, a < rr → b < nn → a * nn + b < rr * nn ∧ D ((v.part i0 j0 rr nn).ats c) (a * nn + b) = v.ix c ((i0 + a : Nat) : Int) ((j0 + b : Nat) : Int) ∧ (i0 + a) * cn + (j0 + b) < r.n2 ∧ D (v.ats c) ((i0 + a) * cn + (j0 + b)) = v.ix c ((i0 + a : Nat) : Int) ((j0 + b : Nat) : Int)) := Lib.hid (fun a b ha hb => by
    obtain ⟨g1, g2⟩ := ats_at c R0 C0 (i := i0 + a) (j := j0 + b) (by omega) (by omega)
    obtain ⟨g3, g4⟩ := ats_at (v := v.part i0 j0 rr nn) c (show (0 : Int) ≤ (rr : Int) by omega) (show (0 : Int) ≤ (nn : Int) by omega) (i := a) (j := b) (show (a : Int) < (rr : Int) by omega) (show (b : Int) < (nn : Int) by omega)
    have e1 : (v.part i0 j0 rr nn).C.toNat = nn := by show ((nn : Int)).toNat = nn; omega
    have e2 : v.C.toNat = cn := by omega
    rw [e1, P_ix] at g4
    rw [e1] at g3
    rw [e2] at g1 g2
    refine ⟨?_, by rw [g4]; push_cast; rfl, by rw [h.n2, ats_length]; exact g1, g2⟩
    rw [← ats_length (v.part i0 j0 rr nn) c, hFl] at g3
    exact g3)
  obtain ⟨F, hF⟩ : ∃ F, (v.part i0 j0 rr nn).ats c = F := ⟨_, rfl⟩
  have HFe := Lib.hid hF
  rw [hF] at hFl HF2
  clear hF
  have DR := Blk.new w r.L 51
  have hRe := h.R
  have hCe := h.C
  rw [hrn] at hRe
  rw [hcn] at hCe
  have hcb : cn ≤ 512 ∧ rn ≤ 512 ∧ i0 + rr ≤ rn ∧ j0 + nn ≤ cn := by omega
  have hab : (i0 : Int) ≤ rn ∧ (j0 : Int) ≤ cn ∧ (rr : Int) ≤ rn - i0 ∧ (nn : Int) ≤ cn - j0 := by omega
  obtain ⟨hab1, hab2', hab3, hab4⟩ := hab
  clear hi hj
  obtain ⟨d1, d2, d3⟩ := h.data hbt
  have HH := Lib.hid h
  have HS := Lib.hid hs
  have HV := Lib.hid hv
  have HL := Lib.hid h.n2
  have Hrc := Lib.hid (And.intro hrn hcn)
  have bw := (Below.refl _ w).alloc (Nat.le_refl _) (.cells r.L.toArray 51)
  clear h hs hv hp R0 R1 C0 C1 hcn hrn
  obtain ⟨A', n', c', R, C, A2, n2, c2, b⟩ := r
  simp only at d1 d2 d3 hbt hRe hCe HF2
  subst d1 d2 d3 hbt hRe hCe
  obtain ⟨r0, hr0⟩ : ∃ r0, Ru.mk A' n' c' rn cn A2 n2 c2 true = r0 := ⟨_, rfl⟩
  have Hr0 := Lib.hid hr0
  clear hr0
  have DZ := (Blk.new (w.alloc (.cells (Ru.L ⟨A', n', c', rn, cn, A2, n2, c2, true⟩).toArray 51)) Ru.zero.L 51).alloc (.cells (Ru.L ⟨A', n', c', rr, nn, none, 0, 0, true⟩).toArray 51)
  have DO := Blk.new ((w.alloc (.cells (Ru.L ⟨A', n', c', rn, cn, A2, n2, c2, true⟩).toArray 51)).alloc (.cells Ru.zero.L.toArray 51)) (Ru.L ⟨A', n', c', rr, nn, none, 0, 0, true⟩) 51
  rw [World.size_alloc] at DZ
  rw [World.size_alloc, World.size_alloc] at DO
  replace DR := (DR.alloc (.cells Ru.zero.L.toArray 51)).alloc (.cells (Ru.L ⟨A', n', c', rr, nn, none, 0, 0, true⟩).toArray 51)
  replace bw := (bw.alloc (by simp) (.cells Ru.zero.L.toArray 51)).alloc (by simp; omega) (.cells (Ru.L ⟨A', n', c', rr, nn, none, 0, 0, true⟩).toArray 51)
  obtain ⟨k0, k1, k2, k3, k4⟩ := Rbx.cells DR
  go_enter Try.func65, Try.ntmps65
  go_wp2_with fail
  clear k0 k1 k2 k3 k4
  go_loopw [12] (fun i wr => ∃ (a : Nat) (A3 : Option Addr) (c3 : Nat), a ≤ rr ∧ i = .int .i64 a ∧ OwnI wr (w.heap.size + 3) A3 c3 (F.take (a * nn)) ∧ Rbx wr w.heap.size r0 ∧ Rbx wr (w.heap.size + 1) Ru.zero ∧ Rbx wr (w.heap.size + 2) ⟨A', n', c', rr, nn, A3, a * nn, c3, true⟩ ∧ Below w.heap.size w wr ∧ w.heap.size + 3 ≤ wr.heap.size) (fun i _ => rr - (intOf i).toNat)
  case atStart => exact ⟨0, none, 0, Nat.zero_le _, rfl, by rw [Nat.zero_mul]; exact OwnI.nil _ _, by rw [← Hr0.out]; exact DR, DZ, by rw [Nat.zero_mul]; exact DO, bw, by simp⟩
  case round =>
    clear DR DZ DO bw
    obtain ⟨a, A3, c3, ha, rfl, ho, DR, DZ, DO, bw, hsz⟩ := hrel
    obtain ⟨k0, k1, k2, k3, k4⟩ := Rbx.cells DR
    rw [← Hr0.out] at k0 k1 k2 k3 k4
    by_cases hla : a < rr
    · go_wp2_with fail
      clear k0 k1 k2 k3 k4
      go_loopw [13] (fun i wr => ∃ (b : Nat) (A3 : Option Addr) (c3 : Nat), b ≤ nn ∧ i = .int .i64 b ∧ OwnI wr (w.heap.size + 3) A3 c3 (F.take (a * nn + b)) ∧ Rbx wr w.heap.size r0 ∧ Rbx wr (w.heap.size + 1) Ru.zero ∧ Rbx wr (w.heap.size + 2) ⟨A', n', c', rr, nn, A3, a * nn + b, c3, true⟩ ∧ Below w.heap.size w wr ∧ w.heap.size + 3 ≤ wr.heap.size) (fun i _ => nn - (intOf i).toNat)
      case atStart => exact ⟨0, A3, c3, Nat.zero_le _, rfl, ho, DR, DZ, DO, bw, hsz⟩
      case round =>
        clear ho DR DZ DO bw hsz
        obtain ⟨b, A3, c3, hb, rfl, ho, DR, DZ, DO, bw, hsz⟩ := hrel
        obtain ⟨k0, k1, k2, k3, k4⟩ := Rbx.cells DR
        rw [← Hr0.out] at k0 k1 k2 k3 k4
        by_cases hlb : b < nn
        · obtain ⟨hkF, hX, hqn, hq⟩ := HF2.out a b hla hlb
          obtain ⟨k, hke⟩ : ∃ k, a * nn + b = k := ⟨_, rfl⟩
          have hlt : k < rr * nn := by rw [← hke]; exact hkF
          have hcr : rr * nn ≤ 512 * 512 := Nat.mul_le_mul (by omega) (by omega)
          have HKE := Lib.hid hke
          rw [hke] at hX ho DO
          have hlk : (F.take k).length = k := by rw [List.length_take, hFl]; omega
          obtain ⟨o0, o1, o2, o3, o4⟩ := Rbx.cells DO
          clear hkF hke
          obtain ⟨q, hqe⟩ : ∃ q, (i0 + a) * cn + (j0 + b) = q := ⟨_, rfl⟩
          rw [hqe] at hqn hq
          obtain ⟨ad2, hA2, hb2, hc2⟩ := (HH.out.on bw).num.at_ (k := q) (by exact Nat.lt_of_lt_of_eq hqn HL.out)
          have hab2 : ad2.block < w.heap.size := by
            obtain ⟨ad', e, hb', _⟩ := HH.out.num.at_ (k := q) (by exact Nat.lt_of_lt_of_eq hqn HL.out)
            rw [hA2] at e; cases e; exact hb'
          rw [hq] at hc2
          have hn2 := HH.out.num.length
          have HT := Lib.hid (take_next (l := F) (k := k) (by rw [hFl]; exact hlt))
          rw [hX] at HT
          obtain ⟨X, hXe⟩ : ∃ X, v.ix c ((i0 + a : Nat) : Int) ((j0 + b : Nat) : Int) = X := ⟨_, rfl⟩
          rw [hXe] at hc2 HT
          have u_0 : (0 : Int) ≤ b := by omega
          have i1 : (b : Int) < nn := by omega
          have i2 : (a : Int) < rr := by omega
          obtain ⟨sn, hsn⟩ : ∃ sn, i0 + a = sn := ⟨_, rfl⟩
          rw [hsn] at hqe
          have hsi : (i0 : Int) + a = (sn : Int) := by omega
          have hsn5 : sn ≤ 512 := by omega
          have hq0 : (0 : Int) ≤ (sn : Int) * cn := Int.mul_nonneg (by omega) (by omega)
          have hq1 : (sn : Int) * cn ≤ 512 * 512 := Int.mul_le_mul (by omega) (by omega) (by omega) (by omega)
          have hqp : (sn : Int) * cn + (j0 + b) = (q : Int) := by rw [← hqe]; push_cast; rfl
          obtain ⟨P, hP⟩ : ∃ P, (sn : Int) * cn = P := ⟨_, rfl⟩
          rw [hP] at hqp hq0 hq1
          obtain ⟨t, ht⟩ : ∃ t, P + (j0 : Int) = t := ⟨_, rfl⟩
          have hqi : t + (b : Int) = (q : Int) := by omega
          have hwS : IntKind.i64.wrap (sn : Int) = sn := (IntWalk.i64_left _).trans (IntWalk.wrap64_in _ (by omega))
          have hwP : IntKind.i64.wrap P = P := (IntWalk.i64_left _).trans (IntWalk.wrap64_in _ (by omega))
          have hwT : IntKind.i64.wrap t = t := (IntWalk.i64_left _).trans (IntWalk.wrap64_in _ (by omega))
          have hwQ : IntKind.i64.wrap (q : Int) = q := (IntWalk.i64_left _).trans (IntWalk.wrap64_in _ (by omega))
          have hqb : (q : Int) ≤ 9223372036854775807 := by omega
          have hq0' : (0 : Int) ≤ q := by omega
          have hqn' : (q : Int) < n2 := by omega
          obtain ⟨L, hL⟩ : ∃ L, F.take k = L := ⟨_, rfl⟩
          rw [hL] at ho hlk HT
          clear hX hXe hL hq hqe hqp hsn
          simp only at hA2
          subst hA2
          subst hlk
          have HK1 := Lib.hid (show a * nn + (b + 1) = L.length + 1 by have := HKE.out; omega)
          obtain ⟨o, hoe⟩ : ∃ o, Obj.cells #[.int .i64 X] 3 = o := ⟨_, rfl⟩
          have hsrc : NumI (wr.drew.alloc o) (wr.heap.size + 1) (some ⟨wr.heap.size, 0, none⟩) 1 [X] := by
            have := (RowI.one wr.drew X).nums (B := wr.heap.size + 1) (c := 1) 0 1 (by simp) (by omega) (by unfold maxLen; omega) (by simp)
            rw [← hoe]
            simpa using this
          have hown1 : OwnI (wr.drew.alloc o) (w.heap.size + 3) A3 c3 L := (show OwnI wr.drew (w.heap.size + 3) A3 c3 L from ho).alloc_ o
          have hS0 : Rbx wr.drew w.heap.size r0 ∧ wr.drew.cell? (ad2.add q) = some (.int .i64 X) := ⟨DR.drew, hc2⟩
          have hS1 : Rbx (wr.drew.alloc o) w.heap.size r0 ∧ (wr.drew.alloc o).cell? (ad2.add q) = some (.int .i64 X) :=
            ⟨DR.drew.alloc o, by rw [World.cell?_alloc_lt _ _ _ (by rw [add_block]; simp; omega)]; exact hc2⟩
          have DO1 := DO.drew.alloc o
          have DZ1 := DZ.drew.alloc o
          obtain ⟨v0, v1, v2, v3, v4⟩ := Rbx.cells (DO.alloc o)
          have HK := Lib.hid (show ∀ w4, (wr.drew.alloc o).grownBy w4 (Value.slice A3 L.length c3).ownBlock → (Rbx w4 w.heap.size r0 ∧ w4.cell? (ad2.add q) = some (.int .i64 X)) ∧ Rbx w4 (w.heap.size + 2) ⟨A', n', c', rr, nn, A3, L.length, c3, true⟩ ∧ Rbx w4 (w.heap.size + 1) Ru.zero ∧ Below w.heap.size w w4 ∧ w.heap.size + 3 ≤ w4.heap.size from fun w4 hg => by
            have hlo : ∀ g, (Value.slice A3 L.length c3).ownBlock = some g → w.heap.size + 3 ≤ g := fun g hk => (World.ownsRow.lt hown1 g hk).1
            have b2 : Below (w.heap.size + 3) (wr.drew.alloc o) w4 := below_appI (Below.refl _ _) hown1 hg (by simp; omega)
            have bel : Below w.heap.size w w4 := below_appI (bw.drew.alloc (by simp; omega) o) (hown1.less (by omega)) hg (by simp; omega)
            refine ⟨⟨hS1.1.grown hg (fun e => ?_), by rw [b2.cell (by rw [add_block]; omega)]; exact hS1.2⟩, DO1.grown hg (fun e => ?_), DZ1.grown hg (fun e => ?_), bel, ?_⟩
            · have := hlo _ e.symm; omega
            · have := hlo _ e.symm; omega
            · have := hlo _ e.symm; omega
            · have := b2.size; simp at this; omega)
          have hCl : L.length ≤ 262144 := by omega
          subst hoe
          go_wp2_with fail
          refine wp_only ?_
          refine wp_region_held_drew (S := fun w9 : World => Rbx w9 w.heap.size r0 ∧ w9.cell? (ad2.add q) = some (.int .i64 X)) (by kernel_rfl) ⟨DR.drew, hc2⟩ (fun hS => ?_)
          refine wpAnyH_take (i := 0) (v := ?v0_1) rfl (by kernel_rfl) (by kernel_rfl) (by kernel_rfl) (fun _ _ _ h => h) (Or.inl ⟨by rfl, ?hy0_1⟩) (by assumption) ?rest0_1
          case hy0_1 => (intro w9 hSw; clear hSw; go_simp; try with_reducible rfl)
          try simp only [Act.put, List.setIfInBounds_toArray, List.set_cons_zero, List.set_cons_succ, List.getElem_toArray, List.getElem_cons_zero, List.getElem_cons_succ]
          refine wpAnyH_take (i := 2) (v := ?v2_2) rfl (by kernel_rfl) (by kernel_rfl) (by kernel_rfl) (fun _ _ _ h => h) (Or.inl ⟨by rfl, ?hy2_2⟩) (by assumption) ?rest2_2
          case hy2_2 => (intro w9 hSw; clear hSw; go_simp; try with_reducible rfl)
          try simp only [Act.put, List.setIfInBounds_toArray, List.set_cons_zero, List.set_cons_succ, List.getElem_toArray, List.getElem_cons_zero, List.getElem_cons_succ]
          refine wpAnyH_take (i := 3) (v := ?v3_3) rfl (by kernel_rfl) (by kernel_rfl) (by kernel_rfl) (fun _ _ _ h => h) (Or.inl ⟨by rfl, ?hy3_3⟩) (by assumption) ?rest3_3
          case hy3_3 => (intro w9 hSw; obtain ⟨n0, n1⟩ := hSw; obtain ⟨k0, k1, k2, k3, k4⟩ := Rbx.cells n0; rw [← Hr0.out] at k0 k1 k2 k3 k4; go_simp; try with_reducible rfl)
          try simp only [Act.put, List.setIfInBounds_toArray, List.set_cons_zero, List.set_cons_succ, List.getElem_toArray, List.getElem_cons_zero, List.getElem_cons_succ]
          refine wpAnyH_take (i := 4) (v := ?v4_4) rfl (by kernel_rfl) (by kernel_rfl) (by kernel_rfl) (fun _ _ _ h => h) (Or.inl ⟨by rfl, ?hy4_4⟩) (by assumption) ?rest4_4
          case hy4_4 => (intro w9 hSw; clear hSw; go_simp; try with_reducible rfl)
          try simp only [Act.put, List.setIfInBounds_toArray, List.set_cons_zero, List.set_cons_succ, List.getElem_toArray, List.getElem_cons_zero, List.getElem_cons_succ]
          refine wpAnyH_take (i := 5) (v := ?v5_5) rfl (by kernel_rfl) (by kernel_rfl) (by kernel_rfl) (fun _ _ _ h => h) (Or.inl ⟨by rfl, ?hy5_5⟩) (by assumption) ?rest5_5
          case hy5_5 => (intro w9 hSw; clear hSw; go_simp; try with_reducible rfl)
          try simp only [Act.put, List.setIfInBounds_toArray, List.set_cons_zero, List.set_cons_succ, List.getElem_toArray, List.getElem_cons_zero, List.getElem_cons_succ]
          refine wpAnyH_take (i := 6) (v := ?v6_6) rfl (by kernel_rfl) (by kernel_rfl) (by kernel_rfl) (fun _ _ _ h => h) (Or.inl ⟨by rfl, ?hy6_6⟩) (by assumption) ?rest6_6
          case hy6_6 => (intro w9 hSw; clear hSw; go_simp; try with_reducible rfl)
          try simp only [Act.put, List.setIfInBounds_toArray, List.set_cons_zero, List.set_cons_succ, List.getElem_toArray, List.getElem_cons_zero, List.getElem_cons_succ]
          refine wpAnyH_take (i := 7) (v := ?v7_7) rfl (by kernel_rfl) (by kernel_rfl) (by kernel_rfl) (fun _ _ _ h => h) (Or.inl ⟨by rfl, ?hy7_7⟩) (by assumption) ?rest7_7
          case hy7_7 => (intro w9 hSw; clear hSw; go_simp; try with_reducible rfl)
          try simp only [Act.put, List.setIfInBounds_toArray, List.set_cons_zero, List.set_cons_succ, List.getElem_toArray, List.getElem_cons_zero, List.getElem_cons_succ]
          refine wpAnyH_take (i := 8) (v := ?v8_8) rfl (by kernel_rfl) (by kernel_rfl) (by kernel_rfl) (fun _ _ _ h => h) (Or.inl ⟨by rfl, ?hy8_8⟩) (by assumption) ?rest8_8
          case hy8_8 => (intro w9 hSw; obtain ⟨n0, n1⟩ := hSw; obtain ⟨k0, k1, k2, k3, k4⟩ := Rbx.cells n0; rw [← Hr0.out] at k0 k1 k2 k3 k4; go_simp; try with_reducible rfl)
          try simp only [Act.put, List.setIfInBounds_toArray, List.set_cons_zero, List.set_cons_succ, List.getElem_toArray, List.getElem_cons_zero, List.getElem_cons_succ]
          refine wpAnyH_take (i := 9) (v := ?v9_9) rfl (by kernel_rfl) (by kernel_rfl) (by kernel_rfl) (fun _ _ _ h => h) (Or.inl ⟨by rfl, ?hy9_9⟩) (by assumption) ?rest9_9
          case hy9_9 => (intro w9 hSw; clear hSw; go_simp; try with_reducible rfl)
          try simp only [Act.put, List.setIfInBounds_toArray, List.set_cons_zero, List.set_cons_succ, List.getElem_toArray, List.getElem_cons_zero, List.getElem_cons_succ]
          refine wpAnyH_take (i := 10) (v := ?v10_10) rfl (by kernel_rfl) (by kernel_rfl) (by kernel_rfl) (fun _ _ _ h => h) (Or.inl ⟨by rfl, ?hy10_10⟩) (by assumption) ?rest10_10
          case hy10_10 => (intro w9 hSw; clear hSw; go_simp; try with_reducible rfl)
          try simp only [Act.put, List.setIfInBounds_toArray, List.set_cons_zero, List.set_cons_succ, List.getElem_toArray, List.getElem_cons_zero, List.getElem_cons_succ]
          refine wpAnyH_take (i := 11) (v := ?v11_11) rfl (by kernel_rfl) (by kernel_rfl) (by kernel_rfl) (fun _ _ _ h => h) (Or.inl ⟨by rfl, ?hy11_11⟩) (by assumption) ?rest11_11
          case hy11_11 => (intro w9 hSw; clear hSw; go_simp; try with_reducible rfl)
          try simp only [Act.put, List.setIfInBounds_toArray, List.set_cons_zero, List.set_cons_succ, List.getElem_toArray, List.getElem_cons_zero, List.getElem_cons_succ]
          refine wpAnyH_take (i := 12) (v := ?v12_12) rfl (by kernel_rfl) (by kernel_rfl) (by kernel_rfl) (fun _ _ _ h => h) (Or.inl ⟨by rfl, ?hy12_12⟩) (by assumption) ?rest12_12
          case hy12_12 => (intro w9 hSw; clear hSw; go_simp; try with_reducible rfl)
          try simp only [Act.put, List.setIfInBounds_toArray, List.set_cons_zero, List.set_cons_succ, List.getElem_toArray, List.getElem_cons_zero, List.getElem_cons_succ]
          refine wpAnyH_take (i := 13) (v := ?v13_13) rfl (by kernel_rfl) (by kernel_rfl) (by kernel_rfl) (fun _ _ _ h => h) (Or.inl ⟨by rfl, ?hy13_13⟩) (by assumption) ?rest13_13
          case hy13_13 => (intro w9 hSw; clear hSw; go_simp; try with_reducible rfl)
          try simp only [Act.put, List.setIfInBounds_toArray, List.set_cons_zero, List.set_cons_succ, List.getElem_toArray, List.getElem_cons_zero, List.getElem_cons_succ]
          refine wpAnyH_take (i := 14) (v := ?v14_14) rfl (by kernel_rfl) (by kernel_rfl) (by kernel_rfl) (fun _ _ _ h => h) (Or.inl ⟨by rfl, ?hy14_14⟩) (by assumption) ?rest14_14
          case hy14_14 => (intro w9 hSw; clear hSw; go_simp; try with_reducible rfl)
          try simp only [Act.put, List.setIfInBounds_toArray, List.set_cons_zero, List.set_cons_succ, List.getElem_toArray, List.getElem_cons_zero, List.getElem_cons_succ]
          refine wpAnyH_take (i := 15) (v := ?v15_15) rfl (by kernel_rfl) (by kernel_rfl) (by kernel_rfl) (fun _ _ _ h => h) (Or.inl ⟨by rfl, ?hy15_15⟩) (by assumption) ?rest15_15
          case hy15_15 => (intro w9 hSw; obtain ⟨n0, n1⟩ := hSw; go_simp; try with_reducible rfl)
          try simp only [Act.put, List.setIfInBounds_toArray, List.set_cons_zero, List.set_cons_succ, List.getElem_toArray, List.getElem_cons_zero, List.getElem_cons_succ]
          refine wpAnyH_ready (rs := [1, 16]) (by kernel_rfl) (by simp) ?_
          refine AllReadyH.cons rfl (fun K hK => ?_) (AllReadyH.cons rfl (fun K hK => ?_) AllReadyH.nil)
          · go_simp
            refine hK.out _ _ hS0 (fun hH => ?_)
            clear hK K hS
            have hS := hH
            clear hH
            try simp only [Act.put, List.setIfInBounds_toArray, List.set_cons_zero, List.set_cons_succ, List.getElem_toArray, List.getElem_cons_zero, List.getElem_cons_succ]
            refine wpAnyH_ready (rs := [16]) (by kernel_rfl) (by simp) ?_
            refine AllReadyH.cons rfl (fun K hK => ?_) AllReadyH.nil
            go_simp
            refine hK.out _ _ hS1 (fun hH => ?_)
            clear hK K hS
            have hS := hH
            clear hH
            try simp only [Act.put, List.setIfInBounds_toArray, List.set_cons_zero, List.set_cons_succ, List.getElem_toArray, List.getElem_cons_zero, List.getElem_cons_succ]
            refine wpAnyH_ready (rs := [17]) (by kernel_rfl) (by simp) ?_
            refine AllReadyH.cons rfl (fun K hK => ?_) AllReadyH.nil
            refine wp_appI _ _ _ (by rfl) (w.heap.size + 3) A3 c3 L (by rfl) hown1 _ (some ⟨wr.heap.size, 0, none⟩) 1 [X] (by rfl) hsrc (by simp; omega) (by simp; omega) ?_
            intro A4 c4 w4 hown4 hg hat
            obtain ⟨hS4, hO4, hZ4, hb4, hs4⟩ := HK.out _ hg
            obtain ⟨o0, o1, o2, o3, o4⟩ := Rbx.cells hO4
            obtain ⟨p0, p1, p2, p3, p4⟩ := Rbx.free hO4
            refine hK.out _ _ hS4 (fun hH => ?_)
            clear hK K hS
            have hS := hH
            clear hH
            try simp only [Act.put, List.setIfInBounds_toArray, List.set_cons_zero, List.set_cons_succ, List.getElem_toArray, List.getElem_cons_zero, List.getElem_cons_succ]
            refine wpAnyH_take (i := 18) (v := ?v18_16) rfl (by kernel_rfl) (by kernel_rfl) (by kernel_rfl) (fun _ _ _ h => h) (Or.inl ⟨by rfl, ?hy18_16⟩) (by assumption) ?rest18_16
            case hy18_16 => (intro w9 hSw; clear hSw; go_simp; try with_reducible rfl)
            try simp only [Act.put, List.setIfInBounds_toArray, List.set_cons_zero, List.set_cons_succ, List.getElem_toArray, List.getElem_cons_zero, List.getElem_cons_succ]
            refine wpAnyH_ready (rs := [19]) (by kernel_rfl) (by simp) ?_
            refine AllReadyH.cons rfl (fun K hK => ?_) AllReadyH.nil
            go_simp
            clear o0 o1 o2 o3 o4 p0 p1 p2 p3 p4
            refine hK.out _ _ ⟨Blk.far hS4.1 (by simp; try omega) _, (World.cell?_of_block (Below.heap_setCell w4 ⟨w.heap.size + 2, 3, none⟩ _ _ (by simp only [add_block]; omega))).trans hS4.2⟩ (fun hH => ?_)
            clear hK K hS
            have hS := hH
            clear hH
            try simp only [Act.put, List.setIfInBounds_toArray, List.set_cons_zero, List.set_cons_succ, List.getElem_toArray, List.getElem_cons_zero, List.getElem_cons_succ]
            refine wpAnyH_done (by kernel_rfl) ?_ _
            simp only [onlyN]
            go_wp2_with fail
            go_roundw
            case rel => exact ⟨b + 1, A4, c4, by omega, by go_num, by rw [HK1.out, HT.out]; exact hown4.farC (by simp) _, Blk.far hS4.1 (by simp; try omega) _, Blk.far hZ4 (by simp; try omega) _, by rw [HK1.out]; have := Blk.set_ hO4 3 (.slice A4 (L.length + 1) c4); simpa using this, hb4.setCell (p := ⟨w.heap.size + 2, 3, none⟩) (by simp) _, by simp; omega⟩
            case measure => simp [intOf]; omega
          · go_simp
            refine hK.out _ _ hS1 (fun hH => ?_)
            clear hK K hS
            have hS := hH
            clear hH
            try simp only [Act.put, List.setIfInBounds_toArray, List.set_cons_zero, List.set_cons_succ, List.getElem_toArray, List.getElem_cons_zero, List.getElem_cons_succ]
            refine wpAnyH_ready (rs := [1]) (by kernel_rfl) (by simp) ?_
            refine AllReadyH.cons rfl (fun K hK => ?_) AllReadyH.nil
            go_simp
            refine hK.out _ _ hS1 (fun hH => ?_)
            clear hK K hS
            have hS := hH
            clear hH
            try simp only [Act.put, List.setIfInBounds_toArray, List.set_cons_zero, List.set_cons_succ, List.getElem_toArray, List.getElem_cons_zero, List.getElem_cons_succ]
            refine wpAnyH_ready (rs := [17]) (by kernel_rfl) (by simp) ?_
            refine AllReadyH.cons rfl (fun K hK => ?_) AllReadyH.nil
            refine wp_appI _ _ _ (by rfl) (w.heap.size + 3) A3 c3 L (by rfl) hown1 _ (some ⟨wr.heap.size, 0, none⟩) 1 [X] (by rfl) hsrc (by simp; omega) (by simp; omega) ?_
            intro A4 c4 w4 hown4 hg hat
            obtain ⟨hS4, hO4, hZ4, hb4, hs4⟩ := HK.out _ hg
            obtain ⟨o0, o1, o2, o3, o4⟩ := Rbx.cells hO4
            obtain ⟨p0, p1, p2, p3, p4⟩ := Rbx.free hO4
            refine hK.out _ _ hS4 (fun hH => ?_)
            clear hK K hS
            have hS := hH
            clear hH
            try simp only [Act.put, List.setIfInBounds_toArray, List.set_cons_zero, List.set_cons_succ, List.getElem_toArray, List.getElem_cons_zero, List.getElem_cons_succ]
            refine wpAnyH_take (i := 18) (v := ?v18_17) rfl (by kernel_rfl) (by kernel_rfl) (by kernel_rfl) (fun _ _ _ h => h) (Or.inl ⟨by rfl, ?hy18_17⟩) (by assumption) ?rest18_17
            case hy18_17 => (intro w9 hSw; clear hSw; go_simp; try with_reducible rfl)
            try simp only [Act.put, List.setIfInBounds_toArray, List.set_cons_zero, List.set_cons_succ, List.getElem_toArray, List.getElem_cons_zero, List.getElem_cons_succ]
            refine wpAnyH_ready (rs := [19]) (by kernel_rfl) (by simp) ?_
            refine AllReadyH.cons rfl (fun K hK => ?_) AllReadyH.nil
            go_simp
            clear o0 o1 o2 o3 o4 p0 p1 p2 p3 p4
            refine hK.out _ _ ⟨Blk.far hS4.1 (by simp; try omega) _, (World.cell?_of_block (Below.heap_setCell w4 ⟨w.heap.size + 2, 3, none⟩ _ _ (by simp only [add_block]; omega))).trans hS4.2⟩ (fun hH => ?_)
            clear hK K hS
            have hS := hH
            clear hH
            try simp only [Act.put, List.setIfInBounds_toArray, List.set_cons_zero, List.set_cons_succ, List.getElem_toArray, List.getElem_cons_zero, List.getElem_cons_succ]
            refine wpAnyH_done (by kernel_rfl) ?_ _
            simp only [onlyN]
            go_wp2_with fail
            go_roundw
            case rel => exact ⟨b + 1, A4, c4, by omega, by go_num, by rw [HK1.out, HT.out]; exact hown4.farC (by simp) _, Blk.far hS4.1 (by simp; try omega) _, Blk.far hZ4 (by simp; try omega) _, by rw [HK1.out]; have := Blk.set_ hO4 3 (.slice A4 (L.length + 1) c4); simpa using this, hb4.setCell (p := ⟨w.heap.size + 2, 3, none⟩) (by simp) _, by simp; omega⟩
            case measure => simp [intOf]; omega
        · obtain rfl : b = nn := by omega
          have HK1 := Lib.hid (show (a + 1) * b = a * b + b from Nat.succ_mul a b)
          go_wp2_with fail
          go_roundw
          case rel => exact ⟨a + 1, A3, c3, by omega, by go_num, by rw [HK1.out]; exact ho, DR, DZ, by rw [HK1.out]; exact DO, bw, hsz⟩
          case measure => simp [intOf]; omega
    · obtain rfl : a = rr := by omega
      obtain ⟨o0, o1, o2, o3, o4⟩ := Rbx.cells DO
      obtain ⟨z0, z1, z2, z3, z4⟩ := Rbx.cells DZ
      obtain ⟨y0, y1, y2, y3, y4⟩ := Rbx.free DZ
      go_wp2_with fail
      refine bodyPost_ret (v := Ru.V ⟨A', n', c', a, nn, A3, a * nn, c3, true⟩) (by simp [results, Try.results65, go_sem, z0, z1, z2, z3, z4, y0, y1, y2, y3, y4]) rfl ?_
      rw [List.take_of_length_le (by omega)] at ho
      refine ⟨_, rfl, ⟨?_, ?_, ?_, ?_, ?_, ?_, fun _ => ⟨rfl, rfl, rfl⟩, fun e => by simp at e⟩, by go_grown, fun a2 e2 => by have := (ho.gt e2).1; omega⟩
      · rfl
      · rfl
      · have := HH.out.b; exact this
      · rw [HFe.out]
        exact (((((ho.farC (p := ⟨w.heap.size + 1, 0, none⟩) (by simp) _).farC (p := ⟨w.heap.size + 1, 1, none⟩) (by simp) _).farC (p := ⟨w.heap.size + 1, 2, none⟩) (by simp) _).farC (p := ⟨w.heap.size + 1, 3, none⟩) (by simp) _).farC (p := ⟨w.heap.size + 1, 4, none⟩) (by simp) _).nums
      · rw [HFe.out, hFl]
      · intro a a2 ea e2
        have h1 := hAl a ea
        have h2 := (ho.gt e2).1
        omega
end
end Go.Proofs.Ytceoefgjjekgaaa
