/-
  Layer 10, walks: the closures of a step, by the program. (Written by wip/tools/gen_tdo.py.)
-/
import Derived.Test.YtaemkjcmjgefeaaTdN
namespace Go.Proofs.Ytaemkjcmjgefeaa
open Go.RowKit Go.Bw
set_option linter.unusedVariables false
set_option linter.unusedSimpArgs false
attribute [local go_sem] run_store_float

set_option maxRecDepth 100000 in
set_option maxHeartbeats 8000000 in
theorem list_p {w : World} (p q s : Nat) (f : Nat → Option Nat) (n : Nat) (hn : n ≤ 4000000) (HC : Hid (∀ W, Below w.heap.size w W → ∀ k, k < n → Calls Try.prog 45 #[.int .i64 k, .pointer (some ⟨p, 0, none⟩), .pointer (some ⟨q, 0, none⟩), .pointer (some ⟨s, 0, none⟩)] W (FB (f k) W))) :
    Calls Try.prog 27 #[.int .i64 n, .func (.func 45) #[] #[.pointer (some ⟨p, 0, none⟩), .pointer (some ⟨q, 0, none⟩), .pointer (some ⟨s, 0, none⟩)]] w (fun e w' => ∃ g L, e = .returned (.slice (some ⟨g, 0, none⟩) n n) ∧ RowF w' g L ∧ w.heap.size ≤ g ∧ Is L n f ∧ Below w.heap.size w w') := by
  have hmk := run_makeF n hn
  have HR := RowF.new w (List.replicate n 0)
  have bz := (Below.refl _ w).alloc (Nat.le_refl _) (.cells (LF (List.replicate n 0)).toArray 39)
  have HI : Hid (Is (List.replicate n (0 : Int)) n (fun j => if j < 0 then f j else some 0)) := Lib.hid ⟨by simp, wd_zeros n, fun k _ => by rw [D_zeros]; exact fa_zero⟩
  go_enter Try.func27, Try.ntmps27
  go_wp2_with fail
  clear hmk
  go_loopw [10, 6] (fun i i2 wr => ∃ (k : Nat) (L : List Int), k ≤ n ∧ i = .int .i64 k ∧ RowF wr w.heap.size L ∧ Hid (Is L n (fun j => if j < k then f j else some 0)) ∧ Below w.heap.size w wr) (fun i _ _ => n - (intOf i).toNat)
  case atStart => exact ⟨0, _, Nat.zero_le _, rfl, HR, HI, bz⟩
  case round =>
    clear HR HI bz
    obtain ⟨k, L, hk, rfl, HR, HI, bz⟩ := hrel
    by_cases hlt : k < n
    · have pc := HC.out wr bz k hlt
      have k0 : (0 : Int) ≤ k := by omega
      have k1 : (k : Int) < n := by omega
      go_wp2_with fail
      with_reducible refine pc.mono ?_
      rintro e w1 ⟨r1, rfl, h1, b1, hb⟩
      have H1 := Lib.hid h1
      clear h1 pc
      replace HR := HR.on hb
      replace bz := bz.trans (hb.mono bz.size)
      clear hb
      obtain ⟨c0, c1⟩ := HR.at_ (k := k) (by rw [HI.out.len]; exact hlt)
      have HR2 : RowF (w1.setCell ⟨w.heap.size, k, none⟩ (.float .f64 r1)) w.heap.size (L.set k r1) := HR.set_ k r1
      have bz2 := bz.setCell (p := ⟨w.heap.size, k, none⟩) (Nat.le_refl _) (.float .f64 r1)
      have HI2 : Hid (Is (L.set k (r1 : Int)) n (fun j => if j < k + 1 then f j else some 0)) := Lib.hid (by
        refine HI.out.set (by omega) (by omega) hlt ?_ (fun i _ hi => ?_)
        · rw [fa_nat, H1.out, if_pos (by omega)]
        · by_cases e1 : i < k
          · rw [if_pos (by omega), if_pos e1]
          · rw [if_neg (by omega), if_neg e1])
      clear HR HI bz
      go_wp2_with fail
      go_roundw
      case rel => exact ⟨k + 1, _, by omega, by go_num, HR2, HI2, bz2⟩
      case measure => simp [intOf]; omega
    · obtain rfl : k = n := by omega
      go_wp2_with fail
      go_ret
      exact ⟨_, L, rfl, HR, Nat.le_refl _, HI.out.congr (fun i hi => if_pos hi), bz⟩

set_option maxRecDepth 100000 in
set_option maxHeartbeats 8000000 in
theorem list_w {w : World} (p q s : Nat) (f : Nat → Option Nat) (n : Nat) (hn : n ≤ 4000000) (HC : Hid (∀ W, Below w.heap.size w W → ∀ k, k < n → Calls Try.prog 47 #[.int .i64 k, .pointer (some ⟨p, 0, none⟩), .pointer (some ⟨q, 0, none⟩), .pointer (some ⟨s, 0, none⟩)] W (FB (f k) W))) :
    Calls Try.prog 27 #[.int .i64 n, .func (.func 47) #[] #[.pointer (some ⟨p, 0, none⟩), .pointer (some ⟨q, 0, none⟩), .pointer (some ⟨s, 0, none⟩)]] w (fun e w' => ∃ g L, e = .returned (.slice (some ⟨g, 0, none⟩) n n) ∧ RowF w' g L ∧ w.heap.size ≤ g ∧ Is L n f ∧ Below w.heap.size w w') := by
  have hmk := run_makeF n hn
  have HR := RowF.new w (List.replicate n 0)
  have bz := (Below.refl _ w).alloc (Nat.le_refl _) (.cells (LF (List.replicate n 0)).toArray 39)
  have HI : Hid (Is (List.replicate n (0 : Int)) n (fun j => if j < 0 then f j else some 0)) := Lib.hid ⟨by simp, wd_zeros n, fun k _ => by rw [D_zeros]; exact fa_zero⟩
  go_enter Try.func27, Try.ntmps27
  go_wp2_with fail
  clear hmk
  go_loopw [10, 6] (fun i i2 wr => ∃ (k : Nat) (L : List Int), k ≤ n ∧ i = .int .i64 k ∧ RowF wr w.heap.size L ∧ Hid (Is L n (fun j => if j < k then f j else some 0)) ∧ Below w.heap.size w wr) (fun i _ _ => n - (intOf i).toNat)
  case atStart => exact ⟨0, _, Nat.zero_le _, rfl, HR, HI, bz⟩
  case round =>
    clear HR HI bz
    obtain ⟨k, L, hk, rfl, HR, HI, bz⟩ := hrel
    by_cases hlt : k < n
    · have pc := HC.out wr bz k hlt
      have k0 : (0 : Int) ≤ k := by omega
      have k1 : (k : Int) < n := by omega
      go_wp2_with fail
      with_reducible refine pc.mono ?_
      rintro e w1 ⟨r1, rfl, h1, b1, hb⟩
      have H1 := Lib.hid h1
      clear h1 pc
      replace HR := HR.on hb
      replace bz := bz.trans (hb.mono bz.size)
      clear hb
      obtain ⟨c0, c1⟩ := HR.at_ (k := k) (by rw [HI.out.len]; exact hlt)
      have HR2 : RowF (w1.setCell ⟨w.heap.size, k, none⟩ (.float .f64 r1)) w.heap.size (L.set k r1) := HR.set_ k r1
      have bz2 := bz.setCell (p := ⟨w.heap.size, k, none⟩) (Nat.le_refl _) (.float .f64 r1)
      have HI2 : Hid (Is (L.set k (r1 : Int)) n (fun j => if j < k + 1 then f j else some 0)) := Lib.hid (by
        refine HI.out.set (by omega) (by omega) hlt ?_ (fun i _ hi => ?_)
        · rw [fa_nat, H1.out, if_pos (by omega)]
        · by_cases e1 : i < k
          · rw [if_pos (by omega), if_pos e1]
          · rw [if_neg (by omega), if_neg e1])
      clear HR HI bz
      go_wp2_with fail
      go_roundw
      case rel => exact ⟨k + 1, _, by omega, by go_num, HR2, HI2, bz2⟩
      case measure => simp [intOf]; omega
    · obtain rfl : k = n := by omega
      go_wp2_with fail
      go_ret
      exact ⟨_, L, rfl, HR, Nat.le_refl _, HI.out.congr (fun i hi => if_pos hi), bz⟩

def RwP (w : World) (g o m c : Nat) (e : Ending) (w' : World) : Prop := e = .returned (.slice (some ⟨g, o, none⟩) m c) ∧ Dr w w'
set_option maxRecDepth 100000 in
set_option maxHeartbeats 8000000 in
theorem row_any {w : World} {pe pf pn ps g i f m n N : Nat} (hN : N = n * n) (hn : n ≤ 512) (hp : Blk w pe [.slice (some ⟨g, 0, none⟩) N N]) (hq : Blk w pf [.int .i64 f]) (hr : Blk w pn [.int .i64 n]) (hs : Blk w ps [.int .i64 m]) (hi : i < m) (hfm : f + m = n) :
    Calls Try.prog 44 #[.int .i64 i, .pointer (some ⟨pe, 0, none⟩), .pointer (some ⟨pf, 0, none⟩), .pointer (some ⟨pn, 0, none⟩), .pointer (some ⟨ps, 0, none⟩)] w (RwP w g ((f + i) * n + f) m (N - ((f + i) * n + f))) := by
  have n4 : N ≤ 262144 := by rw [hN]; exact Nat.le_trans (Nat.mul_le_mul hn hn) (by decide)
  obtain ⟨x, hx⟩ : ∃ x, f + i = x := ⟨_, rfl⟩
  rw [hx]
  have hend : x * n + f + m ≤ N := by
    have h9 := ix_lt (i := x) (j := n - 1) (m := n) (q := n) (by omega) (by omega)
    rw [hN]; omega
  obtain ⟨ya, hya⟩ : ∃ y, x * n = y := ⟨_, rfl⟩
  obtain ⟨za, hza⟩ : ∃ z, ya + f = z := ⟨_, rfl⟩
  have hNa : za < N := by rw [← hza, ← hya, hN]; exact ix_lt (by omega) (by omega)
  have HZa : x * n + f = za := by rw [← hza, ← hya]
  have eya : (x : Int) * (n : Int) = (ya : Int) := by exact_mod_cast hya
  have eza : (ya : Int) + (f : Int) = (za : Int) := by omega
  have wya : IntKind.i64.wrap (ya : Int) = (ya : Int) := IntWalk.i64_in _ (by omega)
  have wza : IntKind.i64.wrap (za : Int) = (za : Int) := IntWalk.i64_in _ (by omega)
  have z0a : (0 : Int) ≤ za := by omega
  have z1a : (za : Int) < N := by omega
  clear hya hza
  rw [HZa] at hend ⊢
  obtain ⟨E, hE⟩ : ∃ E, N - za = E := ⟨_, rfl⟩
  rw [hE]
  have e1 : (f : Int) + (i : Int) = (x : Int) := by omega
  have w1 : IntKind.i64.wrap (x : Int) = (x : Int) := IntWalk.i64_in _ (by omega)
  have p0 := Blk.cell hp.drew 0 rfl
  have q0 := Blk.cell hq.drew 0 rfl
  have r0 := Blk.cell hr.drew 0 rfl
  have s0 := Blk.cell hs.drew 0 rfl
  have m0 : (0 : Int) ≤ m := by omega
  have zl : za ≤ N := by omega
  have zl2 : (za : Int) ≤ N := by omega
  have mE : m ≤ E := by omega
  have mE2 : (m : Int) ≤ E := by omega
  have nz : ¬ (N = za) := by omega
  have eE : N - za = E := hE
  have e9 : (N : Int) - (za : Int) = (E : Int) := by omega
  have ez9 : ¬ ((E : Int) = 0) := by omega
  have ez8 : ¬ (E = 0) := by omega
  clear hp hq hr hs hN HZa hx hE
  go_enter Try.func44, Try.ntmps44
  go_wp2_with fail
  refine wp_region_held_drew (S := fun w9 : World => w9.cell? ⟨pe, 0, none⟩ = some (.slice (some ⟨g, 0, none⟩) N N) ∧ w9.cell? ⟨pf, 0, none⟩ = some (.int .i64 f) ∧ w9.cell? ⟨pn, 0, none⟩ = some (.int .i64 n) ∧ w9.cell? ⟨ps, 0, none⟩ = some (.int .i64 m)) (by kernel_rfl) ⟨p0, q0, r0, s0⟩ (fun hS => ?_)
  refine wpAnyH_take (i := 0) (v := ?v0_10) rfl (by kernel_rfl) (by kernel_rfl) (by kernel_rfl) (fun _ _ _ h => h) (Or.inl ⟨by rfl, ?hy0_10⟩) (by assumption) ?rest0_10
  case hy0_10 => (intro w9 hSw; obtain ⟨m0, m1, m2, m3⟩ := hSw; go_simp; try with_reducible rfl)
  try simp only [Act.put, List.setIfInBounds_toArray, List.set_cons_zero, List.set_cons_succ, List.getElem_toArray, List.getElem_cons_zero, List.getElem_cons_succ]
  refine wpAnyH_take (i := 1) (v := ?v1_11) rfl (by kernel_rfl) (by kernel_rfl) (by kernel_rfl) (fun _ _ _ h => h) (Or.inl ⟨by rfl, ?hy1_11⟩) (by assumption) ?rest1_11
  case hy1_11 => (intro w9 hSw; obtain ⟨m0, m1, m2, m3⟩ := hSw; go_simp; try with_reducible rfl)
  try simp only [Act.put, List.setIfInBounds_toArray, List.set_cons_zero, List.set_cons_succ, List.getElem_toArray, List.getElem_cons_zero, List.getElem_cons_succ]
  refine wpAnyH_take (i := 2) (v := ?v2_12) rfl (by kernel_rfl) (by kernel_rfl) (by kernel_rfl) (fun _ _ _ h => h) (Or.inl ⟨by rfl, ?hy2_12⟩) (by assumption) ?rest2_12
  case hy2_12 => (intro w9 hSw; clear hSw; go_simp; try with_reducible rfl)
  try simp only [Act.put, List.setIfInBounds_toArray, List.set_cons_zero, List.set_cons_succ, List.getElem_toArray, List.getElem_cons_zero, List.getElem_cons_succ]
  refine wpAnyH_take (i := 3) (v := ?v3_13) rfl (by kernel_rfl) (by kernel_rfl) (by kernel_rfl) (fun _ _ _ h => h) (Or.inl ⟨by rfl, ?hy3_13⟩) (by assumption) ?rest3_13
  case hy3_13 => (intro w9 hSw; clear hSw; go_simp; try with_reducible rfl)
  try simp only [Act.put, List.setIfInBounds_toArray, List.set_cons_zero, List.set_cons_succ, List.getElem_toArray, List.getElem_cons_zero, List.getElem_cons_succ]
  refine wpAnyH_take (i := 4) (v := ?v4_14) rfl (by kernel_rfl) (by kernel_rfl) (by kernel_rfl) (fun _ _ _ h => h) (Or.inl ⟨by rfl, ?hy4_14⟩) (by assumption) ?rest4_14
  case hy4_14 => (intro w9 hSw; obtain ⟨m0, m1, m2, m3⟩ := hSw; go_simp; try with_reducible rfl)
  try simp only [Act.put, List.setIfInBounds_toArray, List.set_cons_zero, List.set_cons_succ, List.getElem_toArray, List.getElem_cons_zero, List.getElem_cons_succ]
  refine wpAnyH_take (i := 5) (v := ?v5_15) rfl (by kernel_rfl) (by kernel_rfl) (by kernel_rfl) (fun _ _ _ h => h) (Or.inl ⟨by rfl, ?hy5_15⟩) (by assumption) ?rest5_15
  case hy5_15 => (intro w9 hSw; clear hSw; go_simp; try with_reducible rfl)
  try simp only [Act.put, List.setIfInBounds_toArray, List.set_cons_zero, List.set_cons_succ, List.getElem_toArray, List.getElem_cons_zero, List.getElem_cons_succ]
  refine wpAnyH_take (i := 6) (v := ?v6_16) rfl (by kernel_rfl) (by kernel_rfl) (by kernel_rfl) (fun _ _ _ h => h) (Or.inl ⟨by rfl, ?hy6_16⟩) (by assumption) ?rest6_16
  case hy6_16 => (intro w9 hSw; obtain ⟨m0, m1, m2, m3⟩ := hSw; go_simp; try with_reducible rfl)
  try simp only [Act.put, List.setIfInBounds_toArray, List.set_cons_zero, List.set_cons_succ, List.getElem_toArray, List.getElem_cons_zero, List.getElem_cons_succ]
  refine wpAnyH_take (i := 7) (v := ?v7_17) rfl (by kernel_rfl) (by kernel_rfl) (by kernel_rfl) (fun _ _ _ h => h) (Or.inl ⟨by rfl, ?hy7_17⟩) (by assumption) ?rest7_17
  case hy7_17 => (intro w9 hSw; clear hSw; go_simp; try with_reducible rfl)
  try simp only [Act.put, List.setIfInBounds_toArray, List.set_cons_zero, List.set_cons_succ, List.getElem_toArray, List.getElem_cons_zero, List.getElem_cons_succ]
  refine wpAnyH_take (i := 8) (v := ?v8_18) rfl (by kernel_rfl) (by kernel_rfl) (by kernel_rfl) (fun _ _ _ h => h) (Or.inl ⟨by rfl, ?hy8_18⟩) (by assumption) ?rest8_18
  case hy8_18 => (intro w9 hSw; clear hSw; go_simp; try with_reducible rfl)
  try simp only [Act.put, List.setIfInBounds_toArray, List.set_cons_zero, List.set_cons_succ, List.getElem_toArray, List.getElem_cons_zero, List.getElem_cons_succ]
  refine wpAnyH_take (i := 9) (v := ?v9_19) rfl (by kernel_rfl) (by kernel_rfl) (by kernel_rfl) (fun _ _ _ h => h) (Or.inl ⟨by rfl, ?hy9_19⟩) (by assumption) ?rest9_19
  case hy9_19 => (intro w9 hSw; obtain ⟨m0, m1, m2, m3⟩ := hSw; go_simp; try with_reducible rfl)
  try simp only [Act.put, List.setIfInBounds_toArray, List.set_cons_zero, List.set_cons_succ, List.getElem_toArray, List.getElem_cons_zero, List.getElem_cons_succ]
  refine wpAnyH_take (i := 10) (v := ?v10_20) rfl (by kernel_rfl) (by kernel_rfl) (by kernel_rfl) (fun _ _ _ h => h) (Or.inl ⟨by rfl, ?hy10_20⟩) (by assumption) ?rest10_20
  case hy10_20 => (intro w9 hSw; clear hSw; go_simp; try with_reducible rfl)
  try simp only [Act.put, List.setIfInBounds_toArray, List.set_cons_zero, List.set_cons_succ, List.getElem_toArray, List.getElem_cons_zero, List.getElem_cons_succ]
  refine wpAnyH_take (i := 11) (v := ?v11_21) rfl (by kernel_rfl) (by kernel_rfl) (by kernel_rfl) (fun _ _ _ h => h) (Or.inl ⟨by rfl, ?hy11_21⟩) (by assumption) ?rest11_21
  case hy11_21 => (intro w9 hSw; clear hSw; go_simp; try with_reducible rfl)
  try simp only [Act.put, List.setIfInBounds_toArray, List.set_cons_zero, List.set_cons_succ, List.getElem_toArray, List.getElem_cons_zero, List.getElem_cons_succ]
  refine wpAnyH_done (by kernel_rfl) ?_ _
  go_wp2_with fail
  go_ret
  exact ⟨rfl, ⟨1, rfl⟩⟩

theorem row_fl {w : World} {g o m N : Nat} {L : List Int} (HR : RowF w g L) (hw : Wd L) (hl : L.length = N) (ho : o + m ≤ N) (hN : N ≤ 262144) : FL w (some ⟨g, o, none⟩) m (N - o) ((L.drop o).take m) := by
  refine ⟨by rw [List.length_take, List.length_drop]; omega, HR.nums o m (by omega) (by omega) (by unfold maxLen; omega) HR.lt, fun x hx => hw x (List.mem_of_mem_drop (List.mem_of_mem_take hx))⟩
theorem row_at {L : List Int} {o m j : Nat} (hj : j < m) : D ((L.drop o).take m) j = D L (o + j) := by rw [D_take, if_pos hj, D_drop]

set_option maxRecDepth 100000 in
set_option maxHeartbeats 8000000 in
theorem turn2_any {w : World} {ph pc pv pe pf pn ps g i f m n N vc t : Nat} {VA : Option Addr} {L v : List Int} (HR : RowF w g L) (hw : Wd L) (hl : L.length = N) (h : FL w VA m vc v) (ht : t ≤ 18446744073709551615) (hN : N = n * n) (hn : n ≤ 512)
    (DH : Rbx w ph VA m vc t) (DC : Blk w pc [(.func (.func 44) #[] #[.pointer (some ⟨pe, 0, none⟩), .pointer (some ⟨pf, 0, none⟩), .pointer (some ⟨pn, 0, none⟩), .pointer (some ⟨ps, 0, none⟩)])]) (DV : Blk w pv [.slice VA m vc]) (hp : Blk w pe [.slice (some ⟨g, 0, none⟩) N N]) (hq : Blk w pf [.int .i64 f]) (hr : Blk w pn [.int .i64 n]) (hs : Blk w ps [.int .i64 m]) (hi : i < m) (hfm : f + m = n) :
    Calls Try.prog 45 #[.int .i64 i, .pointer (some ⟨ph, 0, none⟩), .pointer (some ⟨pc, 0, none⟩), .pointer (some ⟨pv, 0, none⟩)] w (FB (aop .mul (af t) (sumA (fun j => aop .mul (ma L n (f + i) (f + j)) (fa (D v j))) m)) w) := by
  have n4 : N ≤ 262144 := by rw [hN]; exact Nat.le_trans (Nat.mul_le_mul hn hn) (by decide)
  have hend : (f + i) * n + f + m ≤ N := by
    have h9 := ix_lt (i := f + i) (j := n - 1) (m := n) (q := n) (by omega) (by omega)
    rw [hN]; omega
  have hsum : Hid (sumA (fun j => aop .mul (fa (D ((L.drop ((f + i) * n + f)).take m) j)) (fa (D v j))) m = sumA (fun j => aop .mul (ma L n (f + i) (f + j)) (fa (D v j))) m) := Lib.hid (sumA_congr (fun j hj => by rw [row_at hj, Nat.add_assoc]; rfl))
  have HN := Lib.hid hN
  clear hN
  have bz := (Below.refl w.heap.size w).drew
  have mmx := h.max
  replace DH := DH.drew
  replace DC := DC.drew
  replace DV := DV.drew
  replace hp := hp.drew
  replace hq := hq.drew
  replace hr := hr.drew
  replace hs := hs.drew
  replace h := h.drew
  replace HR := HR.drew
  go_enter Try.func45, Try.ntmps45
  go_wp2_with fail
  refine wp_region_held_drew (S := fun w9 : World => Rbx w9 ph VA m vc t ∧ Blk w9 pc [(.func (.func 44) #[] #[.pointer (some ⟨pe, 0, none⟩), .pointer (some ⟨pf, 0, none⟩), .pointer (some ⟨pn, 0, none⟩), .pointer (some ⟨ps, 0, none⟩)])] ∧ Blk w9 pv [.slice VA m vc]) (by kernel_rfl) ⟨DH, DC, DV⟩ (fun hS => ?_)
  generalize w.drew = wd at hS DH DC DV hp hq hr hs h HR  bz ⊢
  refine wpAnyH_take (i := 0) (v := ?v0_22) rfl (by kernel_rfl) (by kernel_rfl) (by kernel_rfl) (fun _ _ _ h => h) (Or.inl ⟨by rfl, ?hy0_22⟩) (by assumption) ?rest0_22
  case hy0_22 => (intro w9 hSw; clear hSw; go_simp; try with_reducible rfl)
  try simp only [Act.put, List.setIfInBounds_toArray, List.set_cons_zero, List.set_cons_succ, List.getElem_toArray, List.getElem_cons_zero, List.getElem_cons_succ]
  refine wpAnyH_take (i := 1) (v := ?v1_23) rfl (by kernel_rfl) (by kernel_rfl) (by kernel_rfl) (fun _ _ _ h => h) (Or.inl ⟨by rfl, ?hy1_23⟩) (by assumption) ?rest1_23
  case hy1_23 => (intro w9 hSw; obtain ⟨m0, m1, m2⟩ := hSw; obtain ⟨y0, y1, _, _⟩ := Rbx.cells m0; have y2 := Blk.cell m1 0 rfl; have y3 := Blk.cell m2 0 rfl; go_simp; try with_reducible rfl)
  try simp only [Act.put, List.setIfInBounds_toArray, List.set_cons_zero, List.set_cons_succ, List.getElem_toArray, List.getElem_cons_zero, List.getElem_cons_succ]
  refine wpAnyH_take (i := 2) (v := ?v2_24) rfl (by kernel_rfl) (by kernel_rfl) (by kernel_rfl) (fun _ _ _ h => h) (Or.inl ⟨by rfl, ?hy2_24⟩) (by assumption) ?rest2_24
  case hy2_24 => (intro w9 hSw; obtain ⟨m0, m1, m2⟩ := hSw; obtain ⟨y0, y1, _, _⟩ := Rbx.cells m0; have y2 := Blk.cell m1 0 rfl; have y3 := Blk.cell m2 0 rfl; go_simp; try with_reducible rfl)
  try simp only [Act.put, List.setIfInBounds_toArray, List.set_cons_zero, List.set_cons_succ, List.getElem_toArray, List.getElem_cons_zero, List.getElem_cons_succ]
  refine wpAnyH_take (i := 3) (v := ?v3_25) rfl (by kernel_rfl) (by kernel_rfl) (by kernel_rfl) (fun _ _ _ h => h) (Or.inl ⟨by rfl, ?hy3_25⟩) (by assumption) ?rest3_25
  case hy3_25 => (intro w9 hSw; clear hSw; go_simp; try with_reducible rfl)
  try simp only [Act.put, List.setIfInBounds_toArray, List.set_cons_zero, List.set_cons_succ, List.getElem_toArray, List.getElem_cons_zero, List.getElem_cons_succ]
  refine wpAnyH_take (i := 5) (v := ?v5_26) rfl (by kernel_rfl) (by kernel_rfl) (by kernel_rfl) (fun _ _ _ h => h) (Or.inl ⟨by rfl, ?hy5_26⟩) (by assumption) ?rest5_26
  case hy5_26 => (intro w9 hSw; obtain ⟨m0, m1, m2⟩ := hSw; obtain ⟨y0, y1, _, _⟩ := Rbx.cells m0; have y2 := Blk.cell m1 0 rfl; have y3 := Blk.cell m2 0 rfl; go_simp; try with_reducible rfl)
  try simp only [Act.put, List.setIfInBounds_toArray, List.set_cons_zero, List.set_cons_succ, List.getElem_toArray, List.getElem_cons_zero, List.getElem_cons_succ]
  refine wpAnyH_ready (rs := [4]) (by kernel_rfl) (by simp) ?_
  refine AllReadyH.cons rfl (fun K hK => ?_) AllReadyH.nil
  go_simp
  with_reducible refine (row_any (g := g) HN.out hn hp hq hr hs hi hfm).mono ?_
  rintro e w1 ⟨rfl, dq⟩
  have hb := dq.below wd.heap.size
  replace DH := DH.on hb
  replace DC := DC.on hb
  replace DV := DV.on hb
  replace hp := hp.on hb
  replace hq := hq.on hb
  replace hr := hr.on hb
  replace hs := hs.on hb
  replace h := h.on hb
  replace HR := HR.on hb
  replace bz := bz.trans (hb.mono bz.size)
  clear hb dq
  clear hS; refine hK.out _ _ ⟨DH, DC, DV⟩ (fun hS => ?_); clear hK K
  try simp only [Act.put, List.setIfInBounds_toArray, List.set_cons_zero, List.set_cons_succ, List.getElem_toArray, List.getElem_cons_zero, List.getElem_cons_succ]
  refine wpAnyH_ready (rs := [6]) (by kernel_rfl) (by simp) ?_
  refine AllReadyH.cons rfl (fun K hK => ?_) AllReadyH.nil
  go_simp
  with_reducible refine (dot_any (row_fl HR hw hl hend n4) h (Nat.le_refl _)).mono ?_
  rintro e w2 ⟨r1, rfl, hq1, b1, hb⟩
  have H1 := Lib.hid (hq1.trans hsum.out)
  clear hq1
  replace DH := DH.on hb
  replace DC := DC.on hb
  replace DV := DV.on hb
  replace hp := hp.on hb
  replace hq := hq.on hb
  replace hr := hr.on hb
  replace hs := hs.on hb
  replace h := h.on hb
  replace HR := HR.on hb
  replace bz := bz.trans (hb.mono bz.size)
  clear hb
  clear hS; refine hK.out _ _ ⟨DH, DC, DV⟩ (fun hS => ?_); clear hK K
  try simp only [Act.put, List.setIfInBounds_toArray, List.set_cons_zero, List.set_cons_succ, List.getElem_toArray, List.getElem_cons_zero, List.getElem_cons_succ]
  refine wpAnyH_ready (rs := [7]) (by kernel_rfl) (by simp) ?_
  refine AllReadyH.cons rfl (fun K hK => ?_) AllReadyH.nil
  refine step_arith .mul (.inr (.inr (.inl rfl))) rfl _ _ _ _ t r1 rfl rfl rfl ht b1 ?_
  intro r2 w3 hb hq2 b2 dq
  have H2 := Lib.hid hq2
  clear hq2 dq
  replace DH := DH.on hb
  replace DC := DC.on hb
  replace DV := DV.on hb
  replace hp := hp.on hb
  replace hq := hq.on hb
  replace hr := hr.on hb
  replace hs := hs.on hb
  replace h := h.on hb
  replace HR := HR.on hb
  replace bz := bz.trans (hb.mono bz.size)
  clear hb
  clear hS; refine hK.out _ _ ⟨DH, DC, DV⟩ (fun hS => ?_); clear hK K
  try simp only [Act.put, List.setIfInBounds_toArray, List.set_cons_zero, List.set_cons_succ, List.getElem_toArray, List.getElem_cons_zero, List.getElem_cons_succ]
  refine wpAnyH_take (i := 8) (v := ?v8_27) rfl (by kernel_rfl) (by kernel_rfl) (by kernel_rfl) (fun _ _ _ h => h) (Or.inl ⟨by rfl, ?hy8_27⟩) (by assumption) ?rest8_27
  case hy8_27 => (intro w9 hSw; clear hSw; go_simp; try with_reducible rfl)
  try simp only [Act.put, List.setIfInBounds_toArray, List.set_cons_zero, List.set_cons_succ, List.getElem_toArray, List.getElem_cons_zero, List.getElem_cons_succ]
  refine wpAnyH_done (by kernel_rfl) ?_ _
  go_wp2_with fail
  go_ret
  exact ⟨r2, rfl, by rw [H2.out, H1.out], b2, bz⟩

set_option maxRecDepth 100000 in
set_option maxHeartbeats 8000000 in
theorem turn3_any {w : World} {pp pc pv gp i m vc c : Nat} {VA : Option Addr} {P v : List Int} (RP : RowF w gp P) (hw : Wd P) (hl : P.length = m) (h : FL w VA m vc v) (hc : c ≤ 18446744073709551615)
    (DP : Blk w pp [.slice (some ⟨gp, 0, none⟩) m m]) (DC : Blk w pc [.float .f64 c]) (DV : Blk w pv [.slice VA m vc]) (hi : i < m) :
    Calls Try.prog 47 #[.int .i64 i, .pointer (some ⟨pp, 0, none⟩), .pointer (some ⟨pc, 0, none⟩), .pointer (some ⟨pv, 0, none⟩)] w (FB (aop .add (fa (D P i)) (aop .mul (af c) (fa (D v i)))) w) := by
  have hmx := h.max
  obtain ⟨ad, rfl, _, hcV⟩ := h.at_ hi
  obtain ⟨x0, x1⟩ := h.2.2.at_ i
  obtain ⟨y0, y1⟩ := hw.at_ i
  obtain ⟨hcP, _⟩ := RP.at_ (k := i) (by rw [hl]; exact hi)
  unfold fa
  have bV : (D v i).toNat ≤ 18446744073709551615 := by omega
  have bP : (D P i).toNat ≤ 18446744073709551615 := by omega
  generalize (D v i).toNat = V at *
  generalize (D P i).toNat = Y at *
  have p0 := Blk.cell DP.drew 0 rfl
  have q0 := Blk.cell DC.drew 0 rfl
  have s0 := Blk.cell DV.drew 0 rfl
  replace hcV : w.drew.cell? (ad.add i) = some (.float .f64 V) := hcV
  replace hcP : w.drew.cell? ⟨gp, i, none⟩ = some (.float .f64 Y) := hcP
  have i0 : (0 : Int) ≤ i := by omega
  have i1 : (i : Int) < m := by omega
  have dr : Dr w w.drew := ⟨1, rfl⟩
  clear h hw RP DP DC DV x0 x1 y0 y1 hl
  go_enter Try.func47, Try.ntmps47
  go_wp2_with fail
  have bz : Below w.drew.heap.size w.drew w.drew := Below.refl _ _
  refine wp_region_held_drew (S := fun w9 : World => w9.cell? ⟨pp, 0, none⟩ = some (.slice (some ⟨gp, 0, none⟩) m m) ∧ w9.cell? ⟨pc, 0, none⟩ = some (.float .f64 c) ∧ w9.cell? ⟨pv, 0, none⟩ = some (.slice (some ad) m vc) ∧ w9.cell? ⟨gp, i, none⟩ = some (.float .f64 Y) ∧ w9.cell? (ad.add i) = some (.float .f64 V)) (by kernel_rfl) ⟨p0, q0, s0, hcP, hcV⟩ (fun hS => ?_)
  refine wpAnyH_take (i := 0) (v := ?v0_28) rfl (by kernel_rfl) (by kernel_rfl) (by kernel_rfl) (fun _ _ _ h => h) (Or.inl ⟨by rfl, ?hy0_28⟩) (by assumption) ?rest0_28
  case hy0_28 => (intro w9 hSw; obtain ⟨m0, m1, m2, m3, m4⟩ := hSw; go_simp; try with_reducible rfl)
  try simp only [Act.put, List.setIfInBounds_toArray, List.set_cons_zero, List.set_cons_succ, List.getElem_toArray, List.getElem_cons_zero, List.getElem_cons_succ]
  refine wpAnyH_take (i := 1) (v := ?v1_29) rfl (by kernel_rfl) (by kernel_rfl) (by kernel_rfl) (fun _ _ _ h => h) (Or.inl ⟨by rfl, ?hy1_29⟩) (by assumption) ?rest1_29
  case hy1_29 => (intro w9 hSw; clear hSw; go_simp; try with_reducible rfl)
  try simp only [Act.put, List.setIfInBounds_toArray, List.set_cons_zero, List.set_cons_succ, List.getElem_toArray, List.getElem_cons_zero, List.getElem_cons_succ]
  refine wpAnyH_take (i := 2) (v := ?v2_30) rfl (by kernel_rfl) (by kernel_rfl) (by kernel_rfl) (fun _ _ _ h => h) (Or.inl ⟨by rfl, ?hy2_30⟩) (by assumption) ?rest2_30
  case hy2_30 => (intro w9 hSw; clear hSw; go_simp; try with_reducible rfl)
  try simp only [Act.put, List.setIfInBounds_toArray, List.set_cons_zero, List.set_cons_succ, List.getElem_toArray, List.getElem_cons_zero, List.getElem_cons_succ]
  refine wpAnyH_take (i := 3) (v := ?v3_31) rfl (by kernel_rfl) (by kernel_rfl) (by kernel_rfl) (fun _ _ _ h => h) (Or.inl ⟨by rfl, ?hy3_31⟩) (by assumption) ?rest3_31
  case hy3_31 => (intro w9 hSw; obtain ⟨m0, m1, m2, m3, m4⟩ := hSw; go_simp; try with_reducible rfl)
  try simp only [Act.put, List.setIfInBounds_toArray, List.set_cons_zero, List.set_cons_succ, List.getElem_toArray, List.getElem_cons_zero, List.getElem_cons_succ]
  refine wpAnyH_take (i := 4) (v := ?v4_32) rfl (by kernel_rfl) (by kernel_rfl) (by kernel_rfl) (fun _ _ _ h => h) (Or.inl ⟨by rfl, ?hy4_32⟩) (by assumption) ?rest4_32
  case hy4_32 => (intro w9 hSw; obtain ⟨m0, m1, m2, m3, m4⟩ := hSw; go_simp; try with_reducible rfl)
  try simp only [Act.put, List.setIfInBounds_toArray, List.set_cons_zero, List.set_cons_succ, List.getElem_toArray, List.getElem_cons_zero, List.getElem_cons_succ]
  refine wpAnyH_take (i := 5) (v := ?v5_33) rfl (by kernel_rfl) (by kernel_rfl) (by kernel_rfl) (fun _ _ _ h => h) (Or.inl ⟨by rfl, ?hy5_33⟩) (by assumption) ?rest5_33
  case hy5_33 => (intro w9 hSw; obtain ⟨m0, m1, m2, m3, m4⟩ := hSw; go_simp; try with_reducible rfl)
  try simp only [Act.put, List.setIfInBounds_toArray, List.set_cons_zero, List.set_cons_succ, List.getElem_toArray, List.getElem_cons_zero, List.getElem_cons_succ]
  refine wpAnyH_take (i := 6) (v := ?v6_34) rfl (by kernel_rfl) (by kernel_rfl) (by kernel_rfl) (fun _ _ _ h => h) (Or.inl ⟨by rfl, ?hy6_34⟩) (by assumption) ?rest6_34
  case hy6_34 => (intro w9 hSw; clear hSw; go_simp; try with_reducible rfl)
  try simp only [Act.put, List.setIfInBounds_toArray, List.set_cons_zero, List.set_cons_succ, List.getElem_toArray, List.getElem_cons_zero, List.getElem_cons_succ]
  refine wpAnyH_take (i := 7) (v := ?v7_35) rfl (by kernel_rfl) (by kernel_rfl) (by kernel_rfl) (fun _ _ _ h => h) (Or.inl ⟨by rfl, ?hy7_35⟩) (by assumption) ?rest7_35
  case hy7_35 => (intro w9 hSw; clear hSw; go_simp; try with_reducible rfl)
  try simp only [Act.put, List.setIfInBounds_toArray, List.set_cons_zero, List.set_cons_succ, List.getElem_toArray, List.getElem_cons_zero, List.getElem_cons_succ]
  refine wpAnyH_take (i := 8) (v := ?v8_36) rfl (by kernel_rfl) (by kernel_rfl) (by kernel_rfl) (fun _ _ _ h => h) (Or.inl ⟨by rfl, ?hy8_36⟩) (by assumption) ?rest8_36
  case hy8_36 => (intro w9 hSw; obtain ⟨m0, m1, m2, m3, m4⟩ := hSw; go_simp; try with_reducible rfl)
  try simp only [Act.put, List.setIfInBounds_toArray, List.set_cons_zero, List.set_cons_succ, List.getElem_toArray, List.getElem_cons_zero, List.getElem_cons_succ]
  refine wpAnyH_ready (rs := [9]) (by kernel_rfl) (by simp) ?_
  refine AllReadyH.cons rfl (fun K hK => ?_) AllReadyH.nil
  refine step_arith .mul (.inr (.inr (.inl rfl))) rfl _ _ _ _ c V rfl rfl rfl hc bV ?_
  intro r1 w9_r1 hb9 hq9 b1 dq
  have H1 := Lib.hid hq9
  clear hq9 hb9
  replace dr := dr.trans dq
  have hSr1 := hS
  obtain ⟨t1, ht9⟩ := dq
  subst ht9
  clear hS; refine hK.out _ _ hSr1 (fun hS => ?_); clear hK K
  try simp only [Act.put, List.setIfInBounds_toArray, List.set_cons_zero, List.set_cons_succ, List.getElem_toArray, List.getElem_cons_zero, List.getElem_cons_succ]
  refine wpAnyH_ready (rs := [10]) (by kernel_rfl) (by simp) ?_
  refine AllReadyH.cons rfl (fun K hK => ?_) AllReadyH.nil
  refine step_arith .add (.inl rfl) rfl _ _ _ _ Y r1 rfl rfl rfl bP b1 ?_
  intro r2 w9_r2 hb9 hq9 b2 dq
  have H2 := Lib.hid hq9
  clear hq9 hb9
  replace dr := dr.trans dq
  have hSr2 := hS
  obtain ⟨t2, ht9⟩ := dq
  subst ht9
  clear hS; refine hK.out _ _ hSr2 (fun hS => ?_); clear hK K
  try simp only [Act.put, List.setIfInBounds_toArray, List.set_cons_zero, List.set_cons_succ, List.getElem_toArray, List.getElem_cons_zero, List.getElem_cons_succ]
  refine wpAnyH_take (i := 11) (v := ?v11_37) rfl (by kernel_rfl) (by kernel_rfl) (by kernel_rfl) (fun _ _ _ h => h) (Or.inl ⟨by rfl, ?hy11_37⟩) (by assumption) ?rest11_37
  case hy11_37 => (intro w9 hSw; clear hSw; go_simp; try with_reducible rfl)
  try simp only [Act.put, List.setIfInBounds_toArray, List.set_cons_zero, List.set_cons_succ, List.getElem_toArray, List.getElem_cons_zero, List.getElem_cons_succ]
  refine wpAnyH_done (by kernel_rfl) ?_ _
  go_wp2_with fail
  go_ret
  exact ⟨r2, rfl, by rw [H2.out, H1.out], b2, dr.below _⟩
end Go.Proofs.Ytaemkjcmjgefeaa
