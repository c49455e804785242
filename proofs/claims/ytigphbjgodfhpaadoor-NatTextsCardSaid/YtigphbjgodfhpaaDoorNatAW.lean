/-
  Layer 2, the laws, part eleven: the reference's division by ten, its texts; NatTexts.
-/
import Derived.Test.YtigphbjgodfhpaaDoorNatAV
import Derived.BigRegion
namespace Go.Proofs.YtigphbjgodfhpaaDoor
open Go.RowKit
set_option linter.unusedVariables false

/-! ### divided by ten -/
theorem val_down (b : Int) (l : List Int) (i : Nat) : val b (l.drop i) = D l i + b * val b (l.drop (i + 1)) := by
  rcases Nat.lt_or_ge i l.length with h | h
  · rw [List.drop_eq_getElem_cons h, val_cons, D_in h]
  · rw [List.drop_of_length_le h, List.drop_of_length_le (by omega), D_out h, val_nil]; omega
def TenInv (X C : List Int) (r : Int) (m : Nat) : Prop :=
  C.length = X.length ∧ Lim 4294967296 C ∧ 0 ≤ r ∧ r < 10 ∧ (∀ j, j < m → D C j = D X j) ∧ val 4294967296 (X.drop m) = 10 * val 4294967296 (C.drop m) + r
theorem TenInv.start {X : List Int} (h : Lim 4294967296 X) : TenInv X X 0 X.length :=
  ⟨rfl, h, by omega, by omega, fun _ _ => rfl, by rw [List.drop_of_length_le (Nat.le_refl _), val_nil]; omega⟩
theorem TenInv.step {X C : List Int} {r n : Int} {m : Nat} (h : TenInv X C r (m + 1)) (hm : m < X.length) (hn : r * 4294967296 + D C m = n) : TenInv X (C.set m (n / 10)) (n % 10) m := by
  obtain ⟨h1, h2, h3, h4, h5, h6⟩ := h
  have hd := D_lim (b := 4294967296) (by omega) h2 m
  refine ⟨by simp [h1], h2.set _ (by omega) (by omega), by omega, by omega, fun j hj => ?_, ?_⟩
  · rw [D_set _ _ (by omega), if_neg (by omega)]; exact h5 j (by omega)
  · rw [val_down, val_down 4294967296 (C.set m (n / 10)), D_set _ _ (by omega), if_pos rfl, h6, ← h5 m (by omega), List.drop_set, if_pos (by omega)]
    have e : n = 10 * (n / 10) + n % 10 := by omega
    generalize n / 10 = q at *
    generalize n % 10 = s at *
    grind
theorem TenInv.fin {X C : List Int} {r : Int} (h : TenInv X C r 0) : val 4294967296 C = val 4294967296 X / 10 ∧ r = val 4294967296 X % 10 := by
  obtain ⟨h1, h2, h3, h4, h5, h6⟩ := h
  rw [List.drop_zero, List.drop_zero] at h6
  omega

def TenPost (v : Int) (w : World) (e : Ending) (w' : World) : Prop :=
  ∃ l A c, e = .returned (.tuple #[.slice A l.length c, .int .u8 (v % 10)]) ∧ Normal l ∧ Hid (val 18446744073709551616 l = v / 10) ∧ Lim 18446744073709551616 l ∧ Own w' w.heap.size A c l ∧ Below w.heap.size w w'

set_option maxHeartbeats 4000000 in
theorem less10_any {A : Option Addr} {n c : Nat} {l : List Int} {w : World} (h : Lv w A n c l) (hn : n ≤ 10000) :
    Calls Tryd.prog 71 #[.slice A n c] w (TenPost (val 18446744073709551616 l) w) := by
  have p1 := cut_any A c l w h.2.1 h.2.2 (by rw [h.1]; omega)
  rw [h.1] at p1
  have x1 := cutL_lim h.2.2
  have x2 := cutL_length l
  have x3 := cutL_val l
  have x4 := h.1
  obtain ⟨X, hx⟩ : ∃ X, cutL l = X := ⟨_, rfl⟩
  unfold NewPost at p1
  rw [hx] at p1 x1 x2 x3
  rw [← x3]
  have hxl : X.length ≤ 20000 := by omega
  clear h x2 x3 x4 hx
  go_enter Tryd.func71, Tryd.ntmps71
  go_wp2_with fail
  with_reducible refine p1.mono ?_
  rintro e w1 ⟨A3, c3, rfl, o1, b1⟩
  clear p1
  go_wp2_with fail
  go_loopw [5, 6] (fun s i wr => ∃ (k : Nat) (C : List Int) (r : Int), k ≤ X.length ∧ i = .int .i64 ((k : Int) - 1) ∧ s = .int .u64 r ∧ Hid (TenInv X C r k) ∧ Own wr w.heap.size A3 c3 C ∧ Below w.heap.size w wr) (fun _ i _ => (intOf i + 1).toNat)
  case atStart => exact ⟨X.length, X, 0, by omega, by go_num, rfl, TenInv.start x1, o1, b1⟩
  case round =>
    obtain ⟨k, C, r, hk, rfl, rfl, hT, ho, hb⟩ := hrel
    have hCX : C.length = X.length := hT.out.1
    have hr0 := hT.out.2.2.1
    have hr1 := hT.out.2.2.2.1
    have hCl := hT.out.2.1
    rcases Nat.eq_zero_or_pos k with h0 | h0
    · subst h0
      have hfin := hT.out.fin
      have p3 := join_any A3 c3 C wr ho.nums hCl (by omega)
      rw [hfin.1, hCX] at p3
      have HF := Lib.hid hfin.2
      have hw : IntKind.u8.wrap r = r := IntWalk.u8_in _ (by omega)
      have hsz := hb.size
      clear hfin
      go_wp2_with fail
      with_reducible refine p3.mono ?_
      rintro e w5 ⟨s, A7, c7, rfl, s1, s2, s3, s4, s5⟩
      go_wp2_with fail
      go_ret2
      exact ⟨s, A7, c7, by rw [← HF.out]; rfl, s2, s3, s1, s4.less (by omega), hb.trans (s5.mono (by omega))⟩
    · obtain ⟨m, rfl⟩ : ∃ m, k = m + 1 := ⟨k - 1, by omega⟩
      obtain ⟨g, rfl, hg1, hg2⟩ := ho.form (by omega)
      have hm : m < C.length := by omega
      have c0 := ho.cellAt (k := m) hm
      have f0 := ho.frozenAt m
      have hd := D_lim (b := 4294967296) (by omega) hCl m
      have hstep := fun n hn => hT.out.step (n := n) (by omega) hn
      obtain ⟨x, hx⟩ : ∃ x, D C m = x := ⟨_, rfl⟩
      rw [hx] at c0 hd hstep
      have HS := Lib.hid (hstep _ rfl)
      obtain ⟨n, hn⟩ : ∃ n, r * 4294967296 + x = n := ⟨_, rfl⟩
      rw [hn] at HS
      have e0 : IntKind.u64.wrap (r * 4294967296) = r * 4294967296 := by rw [IntKind.wrap_u64]; omega
      have e1 : IntKind.u64.wrap (r * 4294967296 + x) = n := by rw [IntKind.wrap_u64]; omega
      have n0 : 0 ≤ n := by omega
      have e3 : n.tmod 10 = n % 10 := Int.tmod_eq_emod_of_nonneg n0
      have e4 : IntKind.u64.wrap (n.tdiv 10) = n / 10 := by rw [Int.tdiv_eq_ediv_of_nonneg n0, IntKind.wrap_u64]; omega
      obtain ⟨q, hq⟩ : ∃ q, n / 10 = q := ⟨_, rfl⟩
      obtain ⟨s, hs⟩ : ∃ s, n % 10 = s := ⟨_, rfl⟩
      rw [hq] at e4 HS
      rw [hs] at e3 HS
      have hki : ((m + 1 : Nat) : Int) - 1 = m := by omega
      rw [hki]
      have i0 : (0 : Int) ≤ m := by omega
      have i1 : (m : Int) < X.length := by omega
      clear hstep hn hq hs hx hT
      go_wp2_with fail
      go_roundw
      case rel => exact ⟨m, C.set m q, s, by omega, by go_num, rfl, HS, ho.set_ m q, hb.setCell (p := ⟨g, m, none⟩) hg1 _⟩
      case measure => simp [intOf]

/-! ### bytes of the call's own: digits, as they are written -/
def encT (d : Int) : Value := .int .u8 (48 + d)
def RowT (w : World) (base : Nat) (A : Option Addr) (c : Nat) (T : List Int) : Prop := w.ownsRow base 5 1 (.slice A T.length c) T.length (T.map encT)
theorem RowT.nil (w : World) (B : Nat) : RowT w B none 0 [] := World.ownsRow_nil w B _ 1
theorem RowT.form {w : World} {B c : Nat} {A : Option Addr} {T : List Int} (h : RowT w B A c T) (hn : 0 < T.length) : ∃ g, A = some ⟨g, 0, none⟩ ∧ B ≤ g ∧ g < w.heap.size := by
  obtain ⟨g, cap, hv, hg, hlt⟩ := World.ownsRow.form h hn
  injection hv with hA
  exact ⟨g, hA, hg, hlt⟩
theorem RowT.cellAt {w : World} {B c g : Nat} {T : List Int} (h : RowT w B (some ⟨g, 0, none⟩) c T) {k : Nat} (hk : k < T.length) : w.cell? ⟨g, k, none⟩ = some (.int .u8 (48 + D T k)) := by
  rw [World.ownsRow.cellAt h k (by simp; omega)]
  simp [encT, D, hk]
theorem RowT.frozenAt {w : World} {B c g : Nat} {T : List Int} (h : RowT w B (some ⟨g, 0, none⟩) c T) (k : Nat) : w.frozen? ⟨g, k, none⟩ = false := World.ownsRow.frozenAt h k
theorem RowT.set_ {w : World} {B c g : Nat} {T : List Int} (h : RowT w B (some ⟨g, 0, none⟩) c T) (k : Nat) (v u : Int) (hu : 48 + v = u) : RowT (w.setCell ⟨g, k, none⟩ (.int .u8 u)) B (some ⟨g, 0, none⟩) c (T.set k v) := by
  subst hu
  unfold RowT
  rw [List.length_set]
  have := (World.ownsRow.stored h k (.int .u8 (48 + v))).1
  simpa [List.map_set, encT] using this
theorem RowT.below {w w' : World} {B c : Nat} {A : Option Addr} {T : List Int} (h : RowT w B A c T) (hb : Below w.heap.size w w') : RowT w' B A c T := by
  rcases h with ⟨h1, h2⟩
  exact ⟨h1, h2.imp id fun ⟨g, cap, cur, hv, hg, hh, r⟩ => ⟨g, cap, cur, hv, hg, (hb.block g (lt_of_block hh)).trans hh, r⟩⟩

theorem cell_new1 (W : World) (u : Int) : (W.alloc (.cells #[.int .u8 u] 5)).cell? ⟨W.heap.size, 0, none⟩ = some (.int .u8 u) := by
  rw [cell_of_row _ W.heap.size 0 #[.int .u8 u] _ (0, 0) (heap_alloc_new W _)]
  rfl
theorem wpList_appT {w : World} {ops : Array Oper} {rest : List Oper} {o : Oper} {a : Act} {Q : Exit → Act → World → Prop} (hgd : o.guard = none) (s x : Operand)
    (ho : o.op = .call { callee := .builtin .append, args := #[s, x], argTypes := #[66, 66] })
    (base : Nat) (A : Option Addr) (c : Nat) (T : List Int) (hs : a.eval s = .slice A T.length c) (hown : RowT w base A c T) (ad : Addr) (d u : Int) (hx : a.eval x = .slice (some ad) 1 1) (hu : 48 + d = u) (hc : w.cell? ad = some (.int .u8 u))
    (hlen : T.length ≤ 4000000) (hbase : base ≤ w.heap.size)
    (h : ∀ A2 c2 w', RowT w' base A2 c2 (T ++ [d]) → w.grownBy w' (Value.slice A T.length c).ownBlock → wpList Tryd.prog ops Q rest (a.put o.dst (.slice A2 (T ++ [d]).length c2)) w') : wpList Tryd.prog ops Q (o :: rest) a w := by
  obtain ⟨i0, hi, hz0, hz1, hz2⟩ := info_parts info_byte
  refine wpList_append_own w hgd s x 66 ho base 5 i0 (.int .u8 0) 1 1 Tryd.underlying66 hi hz0 hz1 hz2 rfl (by decide) _ _ _ hs hown ad 1 1 [.int .u8 u] hx rfl ?_ ?_ (by unfold maxLen; omega) (by omega) hbase ?_
  · intro j v hj
    match j, hj with
    | 0, hj =>
      simp at hj
      subst hj
      have e : ad.add 0 = ad := by simp [Addr.add]
      rw [e]; exact hc
  · intro v hv
    simp at hv
    subst hv
    rfl
  · intro v' w' hown' hg _
    have hl : (T ++ [d]).length = T.length + 1 := by simp
    obtain ⟨g, cap, rfl⟩ : ∃ g cap, v' = .slice (some ⟨g, 0, none⟩) (T.length + 1) cap := by
      rcases hown'.2 with ⟨_, h0⟩ | ⟨g, cap, cur, hv, _⟩
      · omega
      · exact ⟨g, cap, hv⟩
    have := h (some ⟨g, 0, none⟩) cap w'
    unfold RowT at this
    rw [hl, List.map_append] at this
    refine this ?_ hg
    have e : [Value.int .u8 u] = [d].map encT := by simp [encT, hu]
    rw [← e]
    exact hown'

theorem Own.kept_ {w w' : World} {B c : Nat} {A : Option Addr} {l : List Int} {row : Option Nat} (h : Own w B A c l) (hg : w.grownBy w' row) (hr : ∀ g, row = some g → g < B) : Own w' B A c l := by
  rcases h with ⟨h1, h2⟩
  exact ⟨h1, h2.imp id fun ⟨g, cap, cur, hv, hge, hh, r⟩ => ⟨g, cap, cur, hv, hge, (hg.block g (lt_of_block hh) (fun e => by have := hr g e.symm; omega)).trans hh, r⟩⟩

theorem RowT.lt_ {w : World} {B c : Nat} {A : Option Addr} {T : List Int} (h : RowT w B A c T) : ∀ k, (Value.slice A T.length c).ownBlock = some k → B ≤ k ∧ k < w.heap.size := fun k hk => World.ownsRow.lt h k hk

/-! ### texts -/
def lenOf : Value → Nat | .slice _ n _ => n | _ => 0
/-- the bytes, turned round as far as k -/
def Rev (T U : List Int) (k : Nat) : Prop := U.length = T.length ∧ ∀ j, j < T.length → D U j = if j < k ∨ T.length ≤ j + k then D T (T.length - 1 - j) else D T j
theorem Rev.start (T : List Int) : Rev T T 0 := ⟨rfl, fun j hj => by rw [if_neg (by omega)]⟩
theorem Rev.step {T U : List Int} {k j : Nat} (h : Rev T U k) (hj : T.length - 1 - k = j) (hk : k < j) : Rev T ((U.set k (D U j)).set j (D U k)) (k + 1) := by
  obtain ⟨h1, h2⟩ := h
  refine ⟨by simp [h1], fun i hi => ?_⟩
  rw [D_set _ _ (by rw [List.length_set]; omega)]
  by_cases hij : i = j
  · rw [if_pos hij, if_pos (by omega), h2 k (by omega), if_neg (by omega)]
    congr 1; omega
  · rw [if_neg hij, D_set _ _ (by omega)]
    by_cases hik : i = k
    · rw [if_pos hik, if_pos (by omega), h2 j (by omega), if_neg (by omega)]
      congr 1; omega
    · rw [if_neg hik, h2 i hi]
      by_cases hc : i < k ∨ T.length ≤ i + k
      · rw [if_pos hc, if_pos (by omega)]
      · rw [if_neg hc, if_neg (by omega)]
theorem Rev.fin {T U : List Int} {k : Nat} (h : Rev T U k) (hk : k = T.length / 2) (j : Nat) (hj : j < T.length) : D U j = D T (T.length - 1 - j) := by
  rw [h.2 j hj]
  by_cases hc : j < k ∨ T.length ≤ j + k
  · rw [if_pos hc]
  · rw [if_neg hc]; congr 1; omega
theorem rev_text {V : Int} {T U : List Int} (hT : T = digs V.toNat) (hV : V.toNat ≠ 0) (h : Rev T U (T.length / 2)) : (txt V.toNat).length = T.length ∧ ∀ j (hj : j < (txt V.toNat).length), ((txt V.toNat)[j].toNat : Int) = 48 + D U j := by
  have hl : (txt V.toNat).length = T.length := by unfold txt; rw [if_neg hV, List.length_reverse, List.length_map, hT]
  refine ⟨hl, fun j hj => ?_⟩
  rw [hl] at hj
  have hlim := (digs_spec V.toNat).1
  rw [← hT] at hlim
  rw [h.fin rfl j hj]
  have hd := D_lim (b := 10) (by omega) hlim (T.length - 1 - j)
  have e : (txt V.toNat)[j] = chr (D T (T.length - 1 - j)) := by
    have e2 : txt V.toNat = (T.map chr).reverse := by unfold txt; rw [if_neg hV, hT]
    simp only [e2, List.getElem_reverse, List.getElem_map, List.length_map]
    rw [D_in (by omega)]
  rw [e, chr_toNat hd.1 hd.2]

def RTextPost (V : Int) (w : World) (e : Ending) (w' : World) : Prop := e = .returned (.string ⟨(txt V.toNat).toArray⟩) ∧ Below w.heap.size w w'

set_option maxHeartbeats 8000000 in
set_option maxRecDepth 100000 in
theorem refText_any {A : Option Addr} {n c : Nat} {l : List Int} {w : World} (h : Lv w A n c l) (hn : n ≤ 4096) :
    Calls Tryd.prog 46 #[.slice A n c] w (RTextPost (val 18446744073709551616 l) w) := by
  have k1 := refNorm_lv h hn
  have hlim := norm_lim h.2.2
  have hnn := norm_normal l
  have hln := norm_length l
  have hlen := h.1
  rw [← norm_val 18446744073709551616 l]
  obtain ⟨x, hx⟩ : ∃ x, norm l = x := ⟨_, rfl⟩
  rw [hx] at k1 hlim hnn hln ⊢
  clear hx h
  by_cases h0 : x = []
  · subst h0
    go_enter Tryd.func46, Tryd.ntmps46
    go_wp2_with fail
    with_reducible refine k1.mono ?_
    rintro e w1 ⟨A2, c2, rfl, m_x, hb⟩
    go_wp2_with fail
    go_ret
    exact ⟨rfl, hb⟩
  · have hp : 0 < x.length := List.length_pos_iff.2 h0
    have hxl : x.length ≤ 4096 := by omega
    have hpos := normal_pos hlim hnn h0
    have hdl := digs_len78 hlim hxl
    obtain ⟨V, hV⟩ : ∃ V, val 18446744073709551616 x = V := ⟨_, rfl⟩
    rw [hV] at hpos hdl ⊢
    have HV := Lib.hid hV
    have HN := Lib.hid hnn
    have hV0 : V.toNat ≠ 0 := by omega
    have HV0 := Lib.hid hV0
    obtain ⟨M, hM⟩ : ∃ M, (digs V.toNat).length = M := ⟨_, rfl⟩
    rw [hM] at hdl
    have HM := Lib.hid hM
    have hx0 : ((x.length : Int) == 0) = false := by simp; omega
    clear hV hnn hV0 hM h0 hlen hln hpos
    go_enter Tryd.func46, Tryd.ntmps46
    go_wp2_with fail
    with_reducible refine k1.mono ?_
    rintro e w1 ⟨A2, c2, rfl, m_x, hb⟩
    clear k1
    go_wp2_with fail
    go_loopw [0, 3] (fun a b wr => ∃ (s : List Int) (A3 : Option Addr) (c3 : Nat) (T : List Int) (A5 : Option Addr) (c5 : Nat), a = .slice A3 s.length c3 ∧ b = .slice A5 T.length c5 ∧ s.length ≤ 4096 ∧ Hid (Normal s ∧ T ++ digs (val 18446744073709551616 s).toNat = digs V.toNat) ∧ Lv wr A3 s.length c3 s ∧ RowT wr w.heap.size A5 c5 T ∧ Below w.heap.size w wr) (fun _ b _ => M - lenOf b)
    case atStart => exact ⟨x, A2, c2, [], none, 0, rfl, rfl, hxl, ⟨HN.out, by rw [HV.out, List.nil_append]⟩, m_x, RowT.nil _ _, hb⟩
    case round =>
      obtain ⟨s, A3, c3, T, A5, c5, rfl, rfl, hs, hd, ms, hT, hbw⟩ := hrel
      have hsz := hbw.size
      have hTM : T.length + (digs (val 18446744073709551616 s).toNat).length = M := by rw [← HM.out, ← hd.out.2, List.length_append]
      by_cases hz : 0 < s.length
      · have hsne : s ≠ [] := List.length_pos_iff.1 hz
        have hvp := normal_pos ms.2.2 hd.out.1 hsne
        have hdig := digs_pos (v := (val 18446744073709551616 s).toNat) (by omega)
        have p1 := less10_any ms (by omega)
        obtain ⟨v, hv⟩ : ∃ v, val 18446744073709551616 s = v := ⟨_, rfl⟩
        rw [hv] at p1 hvp hdig hTM
        have hT1 : T.length + 1 ≤ M := by
          rw [hdig, List.length_cons] at hTM; omega
        have hvs : v < 18446744073709551616 ^ s.length := by rw [← hv]; exact (val_bound (by omega) ms.2.2).2
        have hr : v % 10 = ((v.toNat % 10 : Nat) : Int) := by omega
        have hq : (v / 10).toNat = v.toNat / 10 := by omega
        have hr0 : 0 ≤ v % 10 := by omega
        have hr1 : v % 10 < 10 := by omega
        have hdT : T ++ digs v.toNat = digs V.toNat := by rw [← hv]; exact hd.out.2
        have hdT2 : (T ++ [v % 10]) ++ digs (v / 10).toNat = digs V.toNat := by rw [← hdT, hdig, hr, hq, List.append_assoc]; rfl
        have HD := Lib.hid hdT2
        have hvq : v / 10 < 18446744073709551616 ^ s.length := by have := Int.ediv_le_self 10 (show 0 ≤ v by omega); omega
        have HQ := Lib.hid hvq
        obtain ⟨r, hre⟩ : ∃ r, v % 10 = r := ⟨_, rfl⟩
        unfold TenPost at p1
        rw [hre] at p1 hr0 hr1 HD
        have hz2 : (0 : Int) < s.length := by omega
        have hT2 : T.length ≤ 81920 := by omega
        have hw : IntKind.u8.wrap (48 + r) = 48 + r := IntWalk.u8_in _ (by omega)
        obtain ⟨u, hu⟩ : ∃ u, 48 + r = u := ⟨_, rfl⟩
        rw [hu] at hw
        have hw2 : IntKind.u8.wrap (48 + r) = u := by rw [hu]; exact hw
        have HU := Lib.hid hu
        clear hd hv hdig hvs hr hq hdT hdT2 hvq hre hvp hsne hTM hu
        go_wp2_with (first
          | (go_at_call 71; ((with_reducible refine p1.mono ?_); rintro e w2 ⟨q, A6, c6, rfl, n_q, v_q, l_q, o_q, hb2⟩; have hT3 := hT.below hb2; have hbw2 := hbw.trans (hb2.mono hsz); have hsz2 := hbw2.size))
          | (at_builtin; refine wpList_appT rfl _ _ rfl w.heap.size A5 c5 T rfl (World.ownsRow.alloc hT3 _) ⟨w2.heap.size, 0, none⟩ r u rfl HU.out (cell_new1 w2 u) (by omega) (by simp; omega) ?_; intro A7 c7 w3 hT4 hg))
        have hTr := hT.lt_
        have hbl : Below w.heap.size w w3 := (hbw2.alloc hsz2 _).grown hg (by simp; omega) (fun k hk => (hTr k hk).1)
        have ho3 : Own w3 wr.heap.size A6 c6 q := (o_q.alloc_ _).kept_ hg (fun k hk => (hTr k hk).2)
        have hql : q.length ≤ s.length := len_val l_q n_q v_q.out HQ.out
        go_roundw
        case rel =>
          exact ⟨q, A6, c6, T ++ [r], A7, c7, rfl, by rw [List.length_append]; rfl, by omega, ⟨n_q, by rw [v_q.out]; exact HD.out⟩, ⟨rfl, ho3.nums, l_q⟩, hT4, hbl⟩
        case measure => simp [lenOf]; omega
      · have hs0 : s = [] := List.eq_nil_of_length_eq_zero (by omega)
        have hTV : T = digs V.toNat := by
          have := hd.out.2
          rw [hs0, val_nil] at this
          simpa [digs_zero] using this
        subst hs0
        have HTV := Lib.hid hTV
        have hTl : T.length = M := by rw [hTV]; exact HM.out
        have hTp : 0 < T.length := by
          rcases Nat.eq_zero_or_pos T.length with h9 | h9
          · have : digs V.toNat = [] := by rw [← hTV]; exact List.eq_nil_of_length_eq_zero h9
            exact absurd (digs_nil this) HV0.out
          · exact h9
        obtain ⟨g, rfl, hg1, hg2⟩ := hT.form hTp
        have hstart := Lib.hid (Rev.start T)
        obtain ⟨hf, hhf⟩ : ∃ hf, T.length / 2 = hf := ⟨_, rfl⟩
        have hhi : (T.length : Int) / 2 = hf := by omega
        have HH := Lib.hid hhf
        have hT2 : (T.length : Int) ≤ 81920 := by omega
        clear hTV hd hTM hz ms hTl hhf
        go_wp2_with fail
        go_loopw [6] (fun i wq => ∃ (k : Nat) (U : List Int), i = .int .i64 k ∧ k ≤ hf ∧ Hid (Rev T U k) ∧ RowT wq w.heap.size (some ⟨g, 0, none⟩) c5 U ∧ Below w.heap.size w wq) (fun i _ => hf - (intOf i).toNat)
        case atStart => exact ⟨0, T, rfl, by omega, hstart, hT, hbw⟩
        case round =>
          obtain ⟨k, U, rfl, hk, hR, hU, hbq⟩ := hrel
          have hUl : U.length = T.length := hR.out.1
          have i0 : (0 : Int) ≤ k := by omega
          by_cases hkh : k < hf
          · obtain ⟨j, hj⟩ : ∃ j, T.length - 1 - k = j := ⟨_, rfl⟩
            have hkj : k < j := by have := HH.out; omega
            have he : (T.length : Int) - 1 - k = j := by omega
            have hjT : j < T.length := by omega
            have hs := Lib.hid (hR.out.step hj hkj)
            have cx := hU.cellAt (k := k) (by omega)
            have cy := hU.cellAt (k := j) (by omega)
            have fx := hU.frozenAt k
            have fy := hU.frozenAt j
            obtain ⟨a, ha⟩ : ∃ a, 48 + D U k = a := ⟨_, rfl⟩
            obtain ⟨b, hb9⟩ : ∃ b, 48 + D U j = b := ⟨_, rfl⟩
            rw [ha] at cx
            rw [hb9] at cy
            have HA := Lib.hid ha
            have HB := Lib.hid hb9
            have i1 : (k : Int) < T.length := by omega
            have i2 : (0 : Int) ≤ j := by omega
            have i3 : (j : Int) < T.length := by omega
            have i4 : (k : Int) < hf := by omega
            have hne : ¬ (k = j) := by omega
            have hne2 : ¬ (j = k) := by omega
            clear ha hb9 hj hR
            go_wp2_with fail
            go_region
            all_goals
              go_wp2_with fail
              go_roundw
              case rel => exact ⟨k + 1, (U.set k (D U j)).set j (D U k), by go_num, by omega, hs, (hU.set_ k (D U j) b HB.out).set_ j (D U k) a HA.out, ((hbq.setCell (p := ⟨g, k, none⟩) hg1 _).setCell (p := ⟨g, j, none⟩) hg1 _).drew⟩
              case measure => simp [intOf]; omega
          · obtain rfl : k = hf := by omega
            have hR2 := hR.out
            rw [← HH.out] at hR2
            have ht := rev_text HTV.out HV0.out hR2
            have hcv := conv_len (w := wr) (g := g) (cap := c5) (n := T.length) ht.1 (fun j hj => by
              rw [add_at, Nat.zero_add, hU.cellAt (by rw [ht.1] at hj; omega), ht.2 j hj])
            have HC := Lib.hid hcv
            have HCV := hcv
            clear hR2 ht hcv hR
            go_wp2_with fail
            go_ret
            exact ⟨rfl, hbq⟩

/-! ### texts that are read -/
theorem head_not {s : ByteArray} (h : OkText s.data.toList) (h1 : 1 < s.size) : ((s[0].toNat : Int) == 48) = false := by
  have hd := h.2.2.1 (by simpa using h1)
  refine beq_eq_false_iff_ne.2 (fun e => hd ?_)
  have e2 : s[0] = 48 := by
    apply UInt8.toNat_inj.1
    have : (48 : UInt8).toNat = 48 := by decide
    omega
  rw [List.head?_eq_getElem?, List.getElem?_eq_getElem (by simp; omega), byte_at s 0 (by omega), e2]

set_option maxHeartbeats 4000000 in
theorem refRead_no (s : ByteArray) (hm : s.size ≤ 2000) (h : ¬ OkText s.data.toList) (w : World) :
    Calls Tryd.prog 45 #[.string s] w (Fails 2 w) := by
  have HN := Lib.hid h
  have hb := Below.refl w.heap.size w
  clear h
  by_cases h0 : s.size = 0
  · have hz : (s.size : Int) < 1 := by omega
    have H0 := Lib.hid h0
    clear h0
    go_enter Tryd.func45, Tryd.ntmps45
    go_wp2_with fail
    go_ret2
    exact ⟨rfl, hb⟩
  have hz : (1 : Int) ≤ s.size := by omega
  have hall : (h1 : s.size = 1 ∨ (1 < s.size ∧ ((s[0].toNat : Int) == 48) = false)) → (∀ j (hj : j < s.size), j < s.size → 48 ≤ s[j].toNat ∧ s[j].toNat ≤ 57) → False := fun h1 hA => by
    refine HN.out ⟨fun e => h0 (size_nil e), by simp; omega, fun hx => ?_, fun c hc => ?_⟩
    · rcases h1 with h1 | ⟨h1, h2⟩
      · simp at hx; omega
      · rw [List.head?_eq_getElem?, List.getElem?_eq_getElem (by simp; omega), byte_at s 0 (by omega)]
        intro e
        injection e with e
        rw [e] at h2
        exact absurd h2 (by decide)
    · obtain ⟨i, hi, rfl⟩ := List.getElem_of_mem hc
      have hi' : i < s.size := by simpa using hi
      rw [byte_at s i hi']
      exact hA i hi' hi'
  have HALL := Lib.hid hall
  clear hall
  have hcase : s.size = 1 ∨ 1 < s.size := by omega
  clear h0
  rcases hcase with h1 | h1
  · have h4 : (s.size : Int) ≤ 1 := by omega
    have h5 : 1 ≤ s.size := by omega
    have H1 := Lib.hid (Or.inl h1 : s.size = 1 ∨ (1 < s.size ∧ ((s[0].toNat : Int) == 48) = false))
    clear h1
    go_enter Tryd.func45, Tryd.ntmps45
    go_wp2_with fail
    go_loop [4] (fun i => ∃ k : Nat, k ≤ s.size ∧ i = .int .i64 k ∧ ∀ j (hj : j < s.size), j < k → 48 ≤ s[j].toNat ∧ s[j].toNat ≤ 57) (fun i => s.size - (intOf i).toNat)
    case atStart => exact ⟨0, by omega, rfl, fun j hj h => absurd h (by omega)⟩
    case round =>
      obtain ⟨k, hk, rfl, hA⟩ := hrel
      have HA := Lib.hid hA
      clear hA
      by_cases hlt : k < s.size
      · rcases (show s[k].toNat < 48 ∨ 57 < s[k].toNat ∨ (48 ≤ s[k].toNat ∧ s[k].toNat ≤ 57) from by omega) with hb9 | hb9 | hb9
        · go_wp2_with fail
          go_ret2
          exact ⟨rfl, hb⟩
        · go_wp2_with fail
          go_ret2
          exact ⟨rfl, hb⟩
        · go_wp2_with fail
          go_round
          case rel => exact ⟨k + 1, by omega, by go_num, fun j hj h => by
            rcases Nat.lt_or_ge j k with h5 | h5
            · exact HA.out j hj h5
            · obtain rfl : j = k := by omega
              exact hb9⟩
          case measure => simp [intOf]; omega
      · exact (HALL.out H1.out (fun j hj _ => HA.out j hj (by omega))).elim
  · have hl : 0 < s.size := by omega
    by_cases h3 : (s[0].toNat : Int) = 48
    · have hc : ((s[0].toNat : Int) == 48) = true := by simpa using h3
      have H3 := Lib.hid h3
      clear h3
      go_enter Tryd.func45, Tryd.ntmps45
      go_wp2_with fail
      go_ret2
      exact ⟨rfl, hb⟩
    · have hc : ((s[0].toNat : Int) == 48) = false := beq_eq_false_iff_ne.2 h3
      have H1 := Lib.hid (Or.inr ⟨h1, hc⟩ : s.size = 1 ∨ (1 < s.size ∧ ((s[0].toNat : Int) == 48) = false))
      clear h3
      go_enter Tryd.func45, Tryd.ntmps45
      go_wp2_with fail
      go_loop [4] (fun i => ∃ k : Nat, k ≤ s.size ∧ i = .int .i64 k ∧ ∀ j (hj : j < s.size), j < k → 48 ≤ s[j].toNat ∧ s[j].toNat ≤ 57) (fun i => s.size - (intOf i).toNat)
      case atStart => exact ⟨0, by omega, rfl, fun j hj h => absurd h (by omega)⟩
      case round =>
        obtain ⟨k, hk, rfl, hA⟩ := hrel
        have HA := Lib.hid hA
        clear hA
        by_cases hlt : k < s.size
        · rcases (show s[k].toNat < 48 ∨ 57 < s[k].toNat ∨ (48 ≤ s[k].toNat ∧ s[k].toNat ≤ 57) from by omega) with hb9 | hb9 | hb9
          · go_wp2_with fail
            go_ret2
            exact ⟨rfl, hb⟩
          · go_wp2_with fail
            go_ret2
            exact ⟨rfl, hb⟩
          · go_wp2_with fail
            go_round
            case rel => exact ⟨k + 1, by omega, by go_num, fun j hj h => by
              rcases Nat.lt_or_ge j k with h5 | h5
              · exact HA.out j hj h5
              · obtain rfl : j = k := by omega
                exact hb9⟩
            case measure => simp [intOf]; omega
        · exact (HALL.out H1.out (fun j hj _ => HA.out j hj (by omega))).elim
end Go.Proofs.YtigphbjgodfhpaaDoor
