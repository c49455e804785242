/-
  Layer 5: the law of matrices scaled. (Written by wip/tools/gen_gux.py.)
-/
import Derived.Test.YtfaemgdeoamijaaGuW
namespace Go.Proofs.Ytfaemgdeoamijaa
open Go.RowKit Go.Bw
set_option linter.unusedVariables false
set_option linter.unusedSimpArgs false

section
variable {A : Option Addr} {len c : Nat} {r s p : Int} {l : List Int} {w : World}
/-- a matrix of this list is handed back, and OK -/
def MatL (len : Nat) (r s : Int) (q : List Int) (w : World) (e : Ending) (w' : World) : Prop :=
  ∃ A c, e = .returned (.tuple #[mV r s A len c, .int .i64 0]) ∧ FL w' A len c q ∧ Below w.heap.size w w'
theorem scale_len (h : FL w A len c l) (hp : -2000 ≤ p) (hp2 : p ≤ 2000) (hw : wrC r s l = 0) :
    Calls Try.prog 27 #[mV r s A len c, .int .i64 p] w (MatL len r s (l.map fun x => tw x p) w) := by
  refine (scale_ok h hp hp2 hw).mono ?_
  rintro e w' ⟨A2, c2, rfl, hf, hb⟩
  have hl : (l.map fun x => tw x p).length = len := by rw [List.length_map, h.1]
  rw [hl] at hf ⊢
  exact ⟨A2, c2, rfl, hf, hb⟩
theorem take_all {P : Int → Bool} {k : Nat} (hk : k < l.length) : (l.take (k + 1)).all P = ((l.take k).all P && P (D l k)) := by
  rw [take_next hk, List.all_append]
  simp

set_option maxRecDepth 100000 in
set_option maxHeartbeats 16000000 in
theorem scales_bad {K C : Int} (h : FL w A len c l) (hlen : ¬ (400 : Int) < len) (hC : wrC r s l = C)
    (p1 : ∀ W, FL W A len c l → Calls Try.prog 27 #[mV r s A len c, .int .i64 p] W (MatC K 0 0 [] W))
    (hK : (C = 2 ∧ K = 2) ∨ (C ≠ 2 ∧ p < -2000 ∧ K = 2) ∨ (C ≠ 2 ∧ ¬ p < -2000 ∧ 2000 < p ∧ K = 2) ∨ (C ≠ 2 ∧ ¬ p < -2000 ∧ ¬ 2000 < p ∧ K = C ∧ C ≠ 0)) :
    Calls Try.prog 8 #[mV r s A len c, .int .i64 p] w (Law w) := by
  have hmx := h.max
  have DB := Blk.new w [.int .i64 r, .int .i64 s, .slice A len c] 26
  have h2 := h.alloc (.cells #[.int .i64 r, .int .i64 s, .slice A len c] 26)
  have bw : Below w.heap.size w (w.alloc (.cells #[.int .i64 r, .int .i64 s, .slice A len c] 26)) := by go_grown
  obtain ⟨DB_0, DB_1, DB_2, DB_f0, DB_f1, DB_f2⟩ := Mbx.cells DB
  have pw := fun W (hW : FL W A len c l) => rWrong_any (r := r) (s := s) hW
  rw [hC] at pw
  have PW := Lib.hid pw
  have q1 := p1 _ h2
  clear pw p1 hC
  rcases hK with ⟨rfl, rfl⟩ | ⟨hc, hp, rfl⟩ | ⟨hc, hp, hp2, rfl⟩ | ⟨hc, hp, hp2, rfl, h0⟩
  · go_enter Try.func8, Try.ntmps8
    go_wp2_with fail
    with_reducible refine q1.mono ?_
    rintro e w1 ⟨A2, c2, rfl, _, hb⟩
    have hs1 := hb.size
    simp only [World.size_alloc] at hs1
    replace bw : Below w.heap.size w (w1.alloc (.cells #[.int .i64 0, .int .i64 0, .slice A2 0 c2] 26)) := (bw.trans (hb.mono (by simp))).alloc (by omega) _
    replace h2 := (h2.on hb).alloc (.cells #[.int .i64 0, .int .i64 0, .slice A2 0 c2] 26)
    replace DB := (Blk.on DB hb).alloc (.cells #[.int .i64 0, .int .i64 0, .slice A2 0 c2] 26)
    have DC := Blk.new w1 [.int .i64 0, .int .i64 0, .slice A2 0 c2] 26
    have hsz := bw.size
    clear hb q1 DB_0 DB_1 DB_2 DB_f0 DB_f1 DB_f2
    obtain ⟨DB_0, DB_1, DB_2, DB_f0, DB_f1, DB_f2⟩ := Mbx.cells DB
    have p2 := PW.out _ h2
    go_wp2_with fail
    with_reducible refine p2.mono ?_
    rintro e w2 ⟨rfl, hb⟩
    replace bw := bw.trans (hb.mono (by simp; omega))
    replace DC := Blk.on DC hb
    have hsz2 := bw.size
    clear hb p2 DB_0 DB_1 DB_2 DB_f0 DB_f1 DB_f2
    obtain ⟨DC_0, DC_1, DC_2, DC_f0, DC_f1, DC_f2⟩ := Mbx.cells DC
    have p3 := none_any (A := A2) (c := c2) (w := w2)
    go_wp2_with fail
    with_reducible refine p3.mono ?_
    rintro e w3 ⟨rfl, hb⟩
    replace bw := bw.trans (hb.mono (by omega))
    have hsz3 := bw.size
    have k := kn w3
    go_wp2_with fail
    with_reducible refine k.mono ?_
    rintro e w4 ⟨rfl, hb⟩
    go_wp2_with fail
    go_ret
    exact ⟨rfl, bw.trans (hb.mono (by omega))⟩
  · have d1 : (C != 2) = true := by simpa using hc
    clear hc
    go_enter Try.func8, Try.ntmps8
    go_wp2_with fail
    with_reducible refine q1.mono ?_
    rintro e w1 ⟨A2, c2, rfl, _, hb⟩
    have hs1 := hb.size
    simp only [World.size_alloc] at hs1
    replace bw : Below w.heap.size w (w1.alloc (.cells #[.int .i64 0, .int .i64 0, .slice A2 0 c2] 26)) := (bw.trans (hb.mono (by simp))).alloc (by omega) _
    replace h2 := (h2.on hb).alloc (.cells #[.int .i64 0, .int .i64 0, .slice A2 0 c2] 26)
    replace DB := (Blk.on DB hb).alloc (.cells #[.int .i64 0, .int .i64 0, .slice A2 0 c2] 26)
    have DC := Blk.new w1 [.int .i64 0, .int .i64 0, .slice A2 0 c2] 26
    have hsz := bw.size
    clear hb q1 DB_0 DB_1 DB_2 DB_f0 DB_f1 DB_f2
    obtain ⟨DB_0, DB_1, DB_2, DB_f0, DB_f1, DB_f2⟩ := Mbx.cells DB
    have p2 := PW.out _ h2
    go_wp2_with fail
    with_reducible refine p2.mono ?_
    rintro e w2 ⟨rfl, hb⟩
    replace bw := bw.trans (hb.mono (by simp; omega))
    replace DC := Blk.on DC hb
    have hsz2 := bw.size
    clear hb p2 DB_0 DB_1 DB_2 DB_f0 DB_f1 DB_f2
    obtain ⟨DC_0, DC_1, DC_2, DC_f0, DC_f1, DC_f2⟩ := Mbx.cells DC
    have p3 := none_any (A := A2) (c := c2) (w := w2)
    go_wp2_with fail
    with_reducible refine p3.mono ?_
    rintro e w3 ⟨rfl, hb⟩
    replace bw := bw.trans (hb.mono (by omega))
    have hsz3 := bw.size
    have k := kn w3
    go_wp2_with fail
    with_reducible refine k.mono ?_
    rintro e w4 ⟨rfl, hb⟩
    go_wp2_with fail
    go_ret
    exact ⟨rfl, bw.trans (hb.mono (by omega))⟩
  · have d1 : (C != 2) = true := by simpa using hc
    clear hc
    go_enter Try.func8, Try.ntmps8
    go_wp2_with fail
    with_reducible refine q1.mono ?_
    rintro e w1 ⟨A2, c2, rfl, _, hb⟩
    have hs1 := hb.size
    simp only [World.size_alloc] at hs1
    replace bw : Below w.heap.size w (w1.alloc (.cells #[.int .i64 0, .int .i64 0, .slice A2 0 c2] 26)) := (bw.trans (hb.mono (by simp))).alloc (by omega) _
    replace h2 := (h2.on hb).alloc (.cells #[.int .i64 0, .int .i64 0, .slice A2 0 c2] 26)
    replace DB := (Blk.on DB hb).alloc (.cells #[.int .i64 0, .int .i64 0, .slice A2 0 c2] 26)
    have DC := Blk.new w1 [.int .i64 0, .int .i64 0, .slice A2 0 c2] 26
    have hsz := bw.size
    clear hb q1 DB_0 DB_1 DB_2 DB_f0 DB_f1 DB_f2
    obtain ⟨DB_0, DB_1, DB_2, DB_f0, DB_f1, DB_f2⟩ := Mbx.cells DB
    have p2 := PW.out _ h2
    go_wp2_with fail
    with_reducible refine p2.mono ?_
    rintro e w2 ⟨rfl, hb⟩
    replace bw := bw.trans (hb.mono (by simp; omega))
    replace DC := Blk.on DC hb
    have hsz2 := bw.size
    clear hb p2 DB_0 DB_1 DB_2 DB_f0 DB_f1 DB_f2
    obtain ⟨DC_0, DC_1, DC_2, DC_f0, DC_f1, DC_f2⟩ := Mbx.cells DC
    have p3 := none_any (A := A2) (c := c2) (w := w2)
    go_wp2_with fail
    with_reducible refine p3.mono ?_
    rintro e w3 ⟨rfl, hb⟩
    replace bw := bw.trans (hb.mono (by omega))
    have hsz3 := bw.size
    have k := kn w3
    go_wp2_with fail
    with_reducible refine k.mono ?_
    rintro e w4 ⟨rfl, hb⟩
    go_wp2_with fail
    go_ret
    exact ⟨rfl, bw.trans (hb.mono (by omega))⟩
  · have d1 : (K != 2) = true := by simpa using hc
    have d2 : (K != 0) = true := by simpa using h0
    have d3 : (K != K) = false := by simp
    clear hc h0
    go_enter Try.func8, Try.ntmps8
    go_wp2_with fail
    with_reducible refine q1.mono ?_
    rintro e w1 ⟨A2, c2, rfl, _, hb⟩
    have hs1 := hb.size
    simp only [World.size_alloc] at hs1
    replace bw : Below w.heap.size w (w1.alloc (.cells #[.int .i64 0, .int .i64 0, .slice A2 0 c2] 26)) := (bw.trans (hb.mono (by simp))).alloc (by omega) _
    replace h2 := (h2.on hb).alloc (.cells #[.int .i64 0, .int .i64 0, .slice A2 0 c2] 26)
    replace DB := (Blk.on DB hb).alloc (.cells #[.int .i64 0, .int .i64 0, .slice A2 0 c2] 26)
    have DC := Blk.new w1 [.int .i64 0, .int .i64 0, .slice A2 0 c2] 26
    have hsz := bw.size
    clear hb q1 DB_0 DB_1 DB_2 DB_f0 DB_f1 DB_f2
    obtain ⟨DB_0, DB_1, DB_2, DB_f0, DB_f1, DB_f2⟩ := Mbx.cells DB
    have p2 := PW.out _ h2
    go_wp2_with fail
    with_reducible refine p2.mono ?_
    rintro e w2 ⟨rfl, hb⟩
    replace bw := bw.trans (hb.mono (by simp; omega))
    replace DC := Blk.on DC hb
    have hsz2 := bw.size
    clear hb p2 DB_0 DB_1 DB_2 DB_f0 DB_f1 DB_f2
    obtain ⟨DC_0, DC_1, DC_2, DC_f0, DC_f1, DC_f2⟩ := Mbx.cells DC
    have p3 := none_any (A := A2) (c := c2) (w := w2)
    go_wp2_with fail
    with_reducible refine p3.mono ?_
    rintro e w3 ⟨rfl, hb⟩
    replace bw := bw.trans (hb.mono (by omega))
    have hsz3 := bw.size
    have k := kn w3
    go_wp2_with fail
    with_reducible refine k.mono ?_
    rintro e w4 ⟨rfl, hb⟩
    go_wp2_with fail
    go_ret
    exact ⟨rfl, bw.trans (hb.mono (by omega))⟩

set_option maxRecDepth 100000 in
set_option maxHeartbeats 32000000 in
theorem scales_main (h : FL w A len c l) (hlen : ¬ (400 : Int) < len) (hC : wrC r s l = 0) (hp : -2000 ≤ p) (hp2 : p ≤ 2000) :
    Calls Try.prog 8 #[mV r s A len c, .int .i64 p] w (Law w) := by
  have hmx := h.max
  have hwd := h.2.2
  have hln := Lib.hid h.1
  obtain ⟨hsz9, hl9, hfin⟩ := wrC_zero hC
  have DA := Blk.new w [.int .i64 r, .int .i64 s, .slice A len c] 26
  have h2 := h.alloc (.cells #[.int .i64 r, .int .i64 s, .slice A len c] 26)
  have bw : Below w.heap.size w (w.alloc (.cells #[.int .i64 r, .int .i64 s, .slice A len c] 26)) := by go_grown
  obtain ⟨DA_0, DA_1, DA_2, DA_f0, DA_f1, DA_f2⟩ := Mbx.cells DA
  have pw := fun W (hW : FL W A len c l) => rWrong_any (r := r) (s := s) hW
  have pp := fun W (hW : FL W A len c l) => power_yes (r := r) (s := s) hW hC hfin
  have ps := fun W (hW : FL W A len c l) (q : Int) (h0 : -2000 ≤ q) (h1 : q ≤ 2000) => scale_len (r := r) (s := s) hW h0 h1 hC
  rw [hC] at pw
  have PW := Lib.hid pw
  have PP := Lib.hid pp
  have PS := Lib.hid ps
  have q1 := ps _ h2 p hp hp2
  have dr : (r != r) = false := by simp
  have ds : (s != s) = false := by simp
  have dl : ((len : Int) != (len : Int)) = false := by simp
  have HSZ := Lib.hid hsz9
  have HL := Lib.hid hl9
  have HFIN := Lib.hid hfin
  clear pw pp ps hC hsz9 hl9 hfin
  go_enter Try.func8, Try.ntmps8
  go_wp2_with fail
  with_reducible refine q1.mono ?_
  rintro e w1 ⟨A2, c2, rfl, hb2, hb⟩
  have hs1 := hb.size
  simp only [World.size_alloc] at hs1
  replace bw : Below w.heap.size w (w1.alloc (.cells #[.int .i64 r, .int .i64 s, .slice A2 len c2] 26)) := (bw.trans (hb.mono (by simp))).alloc (by omega) _
  replace h2 := (h2.on hb).alloc (.cells #[.int .i64 r, .int .i64 s, .slice A2 len c2] 26)
  replace DA := (Blk.on DA hb).alloc (.cells #[.int .i64 r, .int .i64 s, .slice A2 len c2] 26)
  have DB := Blk.new w1 [.int .i64 r, .int .i64 s, .slice A2 len c2] 26
  replace hb2 := hb2.alloc (.cells #[.int .i64 r, .int .i64 s, .slice A2 len c2] 26)
  clear hb q1 DA_0 DA_1 DA_2 DA_f0 DA_f1 DA_f2
  obtain ⟨DA_0, DA_1, DA_2, DA_f0, DA_f1, DA_f2⟩ := Mbx.cells DA
  have p2 := PW.out _ h2
  go_wp2_with fail
  with_reducible refine p2.mono ?_
  rintro e w2 ⟨rfl, hb⟩
  replace bw := bw.trans (hb.mono (by simp; omega))
  replace h2 := h2.on hb
  replace DA := Blk.on DA hb
  replace DB := Blk.on DB hb
  replace hb2 := hb2.on hb
  have hsz2 := bw.size
  obtain ⟨g, hg⟩ : ∃ g, w1.heap.size = g := ⟨_, rfl⟩
  rw [hg] at DB hs1
  clear hb p2 DA_0 DA_1 DA_2 DA_f0 DA_f1 DA_f2 PW
  obtain ⟨DA_0, DA_1, DA_2, DA_f0, DA_f1, DA_f2⟩ := Mbx.cells DA
  obtain ⟨DB_0, DB_1, DB_2, DB_f0, DB_f1, DB_f2⟩ := Mbx.cells DB
  go_wp2_with fail
  go_loopw [8, 9] (fun b i wr => ∃ (k t : Nat), k ≤ len ∧ i = .int .i64 k ∧ b = .bool ((l.take k).all inr) ∧ wr = w2.drewN t) (fun _ i _ => len - (intOf i).toNat)
  case atStart => exact ⟨0, 0, Nat.zero_le _, rfl, rfl, rfl⟩
  case round =>
    obtain ⟨k, t, hk, rfl, rfl, rfl⟩ := hrel
    by_cases hlt : k < len
    · obtain ⟨ad, rfl, hbb, hc⟩ := h2.at_ hlt
      obtain ⟨ad2, rfl, hbb2, hc2⟩ := hb2.at_ hlt
      obtain ⟨x0, x1⟩ := hwd.at_ k
      have hkl : k < l.length := by rw [hln.out]; exact hlt
      have hn := Lib.hid (take_all (P := inr) hkl)
      rw [D_map hkl] at hc2
      obtain ⟨X, hX⟩ : ∃ X, D l k = X := ⟨_, rfl⟩
      rw [hX] at hc hc2 x0 x1 hn
      have i0 : (0 : Int) ≤ k := by omega
      have i1 : (k : Int) < len := by omega
      have pt := rTimes_any X p x0 x1 (by omega) (by omega)
      have pq := rSame_self (tw X p) (tw_bd X p x0 x1).1
      generalize tw X p = Y at *
      have pwd := word_any X x0
      have pir := rInRange_any X x0 x1
      obtain ⟨B, hB⟩ : ∃ B, (l.take k).all inr = B := ⟨_, rfl⟩
      rw [hB] at hn ⊢
      clear hX hB hkl
      cases B
      · rw [Bool.false_and] at hn
        go_wp2_with fail
        go_quiet ((first
          | (go_at_call 26; exact (pt _).mono (by rintro e w' ⟨he, hw⟩; exact ⟨he, _, hw.symm⟩))
          | (go_at_call 24; exact (pq _).mono (by rintro e w' ⟨he, hw⟩; exact ⟨he, _, hw.symm⟩))))
        go_wp2_with fail
        go_roundw
        case rel => exact ⟨k + 1, _, by omega, by go_num, by rw [hn.out], by first | rfl | simp⟩
        case measure => simp [intOf]; omega
      · rw [Bool.true_and] at hn
        go_wp2_with fail
        go_quiet ((first
          | (go_at_call 26; exact (pt _).mono (by rintro e w' ⟨he, hw⟩; exact ⟨he, _, hw.symm⟩))
          | (go_at_call 24; exact (pq _).mono (by rintro e w' ⟨he, hw⟩; exact ⟨he, _, hw.symm⟩))))
        go_wp2_with fail
        with_reducible refine (pwd _).mono ?_
        rintro e w' ⟨rfl, rfl⟩
        go_wp2_with fail
        with_reducible refine (pir _).mono ?_
        rintro e w' ⟨rfl, rfl⟩
        go_wp2_with fail
        go_roundw
        case rel => exact ⟨k + 1, _, by omega, by go_num, by rw [hn.out], by first | rfl | simp⟩
        case measure => simp [intOf]; omega
    · obtain rfl : k = len := by omega
      have ht : l.take k = l := by rw [← hln.out, List.take_length]
      rw [ht]
      clear ht hlt
      obtain ⟨w3, hw3⟩ : ∃ w3, w2.drewN t = w3 := ⟨_, rfl⟩
      replace bw : Below w.heap.size w (w2.drewN t) := below_drewN bw t
      replace h2 := h2.drewN t
      replace DA := DA.drewN t
      clear DA_0 DA_1 DA_2 DA_f0 DA_f1 DA_f2 DB_0 DB_1 DB_2 DB_f0 DB_f1 DB_f2 DB hb2
      have hsz2' : w.heap.size ≤ (w2.drewN t).heap.size := hsz2
      rw [hw3] at bw h2 DA hsz2' ⊢
      clear hw3 hsz2
      obtain ⟨DA_0, DA_1, DA_2, DA_f0, DA_f1, DA_f2⟩ := Mbx.cells DA
      cases hin : l.all inr
      · have kk := kn w3
        go_wp2_with fail
        with_reducible refine kk.mono ?_
        rintro e w4 ⟨rfl, hb⟩
        go_wp2_with fail
        go_ret
        exact ⟨rfl, bw.trans (hb.mono (by omega))⟩
      · have hpb := pwr_bd HFIN.out
        have hf2 := scaled_fin hwd hin
        have hsm := Lib.hid (fun x (hx : x ∈ l) => scaled_small hwd hin hx)
        have hbk := scaled_back hwd hin
        have hll2 : (l.map fun x => tw x (-pwr l)).length = l.length := List.length_map _
        have hw2 : wrC r s (l.map fun x => tw x (-pwr l)) = 0 := by
          unfold wrC
          rw [HSZ.out, if_pos rfl, hll2, if_pos HL.out, hf2]; rfl
        have pp := PP.out _ h2
        have ps := fun W (hW : FL W A k c l) => PS.out W hW (-pwr l) (by omega) (by omega)
        have ps2 := fun W (A3 : Option Addr) (c3 : Nat) (hW : FL W A3 k c3 (l.map fun x => tw x (-pwr l))) => scale_len (r := r) (s := s) (p := pwr l) hW (by omega) (by omega) hw2
        rw [hbk] at ps2
        have hD : ∀ i, i < k → D (l.map fun x => tw x (-pwr l)) i = tw (D l i) (-pwr l) := fun i hi => D_map (by rw [hln.out]; exact hi)
        have hDm := Lib.hid (fun i (hi : i < k) => (show mag (D (l.map fun x => tw x (-pwr l)) i) < 4607182418800017408 by
          rw [hD i hi]
          have hi2 : i < l.length := by rw [hln.out]; exact hi
          rw [D_in hi2]
          exact hsm.out _ (List.getElem_mem hi2)))
        generalize (l.map fun x => tw x (-pwr l)) = l2 at *
        generalize pwr l = Q at *
        obtain ⟨NQ, hNQ⟩ : ∃ NQ, -Q = NQ := ⟨_, rfl⟩
        rw [hNQ] at ps
        have hNb : -2000 ≤ NQ ∧ NQ ≤ 2000 := by omega
        have PS1 := Lib.hid ps
        have PS2 := Lib.hid ps2
        clear hD hsm hbk hll2 hw2 hf2 ps ps2 PS PP hin HFIN
        go_wp2_with fail
        with_reducible refine pp.mono ?_
        rintro e w4 ⟨rfl, hb⟩
        replace bw := bw.trans (hb.mono (by omega))
        replace h2 := h2.on hb
        replace DA := Blk.on DA hb
        have hsz4 := bw.size
        clear hb pp DA_0 DA_1 DA_2 DA_f0 DA_f1 DA_f2 hsz2'
        obtain ⟨DA_0, DA_1, DA_2, DA_f0, DA_f1, DA_f2⟩ := Mbx.cells DA
        have p5 := PS1.out _ h2
        go_wp2_with fail
        with_reducible refine p5.mono ?_
        rintro e w5 ⟨A4, c4, rfl, f4, hb⟩
        have hsz5 := hb.size
        replace bw : Below w.heap.size w (w5.alloc (.cells #[.int .i64 r, .int .i64 s, .slice A4 k c4] 26)) := (bw.trans (hb.mono (by omega))).alloc (by omega) _
        replace h2 := (h2.on hb).alloc (.cells #[.int .i64 r, .int .i64 s, .slice A4 k c4] 26)
        replace DA := (Blk.on DA hb).alloc (.cells #[.int .i64 r, .int .i64 s, .slice A4 k c4] 26)
        replace f4 := f4.alloc (.cells #[.int .i64 r, .int .i64 s, .slice A4 k c4] 26)
        have DC := Blk.new w5 [.int .i64 r, .int .i64 s, .slice A4 k c4] 26
        clear hb p5 DA_0 DA_1 DA_2 DA_f0 DA_f1 DA_f2
        obtain ⟨DC_0, DC_1, DC_2, DC_f0, DC_f1, DC_f2⟩ := Mbx.cells DC
        have p6 := PS2.out _ _ _ f4
        go_wp2_with fail
        with_reducible refine p6.mono ?_
        rintro e w6 ⟨A5, c5, rfl, f5, hb⟩
        have hsz6 := hb.size
        simp only [World.size_alloc] at hsz6
        replace bw : Below w.heap.size w (w6.alloc (.cells #[.int .i64 r, .int .i64 s, .slice A5 k c5] 26)) := (bw.trans (hb.mono (by simp; omega))).alloc (by omega) _
        replace h2 := (h2.on hb).alloc (.cells #[.int .i64 r, .int .i64 s, .slice A5 k c5] 26)
        replace DA := (Blk.on DA hb).alloc (.cells #[.int .i64 r, .int .i64 s, .slice A5 k c5] 26)
        replace f4 := (f4.on hb).alloc (.cells #[.int .i64 r, .int .i64 s, .slice A5 k c5] 26)
        replace DC := (Blk.on DC hb).alloc (.cells #[.int .i64 r, .int .i64 s, .slice A5 k c5] 26)
        replace f5 := f5.alloc (.cells #[.int .i64 r, .int .i64 s, .slice A5 k c5] 26)
        have DD := Blk.new w6 [.int .i64 r, .int .i64 s, .slice A5 k c5] 26
        clear hb p6 DC_0 DC_1 DC_2 DC_f0 DC_f1 DC_f2
        obtain ⟨DA_0, DA_1, DA_2, DA_f0, DA_f1, DA_f2⟩ := Mbx.cells DA
        obtain ⟨DC_0, DC_1, DC_2, DC_f0, DC_f1, DC_f2⟩ := Mbx.cells DC
        obtain ⟨DD_0, DD_1, DD_2, DD_f0, DD_f1, DD_f2⟩ := Mbx.cells DD
        go_wp2_with fail
        go_loop [15] (fun i => ∃ j : Nat, j ≤ k ∧ i = .int .i64 j) (fun i => k - (intOf i).toNat)
        case atStart => exact ⟨0, Nat.zero_le _, rfl⟩
        case round =>
          obtain ⟨j, hj, rfl⟩ := hrel
          by_cases hlt : j < k
          · obtain ⟨ad, rfl, hbb, hc⟩ := f4.at_ hlt
            obtain ⟨y0, y1⟩ := f4.2.2.at_ j
            have hm := hDm.out j hlt
            obtain ⟨Y, hY⟩ : ∃ Y, D l2 j = Y := ⟨_, rfl⟩
            rw [hY] at hc y0 y1 hm
            have j0 : (0 : Int) ≤ j := by omega
            have j1 : (j : Int) < k := by omega
            have yf : fin Y = true := by unfold fin; simp; omega
            have o1 := ord_w Y 4607182418800017408 y0 y1 (by omega) (by omega) yf (by decide)
            have o2 := ord_w Y 13830554455654793216 y0 y1 (by omega) (by omega) yf (by decide)
            have z1 : (4607182418800017408 : Int).toNat = 4607182418800017408 := rfl
            have z2 : (13830554455654793216 : Int).toNat = 13830554455654793216 := rfl
            have s1 : sm 4607182418800017408 = 4607182418800017408 := by decide
            have s2 : sm 13830554455654793216 = -4607182418800017408 := by decide
            have hsm : -4607182418800017408 < sm Y ∧ sm Y < 4607182418800017408 := by
              have := mag_bd Y
              unfold sm; split <;> omega
            rw [z1, s1] at o1
            rw [z2, s2] at o2
            obtain ⟨_, c1, c2'⟩ := o1
            obtain ⟨c3, _, c4'⟩ := o2
            rw [decide_eq_false (by omega)] at c1 c2' c3 c4'
            clear z1 z2 s1 s2 hsm yf hm hY
            go_wp2_with fail
            go_round
            case rel => exact ⟨j + 1, by omega, by go_num⟩
            case measure => simp [intOf]; omega
          · obtain rfl : j = k := by omega
            have p7 := sameAll_any f5 h2
            go_wp2_with fail
            obtain ⟨w7, hw7⟩ : ∃ w7, w6.alloc (.cells #[.int .i64 r, .int .i64 s, .slice A5 j c5] 26) = w7 := ⟨_, rfl⟩
            rw [hw7] at p7 bw ⊢
            with_reducible refine p7.mono ?_
            rintro e w8 ⟨rfl, t2, rfl⟩
            have kk := kn (w7.drewN t2)
            have bw7 := below_drewN bw t2
            have hsz7 := bw7.size
            go_wp2_with fail
            with_reducible refine kk.mono ?_
            rintro e w9 ⟨rfl, hb⟩
            go_wp2_with fail
            go_ret
            exact ⟨rfl, bw7.trans (hb.mono hsz7)⟩

set_option maxRecDepth 100000 in
set_option maxHeartbeats 4000000 in
theorem law_scales (h : FL w A len c l) (p0 : -9223372036854775808 ≤ p) (p1 : p ≤ 9223372036854775807) :
    Calls Try.prog 8 #[mV r s A len c, .int .i64 p] w (Law w) := by
  by_cases hlen : (400 : Int) < len
  · have hmx := h.max
    have DB := Blk.new w [.int .i64 r, .int .i64 s, .slice A len c] 26
    have bw : Below w.heap.size w (w.alloc (.cells #[.int .i64 r, .int .i64 s, .slice A len c] 26)) := by go_grown
    obtain ⟨DB_0, DB_1, DB_2, DB_f0, DB_f1, DB_f2⟩ := Mbx.cells DB
    have k := kn (w.alloc (.cells #[.int .i64 r, .int .i64 s, .slice A len c] 26))
    go_enter Try.func8, Try.ntmps8
    go_wp2_with fail
    with_reducible refine k.mono ?_
    rintro e w1 ⟨rfl, hb⟩
    go_wp2_with fail
    go_ret
    exact ⟨rfl, bw.trans (hb.mono (by simp))⟩
  · by_cases hp : p < -2000 ∨ 2000 < p
    · refine scales_bad (K := 2) h hlen rfl (fun W hW => scale_arg hp) ?_
      by_cases hc : wrC r s l = 2
      · exact .inl ⟨hc, rfl⟩
      · by_cases hq : p < -2000
        · exact .inr (.inl ⟨hc, hq, rfl⟩)
        · exact .inr (.inr (.inl ⟨hc, hq, by omega, rfl⟩))
    · by_cases h0 : wrC r s l = 0
      · exact scales_main h hlen h0 (by omega) (by omega)
      · refine scales_bad h hlen rfl (fun W hW => scale_no hW (by omega) (by omega) h0) ?_
        by_cases hc : wrC r s l = 2
        · exact .inl ⟨hc, hc⟩
        · exact .inr (.inr (.inr ⟨hc, by omega, by omega, rfl, h0⟩))
end
end Go.Proofs.Ytfaemgdeoamijaa
