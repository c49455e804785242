/-
  Layer 11: the law of the bidiagonal form. (Written by wip/tools/gen_bpr.py.)
-/
import Derived.Test.YtbaeabmmokgomaaNBpK
import Derived.Test.YtbaeabmmokgomaaNBpO
import Derived.Test.YtbaeabmmokgomaaNBdE
import Derived.Test.YtbaeabmmokgomaaNB2
namespace Go.Proofs.Ytbaeabmmokgomaa
open Go.RowKit Go.Bw
set_option linter.unusedVariables false
set_option linter.unusedSimpArgs false
attribute [local go_sem] run_store_float
theorem sameL_of9 {a b : List Int} (ha : Wd a) (hb : Wd b) (h : SameF a b) : sameL a b = true :=
  sameL_yes h.len (fun k _ => decide_eq_true (one_fa (ha.at_ k).1 (ha.at_ k).2 (hb.at_ k).1 (hb.at_ k).2 (h.at_ k)))
theorem rl_is9 {w : World} {A : Option Addr} {K c j : Nat} {hs : List Re} {e : Re} (h : Rl w A K c hs) (he : hs[j]? = some e) : Wd e.l ∧ e.t ≤ 18446744073709551615 := by
  obtain ⟨e2, ad, ea, he2, _, _, _, _, _, hv, bt⟩ := h.at_ (k := j) (by rw [← h.1]; exact (List.getElem?_eq_some_iff.1 he).1)
  obtain rfl : e = e2 := Option.some.inj (he.symm.trans he2)
  exact ⟨hv.2.2, bt⟩
theorem same_t9 {a b : Nat} (ha : a ≤ 18446744073709551615) (hb : b ≤ 18446744073709551615) (h : af a = af b) : sameL [(a : Int)] [(b : Int)] = true := by
  refine sameL_of9 (fun x hx => by rw [List.mem_singleton.1 hx]; omega) (fun x hx => by rw [List.mem_singleton.1 hx]; omega) (SameF.of rfl (fun i hi => ?_))
  obtain rfl : i = 0 := by simpa using hi
  show fa (a : Int) = fa (b : Int)
  rw [fa_nat, fa_nat, h]
set_option maxRecDepth 100000 in
set_option maxHeartbeats 16000000 in
theorem law_reduces {w : World} {A : Option Addr} {n c : Nat} {l : List Int} {R C : Int} (h : FL w A n c l) :
    Calls Try.prog 3 #[mV R C A n c] w (Ans w (.bool true)) := by
  have hmx := h.max
  have hl := Lib.hid h.1
  have bz := (Below.refl _ w).alloc (Nat.le_refl _) (.cells #[.int .i64 R, .int .i64 C, .slice A n c] 24)
  have DB := Blk.new w [.int .i64 R, .int .i64 C, .slice A n c] 24
  replace h := h.on bz
  have pk := fun W => known_any W
  have pb := fun W => wbig_any (r := R) (q := C) (A := A) (n := n) (c := c) (by omega) W
  go_enter Try.func3, Try.ntmps3
  go_upto_region 1 with fail
  generalize w.alloc (.cells #[.int .i64 R, .int .i64 C, .slice A n c] 24) = W1 at DB bz h ⊢
  obtain ⟨t0, t1, t2, t3, t4, t5⟩ := Mbx.cells DB
  by_cases hbig : 150 < n
  · as_aux_lemma =>
      rw [decide_eq_true hbig] at pb
      clear hbig
      go_wp2_with fail
      with_reducible refine (pb _).mono ?_
      rintro e9 w1 ⟨rfl, hb⟩
      replace bz := bz.trans (hb.mono bz.size)
      go_wp2_with fail
      with_reducible refine (pk _).mono ?_
      rintro e9 w2 ⟨rfl, hb⟩
      replace bz := bz.trans (hb.mono bz.size)
      go_wp2_with fail
      go_ret
      exact ⟨rfl, bz⟩
  · have hn15 : n ≤ 150 := by omega
    rw [decide_eq_false hbig] at pb
    clear hbig
    obtain ⟨E, hE⟩ : ∃ E, askC R C n l = E := ⟨_, rfl⟩
    have HE := Lib.hid hE
    clear hE
    by_cases hE0 : E = 0
    · as_aux_lemma =>
        subst hE0
        obtain ⟨q1, q2, q3⟩ := ask_zero HE.out
        have q4 := of_decide_eq_true q1
        obtain ⟨m, rfl⟩ := Int.eq_ofNat_of_zero_le q4.1
        obtain ⟨k, rfl⟩ := Int.eq_ofNat_of_zero_le q4.2.2.1
        have hN : n = m * k := by have := q4.2.2.2.2; exact_mod_cast this
        have hm : m ≤ 512 := by omega
        have hkm : k ≤ m := by omega
        have HN := Lib.hid hN
        have HF := Lib.hid q3
        clear q1 q2 q3 q4 hN
        go_wp2_with fail
        with_reducible refine (pb _).mono ?_
        rintro e9 w1 ⟨rfl, hb⟩
        clear t0 t1 t2 t3 t4 t5 pb
        replace h := h.on hb
        replace DB := DB.on hb
        replace bz := bz.trans (hb.mono bz.size)
        clear hb
        obtain ⟨t0, t1, t2, t3, t4, t5⟩ := Mbx.cells DB
        have hsrc := h.2.1
        go_upto_region 4 with (at_builtin; refine wpList_appF _ rfl _ _ rfl w1.heap.size none 0 [] rfl (OwnF.nil _ _) _ _ _ l (by rw [hl.out]; rfl) hsrc (by rw [hl.out]; simp; omega) (Nat.le_refl _) ?_; intro A3 c3 w3 hO3 hg3 ho3)
        have hb : Below w1.heap.size w1 w3 := (Below.refl _ w1).grown hg3 (Nat.le_refl _) (fun b q => by cases q)
        clear t0 t1 t2 t3 t4 t5 hsrc ho3 hg3
        simp only [List.nil_append] at hO3 ⊢
        rw [hl.out]
        replace h := h.on hb
        replace DB := DB.on hb
        replace bz := bz.trans (hb.mono bz.size)
        clear hb
        have h3 := hO3.fl h.2.2
        rw [hl.out] at h3
        have hab : Hid (∀ x, A3 = some x → x.block < w3.heap.size) := Lib.hid (fun x q => (hO3.gt q).2)
        clear hO3
        obtain ⟨t0, t1, t2, t3, t4, t5⟩ := Mbx.cells DB
        have pr := Lib.hid (gReduce_yes h3 HN.out hm hkm HF.out hab.out)
        go_wp2_with fail
        clear t0 t1 t2 t3 t4 t5
        with_reducible refine pr.out.mono ?_
        rintro e9 w4 ⟨Ls, Ms, Ad, cd, d, Ae, ce, e, Ah, ch, hs, Ag, cg, gs, rfl, Fd, Fe, Rh, Rg, K1, hL1, hb⟩
        clear pr
        replace h := h.on hb
        replace h3 := h3.on hb
        replace DB := DB.on hb
        replace bz := bz.trans (hb.mono bz.size)
        clear hb
        have DX := Blk.new w4 [.slice Ad d.length cd, .slice Ae e.length ce] 28
        obtain ⟨bDX, eDX⟩ : ∃ x, w4.heap.size = x := ⟨_, rfl⟩
        rw [eDX] at DX
        have hbA := (Below.refl _ w4).alloc (Nat.le_refl _) (.cells #[.slice Ad d.length cd, .slice Ae e.length ce] 28)
        replace h := h.on hbA
        replace h3 := h3.on hbA
        replace DB := DB.on hbA
        replace Fd := Fd.on hbA
        replace Fe := Fe.on hbA
        replace Rh := Rh.on hbA
        replace Rg := Rg.on hbA
        replace bz := bz.trans (hbA.mono bz.size)
        clear hbA
        go_upto_region 5 with fail
        try simp only [eDX] at ⊢
        clear eDX
        generalize w4.alloc (.cells #[.slice Ad d.length cd, .slice Ae e.length ce] 28) = VDX at h h3 DB Fd Fe Rh Rg DX bz ⊢
        have HK1 := Lib.hid K1
        have HL1 := Lib.hid hL1
        clear K1 hL1
        obtain ⟨t0, t1, t2, t3, t4, t5⟩ := Mbx.cells DB
        have ps := wsame_any h3 h
        rw [show sameL l l = true from decide_eq_true rfl] at ps
        go_wp2_with fail
        clear t0 t1 t2 t3 t4 t5
        with_reducible refine ps.mono ?_
        rintro e9 w5 ⟨rfl, hb⟩
        clear ps
        replace h := h.on hb
        replace h3 := h3.on hb
        replace DB := DB.on hb
        replace Fd := Fd.on hb
        replace Fe := Fe.on hb
        replace Rh := Rh.on hb
        replace Rg := Rg.on hb
        replace DX := DX.on hb
        replace bz := bz.trans (hb.mono bz.size)
        clear hb
        obtain ⟨t0, t1, t2, t3, t4, t5⟩ := Mbx.cells DB
        have pa := rAsk11_any (R := (m : Int)) (C := (k : Int)) h
        rw [HE.out] at pa
        go_wp2_with fail
        clear t0 t1 t2 t3 t4 t5
        with_reducible refine pa.mono ?_
        rintro e9 w6 ⟨rfl, hb⟩
        clear pa
        replace h := h.on hb
        replace h3 := h3.on hb
        replace DB := DB.on hb
        replace Fd := Fd.on hb
        replace Fe := Fe.on hb
        replace Rh := Rh.on hb
        replace Rg := Rg.on hb
        replace DX := DX.on hb
        replace bz := bz.trans (hb.mono bz.size)
        clear hb
        obtain ⟨t0, t1, t2, t3, t4, t5⟩ := Mbx.cells DB
        have pr := Lib.hid (rReduce11_any h HN.out hm hkm)
        go_wp2_with fail
        clear t0 t1 t2 t3 t4 t5
        with_reducible refine pr.out.mono ?_
        rintro e9 w7 ⟨Ks, Ns, Bd, cd2, d2, Be, ce2, e2, Bh, ch2, hs2, Bg, cg2, gs2, rfl, Gd, Ge, Sh, Sg, K2, hL2, hb⟩
        clear pr
        replace h := h.on hb
        replace h3 := h3.on hb
        replace DB := DB.on hb
        replace Fd := Fd.on hb
        replace Fe := Fe.on hb
        replace Rh := Rh.on hb
        replace Rg := Rg.on hb
        replace DX := DX.on hb
        replace bz := bz.trans (hb.mono bz.size)
        clear hb
        have DY := Blk.new w7 [.slice Bd d2.length cd2, .slice Be e2.length ce2] 28
        obtain ⟨bDY, eDY⟩ : ∃ x, w7.heap.size = x := ⟨_, rfl⟩
        rw [eDY] at DY
        have hbA := (Below.refl _ w7).alloc (Nat.le_refl _) (.cells #[.slice Bd d2.length cd2, .slice Be e2.length ce2] 28)
        replace h := h.on hbA
        replace h3 := h3.on hbA
        replace DB := DB.on hbA
        replace Fd := Fd.on hbA
        replace Fe := Fe.on hbA
        replace Rh := Rh.on hbA
        replace Rg := Rg.on hbA
        replace DX := DX.on hbA
        replace Gd := Gd.on hbA
        replace Ge := Ge.on hbA
        replace Sh := Sh.on hbA
        replace Sg := Sg.on hbA
        replace bz := bz.trans (hbA.mono bz.size)
        clear hbA
        go_upto_region 11 with fail
        try simp only [eDY] at ⊢
        clear eDY
        generalize w7.alloc (.cells #[.slice Bd d2.length cd2, .slice Be e2.length ce2] 28) = VDY at h h3 DB Fd Fe Rh Rg DX Gd Ge Sh Sg DY bz ⊢
        obtain ⟨s1, s2, s3, s4, s5, s6⟩ := HK1.out.same K2 (by rw [HL1.out, hL2]; exact SameF.of rfl (fun _ _ => rfl)) (Nat.le_refl k)
        have HS1 : Hid ((sameL d d2 && sameL e e2) = true) := Lib.hid (by rw [sameL_of9 Fd.2.2 Gd.2.2 s1, sameL_of9 Fe.2.2 Ge.2.2 s2]; rfl)
        rw [← s3] at Sh
        rw [← s4] at Sg
        have HP1 := Lib.hid (show ∀ (j : Nat) (e f : Re), hs[j]? = some e → hs2[j]? = some f → sameL e.l f.l = true ∧ sameL [(e.t : Int)] [(f.t : Int)] = true from fun j e f he hf => by
          obtain ⟨z1, z2⟩ := s5 j e f he hf
          obtain ⟨y1, y2⟩ := rl_is9 Rh he
          obtain ⟨x1, x2⟩ := rl_is9 Sh hf
          exact ⟨sameL_of9 y1 x1 z1, same_t9 y2 x2 z2⟩)
        have HP2 := Lib.hid (show ∀ (j : Nat) (e f : Re), gs[j]? = some e → gs2[j]? = some f → sameL e.l f.l = true ∧ sameL [(e.t : Int)] [(f.t : Int)] = true from fun j e f he hf => by
          obtain ⟨z1, z2⟩ := s6 j e f he hf
          obtain ⟨y1, y2⟩ := rl_is9 Rg he
          obtain ⟨x1, x2⟩ := rl_is9 Sg hf
          exact ⟨sameL_of9 y1 x1 z1, same_t9 y2 x2 z2⟩)
        have HL3 := Lib.hid s3
        have HL4 := Lib.hid s4
        clear s1 s2 s3 s4 s5 s6 K2 hL2
        rw [← HL3.out, ← HL4.out]
        obtain ⟨p0, p1, _, _⟩ := Tbx.cells DX
        obtain ⟨p2, p3, _, _⟩ := Tbx.cells DY
        have pbi := wsameBi_any Fd Fe Gd Ge
        rw [HS1.out] at pbi
        go_wp2_with fail
        clear p0 p1 p2 p3
        with_reducible refine pbi.mono ?_
        rintro e9 w8 ⟨rfl, hb⟩
        clear pbi
        replace Rh := Rh.on hb
        replace Rg := Rg.on hb
        replace Sh := Sh.on hb
        replace Sg := Sg.on hb
        replace bz := bz.trans (hb.mono bz.size)
        clear hb
        go_wp2_with fail
        with_reducible refine (wsameAll_true Rh Sh HP1.out).mono ?_
        rintro e9 w9 ⟨rfl, hb⟩
        replace Rg := Rg.on hb
        replace Sg := Sg.on hb
        replace bz := bz.trans (hb.mono bz.size)
        clear hb
        go_wp2_with fail
        with_reducible refine (wsameAll_true Rg Sg HP2.out).mono ?_
        rintro e9 wa ⟨rfl, hb⟩
        replace bz := bz.trans (hb.mono bz.size)
        clear hb
        go_wp2_with fail
        with_reducible refine (wnum_any 0 _).mono ?_
        rintro e9 wb ⟨rfl, hb⟩
        replace bz := bz.trans (hb.mono bz.size)
        clear hb
        go_wp2_with fail
        with_reducible refine (pk _).mono ?_
        rintro e9 wc ⟨rfl, hb⟩
        replace bz := bz.trans (hb.mono bz.size)
        go_wp2_with fail
        go_ret
        exact ⟨rfl, bz⟩
    · as_aux_lemma =>
        go_wp2_with fail
        with_reducible refine (pb _).mono ?_
        rintro e9 w1 ⟨rfl, hb⟩
        clear t0 t1 t2 t3 t4 t5 pb
        replace h := h.on hb
        replace DB := DB.on hb
        replace bz := bz.trans (hb.mono bz.size)
        clear hb
        obtain ⟨t0, t1, t2, t3, t4, t5⟩ := Mbx.cells DB
        have hsrc := h.2.1
        go_upto_region 4 with (at_builtin; refine wpList_appF _ rfl _ _ rfl w1.heap.size none 0 [] rfl (OwnF.nil _ _) _ _ _ l (by rw [hl.out]; rfl) hsrc (by rw [hl.out]; simp; omega) (Nat.le_refl _) ?_; intro A3 c3 w3 hO3 hg3 ho3)
        have hb : Below w1.heap.size w1 w3 := (Below.refl _ w1).grown hg3 (Nat.le_refl _) (fun b q => by cases q)
        clear t0 t1 t2 t3 t4 t5 hsrc ho3 hg3
        simp only [List.nil_append] at hO3 ⊢
        rw [hl.out]
        replace h := h.on hb
        replace DB := DB.on hb
        replace bz := bz.trans (hb.mono bz.size)
        clear hb
        have h3 := hO3.fl h.2.2
        rw [hl.out] at h3
        have hab : Hid (∀ x, A3 = some x → x.block < w3.heap.size) := Lib.hid (fun x q => (hO3.gt q).2)
        clear hO3
        obtain ⟨t0, t1, t2, t3, t4, t5⟩ := Mbx.cells DB
        have dE : (E != 0) = true := by simpa using hE0
        have pr := Lib.hid (gReduce_no h3 HE.out hE0)
        go_wp2_with fail
        clear t0 t1 t2 t3 t4 t5
        with_reducible refine pr.out.mono ?_
        rintro e9 w4 ⟨rfl, hb⟩
        clear pr
        replace h := h.on hb
        replace h3 := h3.on hb
        replace DB := DB.on hb
        replace bz := bz.trans (hb.mono bz.size)
        clear hb
        have DX := Blk.new w4 [.slice none 0 0, .slice none 0 0] 28
        obtain ⟨bDX, eDX⟩ : ∃ x, w4.heap.size = x := ⟨_, rfl⟩
        rw [eDX] at DX
        have hbA := (Below.refl _ w4).alloc (Nat.le_refl _) (.cells #[.slice none 0 0, .slice none 0 0] 28)
        replace h := h.on hbA
        replace h3 := h3.on hbA
        replace DB := DB.on hbA
        replace bz := bz.trans (hbA.mono bz.size)
        clear hbA
        go_upto_region 5 with fail
        try simp only [eDX] at ⊢
        clear eDX
        generalize w4.alloc (.cells #[.slice none 0 0, .slice none 0 0] 28) = VDX at h h3 DB DX bz ⊢
        obtain ⟨t0, t1, t2, t3, t4, t5⟩ := Mbx.cells DB
        have ps := wsame_any h3 h
        rw [show sameL l l = true from decide_eq_true rfl] at ps
        go_wp2_with fail
        clear t0 t1 t2 t3 t4 t5
        with_reducible refine ps.mono ?_
        rintro e9 w5 ⟨rfl, hb⟩
        clear ps
        replace h := h.on hb
        replace h3 := h3.on hb
        replace DB := DB.on hb
        replace DX := DX.on hb
        replace bz := bz.trans (hb.mono bz.size)
        clear hb
        obtain ⟨t0, t1, t2, t3, t4, t5⟩ := Mbx.cells DB
        have pa := rAsk11_any (R := R) (C := C) h
        rw [HE.out] at pa
        go_wp2_with fail
        clear t0 t1 t2 t3 t4 t5
        with_reducible refine pa.mono ?_
        rintro e9 w6 ⟨rfl, hb⟩
        clear pa
        replace h := h.on hb
        replace h3 := h3.on hb
        replace DB := DB.on hb
        replace DX := DX.on hb
        replace bz := bz.trans (hb.mono bz.size)
        clear hb
        obtain ⟨p0, p1, _, _⟩ := Tbx.cells DX
        go_wp2_with fail
        with_reducible refine (wnum_any E _).mono ?_
        rintro e9 wb ⟨rfl, hb⟩
        replace bz := bz.trans (hb.mono bz.size)
        clear hb p0 p1
        have dEE : (E == E) = true := by simp
        go_wp2_with fail
        with_reducible refine (pk _).mono ?_
        rintro e9 wc ⟨rfl, hb⟩
        replace bz := bz.trans (hb.mono bz.size)
        go_wp2_with fail
        go_ret
        exact ⟨rfl, bz⟩
end Go.Proofs.Ytbaeabmmokgomaa
