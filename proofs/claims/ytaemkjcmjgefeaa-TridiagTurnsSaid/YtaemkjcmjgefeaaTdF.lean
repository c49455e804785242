/-
  Layer 10, walks: why a matrix has no tridiagonal form, by the reference; two tridiagonals that are the same.
-/
import Derived.Test.YtaemkjcmjgefeaaQRfH
import Derived.Test.YtaemkjcmjgefeaaTdA
import Derived.Test.YtaemkjcmjgefeaaTdB
namespace Go.Proofs.Ytaemkjcmjgefeaa
open Go.RowKit Go.Bw
set_option linter.unusedVariables false
set_option linter.unusedSimpArgs false

theorem run_bits_back (x : Int) (h0 : 0 ≤ x) (w : World) : (callFunc 32 #[.float .f64 x.toNat]).run Try.prog w = .ok (.value (.int .u64 x)) w := by
  have := run_float64bits x.toNat w
  rwa [Int.toNat_of_nonneg h0] at this
theorem all_true {P : Int → Bool} {l : List Int} (h : ∀ k, k < l.length → P (D l k) = true) : l.all P = true := by
  rw [List.all_eq_true]
  intro x hx
  obtain ⟨k, hk, rfl⟩ := List.mem_iff_getElem.1 hx
  have := h k hk
  rwa [D_in hk] at this
theorem all_false {P : Int → Bool} {l : List Int} {k : Nat} (hk : k < l.length) (h : P (D l k) = false) : l.all P = false := by
  rw [List.all_eq_false]
  refine ⟨l[k], List.getElem_mem hk, ?_⟩
  rw [D_in hk] at h
  rw [h]; simp
set_option maxHeartbeats 400000 in
theorem rFinite5_any (x : Int) (h0 : 0 ≤ x) (h1 : x ≤ 18446744073709551615) (w : World) :
    Calls Try.prog 48 #[.int .u64 x] w (fun e w' => e = .returned (.bool (fin x)) ∧ w = w') := by
  have e := fin_fld x h0 h1
  go_enter Try.func48, Try.ntmps48
  go_wp2
  go_ret
  exact ⟨by rw [← e]; rfl, rfl⟩
/-- the code of a matrix that may be -/
def finC (l : List Int) : Int := if l.all fin = true then 0 else 10
set_option maxRecDepth 100000 in
set_option maxHeartbeats 4000000 in
theorem rWrong5_ok {A : Option Addr} {n c : Nat} {l : List Int} {R C : Int} {w : World} (h : FL w A n c l) (hm : mayB R C n = true) :
    Calls Try.prog 30 #[mV R C A n c] w (Ans w (.int .i64 (finC l))) := by
  have hmx := h.max
  have DB := Blk.new w [.int .i64 R, .int .i64 C, .slice A n c] 24
  have h2 := h.alloc (.cells #[.int .i64 R, .int .i64 C, .slice A n c] 24)
  have bw := (Below.refl _ w).alloc (Nat.le_refl _) (.cells #[.int .i64 R, .int .i64 C, .slice A n c] 24)
  have hl := h.1
  obtain ⟨r0, r1, c0, c1, hn⟩ := of_decide_eq_true hm
  have wn : IntKind.i64.wrap (n : Int) = (n : Int) := IntWalk.i64_in _ (by omega)
  have r2 : ¬ R < 0 := by omega
  have r3 : ¬ 512 < R := by omega
  have c2 : ¬ C < 0 := by omega
  have c3 : ¬ 512 < C := by omega
  have en : R * C = (n : Int) := hn.symm
  have H10 := Lib.hid (show l.all fin = false → finC l = 10 from fun hf => by unfold finC; rw [hf]; rfl)
  have H00 := Lib.hid (show l.all fin = true → finC l = 0 from fun hf => by unfold finC; rw [hf]; rfl)
  have hln := Lib.hid hl
  have d : ((n : Int) != (n : Int)) = false := by simp
  obtain ⟨DB_0, DB_1, DB_2, DB_f0, DB_f1, DB_f2⟩ := Mbx.cells DB
  generalize finC l = V at *
  clear hl hn hm h
  go_enter Try.func30, Try.ntmps30
  go_wp2_with fail
  go_loop [3] (fun i => ∃ k : Nat, k ≤ n ∧ i = .int .i64 k ∧ Hid (∀ j, j < k → fin (D l j) = true)) (fun i => n - (intOf i).toNat)
  case atStart => exact ⟨0, Nat.zero_le _, rfl, Lib.hid (fun j hj => by omega)⟩
  case round =>
    obtain ⟨k, hk, rfl, HK⟩ := hrel
    by_cases hlt : k < n
    · obtain ⟨ad, rfl, hb, hc⟩ := h2.at_ hlt
      obtain ⟨x0, x1⟩ := h2.2.2.at_ k
      have i0 : (0 : Int) ≤ k := by omega
      have i1 : (k : Int) < n := by omega
      obtain ⟨X, hX⟩ : ∃ X, D l k = X := ⟨_, rfl⟩
      have HX := Lib.hid hX
      rw [hX] at hc x0 x1
      clear hX
      have hbk := run_bits_back X x0
      cases hP2 : fin X
      · have hf : V = 10 := H10.out (all_false (by rw [hln.out]; exact hlt) (by rw [HX.out]; exact hP2))
        subst hf
        go_wp2_with (go_at_call 48; refine (rFinite5_any _ x0 x1 _).mono ?_; rintro e9 w' ⟨rfl, rfl⟩)
        go_ret
        exact ⟨rfl, bw⟩
      · have HK2 := Lib.hid (show ∀ j, j < k + 1 → fin (D l j) = true from fun j hj => by
          rcases Nat.lt_or_ge j k with g | g
          · exact HK.out j g
          · obtain rfl : j = k := by omega
            rw [HX.out]; exact hP2)
        go_wp2_with (go_at_call 48; refine (rFinite5_any _ x0 x1 _).mono ?_; rintro e9 w' ⟨rfl, rfl⟩)
        go_round
        case rel => exact ⟨k + 1, by omega, by go_num, HK2⟩
        case measure => simp [intOf]; omega
    · obtain rfl : k = n := by omega
      have hf : V = 0 := H00.out (all_true (fun j hj => HK.out j (by rw [hln.out] at hj; exact hj)))
      subst hf
      go_wp2_with fail
      go_ret
      exact ⟨rfl, bw⟩
/-- why a matrix has no tridiagonal form -/
def tdE (R C : Int) (n : Nat) (l : List Int) : Int := if mayB R C n = true then (if R = C then finC l else 8) else 2
set_option maxRecDepth 100000 in
set_option maxHeartbeats 4000000 in
theorem rWrong10_any {A : Option Addr} {n c : Nat} {l : List Int} {R C : Int} {w : World} (h : FL w A n c l) :
    Calls Try.prog 9 #[mV R C A n c] w (Ans w (.int .i64 (tdE R C n l))) := by
  have hmx := h.max
  have DB := Blk.new w [.int .i64 R, .int .i64 C, .slice A n c] 24
  have bz := (Below.refl _ w).alloc (Nat.le_refl _) (.cells #[.int .i64 R, .int .i64 C, .slice A n c] 24)
  have h2 := h.on bz
  have pm := fun W => rMay_any (R := R) (C := C) (A := A) (n := n) (c := c) hmx W
  obtain ⟨y0, y1, y2, _, _, _⟩ := Mbx.cells DB
  cases hM : mayB R C n
  · have e : tdE R C n l = 2 := by unfold tdE; rw [hM]; rfl
    rw [hM] at pm
    rw [e]
    clear e hM
    go_enter Try.func9, Try.ntmps9
    go_wp2_with fail
    with_reducible refine (pm _).mono ?_
    rintro e w1 ⟨rfl, hb⟩
    go_wp2_with fail
    go_ret
    exact ⟨rfl, bz.trans (hb.mono bz.size)⟩
  · rw [hM] at pm
    by_cases hRC : R = C
    · subst hRC
      have e : tdE R R n l = finC l := by unfold tdE; rw [hM, if_pos rfl, if_pos rfl]
      rw [e]
      have p5 := fun (W : World) (hh : FL W A n c l) => rWrong5_ok hh hM
      have d : (R != R) = false := by simp
      clear e hM
      have H10 := Lib.hid (rfl : finC l = finC l)
      by_cases hf : l.all fin = true
      · have e0 : finC l = 0 := by unfold finC; rw [if_pos hf]
        rw [e0] at p5 ⊢
        clear e0 hf H10
        go_enter Try.func9, Try.ntmps9
        go_wp2_with fail
        with_reducible refine (pm _).mono ?_
        rintro e w1 ⟨rfl, hb⟩
        have h3 := h2.on hb
        have DB3 := DB.on hb
        have bz3 := bz.trans (hb.mono bz.size)
        clear hb y0 y1 y2
        obtain ⟨y0, y1, y2, _, _, _⟩ := Mbx.cells DB3
        go_wp2_with fail
        with_reducible refine (p5 _ h3).mono ?_
        rintro e w2 ⟨rfl, hb⟩
        go_wp2_with fail
        go_ret
        exact ⟨rfl, bz3.trans (hb.mono bz3.size)⟩
      · have e0 : finC l = 10 := by unfold finC; rw [if_neg hf]
        rw [e0] at p5 ⊢
        clear e0 hf H10
        go_enter Try.func9, Try.ntmps9
        go_wp2_with fail
        with_reducible refine (pm _).mono ?_
        rintro e w1 ⟨rfl, hb⟩
        have h3 := h2.on hb
        have DB3 := DB.on hb
        have bz3 := bz.trans (hb.mono bz.size)
        clear hb y0 y1 y2
        obtain ⟨y0, y1, y2, _, _, _⟩ := Mbx.cells DB3
        go_wp2_with fail
        with_reducible refine (p5 _ h3).mono ?_
        rintro e w2 ⟨rfl, hb⟩
        go_wp2_with fail
        go_ret
        exact ⟨rfl, bz3.trans (hb.mono bz3.size)⟩
    · have e : tdE R C n l = 8 := by unfold tdE; rw [hM, if_pos rfl, if_neg hRC]
      have d : (R != C) = true := by simpa using hRC
      rw [e]
      clear e hM
      go_enter Try.func9, Try.ntmps9
      go_wp2_with fail
      with_reducible refine (pm _).mono ?_
      rintro e w1 ⟨rfl, hb⟩
      have DB3 := DB.on hb
      have bz3 := bz.trans (hb.mono bz.size)
      clear hb y0 y1 y2
      obtain ⟨y0, y1, y2, _, _, _⟩ := Mbx.cells DB3
      go_wp2_with fail
      go_ret
      exact ⟨rfl, bz3⟩
set_option maxRecDepth 100000 in
set_option maxHeartbeats 4000000 in
theorem sameTri_any {A A2 B B2 : Option Addr} {n c m c2 b m2 b2 n2 : Nat} {d e x y : List Int} {w : World} (h1 : FL w A n c d) (h2 : FL w A2 m c2 e) (k1 : FL w B n2 b x) (k2 : FL w B2 m2 b2 y) (hx : SameF d x) (hy : SameF e y) :
    Calls Try.prog 11 #[tV A n c A2 m c2, tV B n2 b B2 m2 b2] w (Ans w (.bool true)) := by
  obtain rfl : n2 = n := by rw [← h1.1, ← k1.1, hx.len]
  obtain rfl : m2 = m := by rw [← h2.1, ← k2.1, hy.len]
  have DA := (Blk.new w [.slice A n2 c, .slice A2 m2 c2] 28).alloc (.cells #[.slice B n2 b, .slice B2 m2 b2] 28)
  have DB := Blk.new (w.alloc (.cells #[.slice A n2 c, .slice A2 m2 c2] 28)) [.slice B n2 b, .slice B2 m2 b2] 28
  rw [World.size_alloc] at DB
  have bz := ((Below.refl _ w).alloc (Nat.le_refl _) (.cells #[.slice A n2 c, .slice A2 m2 c2] 28)).alloc (by simp) (.cells #[.slice B n2 b, .slice B2 m2 b2] 28)
  replace h1 := h1.on bz
  replace h2 := h2.on bz
  replace k1 := k1.on bz
  replace k2 := k2.on bz
  have p1 := rSameAll_any h1 k1 (fun i _ => hx.at_ i)
  have p2 := fun (W : World) (q1 : FL W A2 m2 c2 e) (q2 : FL W B2 m2 b2 y) => rSameAll_any q1 q2 (fun i _ => hy.at_ i)
  obtain ⟨y0, y1, _, _⟩ := Tbx.cells DA
  obtain ⟨z0, z1, _, _⟩ := Tbx.cells DB
  clear h1 k1 hx hy
  go_enter Try.func11, Try.ntmps11
  go_wp2_with fail
  with_reducible refine p1.mono ?_
  rintro e9 w1 ⟨rfl, hb⟩
  replace h2 := h2.on hb
  replace k2 := k2.on hb
  replace DA := DA.on hb
  replace DB := DB.on hb
  have bz3 := bz.trans (hb.mono bz.size)
  clear hb y0 y1 z0 z1 bz p1
  obtain ⟨y0, y1, _, _⟩ := Tbx.cells DA
  obtain ⟨z0, z1, _, _⟩ := Tbx.cells DB
  go_wp2_with fail
  with_reducible refine (p2 _ h2 k2).mono ?_
  rintro e9 w2 ⟨rfl, hb⟩
  go_wp2_with fail
  go_ret
  exact ⟨rfl, bz3.trans (hb.mono bz3.size)⟩
end Go.Proofs.Ytaemkjcmjgefeaa
