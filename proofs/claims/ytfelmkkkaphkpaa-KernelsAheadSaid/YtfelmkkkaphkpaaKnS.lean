/-
  Layer 8, walks: the reference's lists made by append, its copy of a matrix, its questions about one. (Written by wip/tools/gen_kns.py.)
-/
import Derived.Test.YtfelmkkkaphkpaaKnR
namespace Go.Proofs.Ytfelmkkkaphkpaa
open Go.RowKit Go.Bw Go.Sort Go.Shelf
set_option linter.unusedVariables false
set_option linter.unusedSimpArgs false

/-- a list of one float, just built -/
theorem one_src (w : World) (r : Nat) : NumF (w.alloc (.cells #[.float .f64 r] 32)) (w.heap.size + 1) (some ⟨w.heap.size, 0, none⟩) 1 [(r : Int)] := by
  have := (RowF.one w (r : Int)).nums (B := w.heap.size + 1) (c := 1) 0 1 (by simp) (by omega) (by unfold maxLen; omega) (by simp)
  have e : fV (r : Int) = .float .f64 r := by show Value.float .f64 ((r : Int)).toNat = _; rw [Int.toNat_natCast]
  rw [e] at this
  simpa using this
/-- a list that a loop makes, k floats of f on -/
structure Mk (w : World) (B : Nat) (A : Option Addr) (c : Nat) (L : List Int) (k : Nat) (f : Nat → Option Nat) : Prop where
  is : Is L k f
  own : OwnF w B A c L
section
variable {w w' : World} {B k c : Nat} {A : Option Addr} {L : List Int} {f : Nat → Option Nat}
theorem Mk.nil (w : World) (B : Nat) (f : Nat → Option Nat) : Mk w B none 0 [] 0 f := ⟨Is.nil f, OwnF.nil w B⟩
theorem Mk.on (h : Mk w B A c L k f) (hb : Below w.heap.size w w') : Mk w' B A c L k f := ⟨h.is, h.own.on_ hb⟩
theorem Mk.put (h : Mk w B A c L k f) {r : Nat} (hr : af r = f k) (br : r ≤ 18446744073709551615) {A2 : Option Addr} {c2 : Nat} (ho : OwnF w' B A2 c2 (L ++ [(r : Int)])) : Mk w' B A2 c2 (L ++ [(r : Int)]) (k + 1) f :=
  ⟨h.is.snoc (by omega) (by omega) (by rw [fa_nat]; exact hr), ho⟩
theorem Mk.len (h : Mk w B A c L k f) : L.length = k := h.is.len
end

section
variable {w : World} {m q i j n c : Nat} {A : Option Addr} {l : List Int}
set_option maxRecDepth 100000 in
set_option maxHeartbeats 4000000 in
theorem rScal_any {a : Nat} (ba : a ≤ 18446744073709551615) (h : FL w A n c l) (hn : n ≤ 262144) : Calls Try.prog 32 #[.float .f64 a, .slice A n c] w (NewF w n (fun k => aop .mul (af a) (fa (D l k)))) := by
  obtain ⟨f, hf⟩ : ∃ f : Nat → Option Nat, (fun k => aop .mul (af a) (fa (D l k))) = f := ⟨_, rfl⟩
  have Hf := Lib.hid hf
  rw [hf]
  obtain ⟨B, hB⟩ : ∃ B, w.heap.size = B := ⟨_, rfl⟩
  have hB2 : B ≤ w.heap.size := by omega
  have hB3 : w.heap.size ≤ B := by omega
  have HB := Lib.hid hB
  clear hf hB
  have hmx := h.max
  have HH := Lib.hid h
  clear h
  go_enter Try.func32, Try.ntmps32
  go_wp2_with fail
  go_loopw [5, 6] (fun lv i wr => ∃ (k : Nat) (A3 : Option Addr) (c3 : Nat) (L : List Int), k ≤ n ∧ lv = .slice A3 L.length c3 ∧ i = .int .i64 k ∧ Mk wr B A3 c3 L k f ∧ Below w.heap.size w wr) (fun _ i _ => n - (intOf i).toNat)
  case atStart => exact ⟨0, none, 0, [], Nat.zero_le _, rfl, rfl, Mk.nil _ _ _, Below.refl _ _⟩
  case round =>
    obtain ⟨k, A3, c3, L, hk, rfl, rfl, hM, bw⟩ := hrel
    have hBr : B ≤ wr.heap.size := Nat.le_trans hB2 bw.size
    by_cases hlt : k < n
    · obtain ⟨ad, hA, hb1, hc1⟩ := (HH.out.on bw).at_ hlt
      obtain ⟨x0, x1⟩ := HH.out.2.2.at_ k
      have bX : (D l k).toNat ≤ 18446744073709551615 := by omega
      have HX : Hid (aop .mul (af a) (af (D l k).toNat) = f k) := Lib.hid (by rw [← Hf.out]; rfl)
      generalize (D l k).toNat = X at *
      subst hA
      have k0 : (0 : Int) ≤ k := by omega
      have k1 : (k : Int) < n := by omega
      clear x0 x1 hb1
      obtain ⟨r1, w1, e1, d1, h1, b1⟩ := run_mul (P := Try.prog) 32 (x := a) (y := X) ba bX wr
      have hK : Hid (af r1 = f k) := Lib.hid (by rw [h1, HX.out])
      replace hM := hM.on d1.below
      replace bw := bw.trans (d1.below.mono bw.size)
      have hB1 := Nat.le_trans hBr d1.below.size
      clear h1 HX d1
      have hsrc := one_src (w1) r1
      go_wp2_with (at_builtin; refine wpList_appF _ rfl _ _ rfl (B) A3 c3 L rfl ((hM.on ((Below.refl _ _).alloc (Nat.le_refl _) (.cells #[.float .f64 r1] 32))).own) _ _ _ _ rfl hsrc (by have := hM.len; simp; omega) (by simp <;> omega) ?_; intro A2 c2 w9 ho9 hg9 hat9)
      have hown9 := (hM.on ((Below.refl _ _).alloc (Nat.le_refl _) (.cells #[.float .f64 r1] 32))).own
      have bw9 : Below w.heap.size w w9 := below_appF ((bw).alloc bw.size (.cells #[.float .f64 r1] 32)) (hown9.less (by omega)) hg9 (by have := bw.size; simp; omega)
      have hM9 := hM.put hK.out b1 ho9
      clear hown9 hg9 hat9 ho9 hsrc
      go_wp2_with fail
      go_roundw
      case rel => exact ⟨k + 1, A2, c2, L ++ [(r1 : Int)], by omega, by simp, by go_num, hM9, bw9⟩
      case measure => simp [intOf]; omega
    · obtain rfl : k = n := by omega
      have hL := Lib.hid hM.len
      go_wp2_with fail
      go_ret
      exact ⟨A3, c3, L, by rw [hL.out]; rfl, hM.is, by rw [HB.out]; exact hM.own, bw⟩
set_option maxRecDepth 100000 in
set_option maxHeartbeats 4000000 in
theorem rAxpy_any {a n2 c2 : Nat} {A2 : Option Addr} {y : List Int} (ba : a ≤ 18446744073709551615) (h : FL w A n c l) (h2 : FL w A2 n2 c2 y) (hle : n ≤ n2) (hn : n ≤ 262144) : Calls Try.prog 29 #[.float .f64 a, .slice A n c, .slice A2 n2 c2] w (NewF w n (fun k => aop .add (fa (D y k)) (aop .mul (af a) (fa (D l k))))) := by
  obtain ⟨f, hf⟩ : ∃ f : Nat → Option Nat, (fun k => aop .add (fa (D y k)) (aop .mul (af a) (fa (D l k)))) = f := ⟨_, rfl⟩
  have Hf := Lib.hid hf
  rw [hf]
  obtain ⟨B, hB⟩ : ∃ B, w.heap.size = B := ⟨_, rfl⟩
  have hB2 : B ≤ w.heap.size := by omega
  have hB3 : w.heap.size ≤ B := by omega
  have HB := Lib.hid hB
  clear hf hB
  have hmx := h.max
  have hmx2 := h2.max
  have HH := Lib.hid h
  have HH2 := Lib.hid h2
  clear h h2
  go_enter Try.func29, Try.ntmps29
  go_wp2_with fail
  go_loopw [7, 8] (fun lv i wr => ∃ (k : Nat) (A3 : Option Addr) (c3 : Nat) (L : List Int), k ≤ n ∧ lv = .slice A3 L.length c3 ∧ i = .int .i64 k ∧ Mk wr B A3 c3 L k f ∧ Below w.heap.size w wr) (fun _ i _ => n - (intOf i).toNat)
  case atStart => exact ⟨0, none, 0, [], Nat.zero_le _, rfl, rfl, Mk.nil _ _ _, Below.refl _ _⟩
  case round =>
    obtain ⟨k, A3, c3, L, hk, rfl, rfl, hM, bw⟩ := hrel
    have hBr : B ≤ wr.heap.size := Nat.le_trans hB2 bw.size
    by_cases hlt : k < n
    · obtain ⟨ad, hA, hb1, hc1⟩ := (HH.out.on bw).at_ hlt
      obtain ⟨x0, x1⟩ := HH.out.2.2.at_ k
      obtain ⟨y0, y1⟩ := HH2.out.2.2.at_ k
      have bX : (D l k).toNat ≤ 18446744073709551615 := by omega
      have bY : (D y k).toNat ≤ 18446744073709551615 := by omega
      have HX : Hid (aop .add (af (D y k).toNat) (aop .mul (af a) (af (D l k).toNat)) = f k) := Lib.hid (by rw [← Hf.out]; rfl)
      obtain ⟨r1, w1, e1, d1, h1, b1⟩ := run_mul (P := Try.prog) 32 (x := a) (y := (D l k).toNat) ba bX wr
      obtain ⟨ad2, hA2, hb2, hc2⟩ := (HH2.out.on (bw.trans (d1.below.mono bw.size))).at_ (k := k) (by omega)
      obtain ⟨r2, w2, e2, d2, h2, b2⟩ := run_add (P := Try.prog) 32 (x := (D y k).toNat) (y := r1) bY b1 w1
      generalize (D l k).toNat = X at *
      generalize (D y k).toNat = Y at *
      subst hA hA2
      have k0 : (0 : Int) ≤ k := by omega
      have k1 : (k : Int) < n := by omega
      have k2 : (k : Int) < n2 := by omega
      clear x0 x1 y0 y1 hb1 hb2
      have hK : Hid (af r2 = f k) := Lib.hid (by rw [h2, h1, HX.out])
      replace hM := (hM.on d1.below).on d2.below
      replace bw := bw.trans ((d1.trans d2).below.mono bw.size)
      have hB1 := Nat.le_trans hBr (d1.trans d2).below.size
      clear h1 h2 HX d1 d2
      have hsrc := one_src (w2) r2
      go_wp2_with (at_builtin; refine wpList_appF _ rfl _ _ rfl (B) A3 c3 L rfl ((hM.on ((Below.refl _ _).alloc (Nat.le_refl _) (.cells #[.float .f64 r2] 32))).own) _ _ _ _ rfl hsrc (by have := hM.len; simp; omega) (by simp <;> omega) ?_; intro A2 c2 w9 ho9 hg9 hat9)
      have hown9 := (hM.on ((Below.refl _ _).alloc (Nat.le_refl _) (.cells #[.float .f64 r2] 32))).own
      have bw9 : Below w.heap.size w w9 := below_appF ((bw).alloc bw.size (.cells #[.float .f64 r2] 32)) (hown9.less (by omega)) hg9 (by have := bw.size; simp; omega)
      have hM9 := hM.put hK.out b2 ho9
      clear hown9 hg9 hat9 ho9 hsrc
      go_wp2_with fail
      go_roundw
      case rel => exact ⟨k + 1, A2, c2, L ++ [(r2 : Int)], by omega, by simp, by go_num, hM9, bw9⟩
      case measure => simp [intOf]; omega
    · obtain rfl : k = n := by omega
      have hL := Lib.hid hM.len
      go_wp2_with fail
      go_ret
      exact ⟨A3, c3, L, by rw [hL.out]; rfl, hM.is, by rw [HB.out]; exact hM.own, bw⟩
set_option maxRecDepth 100000 in
set_option maxHeartbeats 4000000 in
theorem rCol_any (h : FL w A n c l) (hn : n = m * q) (hm : m ≤ 512) (hq : q ≤ 512) (hj : j < q) :
    Calls Try.prog 88 #[mV m q A n c, .int .i64 j] w (NewF w m (fun k => ma l q k j)) := by
  obtain ⟨f, hf⟩ : ∃ f : Nat → Option Nat, (fun k => ma l q k j) = f := ⟨_, rfl⟩
  have Hf := Lib.hid hf
  rw [hf]
  clear hf
  obtain ⟨B, hB⟩ : ∃ B, w.heap.size + 1 = B := ⟨_, rfl⟩
  have HB := Lib.hid hB
  have pa := fun W (hF : FL W A n c l) i (hi : i < m) => rAt_any hF hn hm hq hi hj
  have HH := Lib.hid h
  have HN := Lib.hid hn
  have DB := Blk.new w [.int .i64 m, .int .i64 q, .slice A n c] 24
  have bw := (Below.refl _ w).alloc (Nat.le_refl _) (.cells #[.int .i64 m, .int .i64 q, .slice A n c] 24)
  have hB2 : B ≤ (w.alloc (.cells #[.int .i64 m, .int .i64 q, .slice A n c] 24)).heap.size := by simp; omega
  have hwB : w.heap.size < B := by omega
  have Hm := Lib.hid hm
  obtain ⟨c0, c1, c2, f0, f1, f2⟩ := Mbx.cells DB
  clear h hn hB hq
  go_enter Try.func88, Try.ntmps88
  go_wp2_with fail
  clear c0 c1 c2 f0 f1 f2
  go_loopw [5, 6] (fun lv i wr => ∃ (k : Nat) (A3 : Option Addr) (c3 : Nat) (L : List Int), k ≤ m ∧ lv = .slice A3 L.length c3 ∧ i = .int .i64 k ∧ Mk wr B A3 c3 L k f ∧ Below w.heap.size w wr ∧ B ≤ wr.heap.size ∧ Mbx wr w.heap.size m q A n c) (fun _ i _ => m - (intOf i).toNat)
  case atStart => exact ⟨0, none, 0, [], Nat.zero_le _, rfl, rfl, Mk.nil _ _ _, bw, hB2, DB⟩
  case round =>
    clear DB bw hB2
    obtain ⟨k, A3, c3, L, hk, rfl, rfl, hM, bw, hBr, DB⟩ := hrel
    obtain ⟨c0, c1, c2, f0, f1, f2⟩ := Mbx.cells DB
    by_cases hlt : k < m
    · have pc := pa wr (HH.out.on bw) k hlt
      obtain ⟨x0, x1⟩ := HH.out.2.2.at_ (k * q + j)
      have b1 : (D l (k * q + j)).toNat ≤ 18446744073709551615 := by omega
      have hK : Hid (af (D l (k * q + j)).toNat = f k) := Lib.hid (by rw [← Hf.out]; rfl)
      generalize (D l (k * q + j)).toNat = r1 at *
      go_wp2_with fail
      with_reducible refine pc.mono ?_
      rintro e w1 ⟨rfl, hb⟩
      replace hM := hM.on hb
      replace DB := DB.on hb
      replace bw := bw.trans (hb.mono bw.size)
      replace hBr := Nat.le_trans hBr hb.size
      clear hb pc x0 x1 c0 c1 c2 f0 f1 f2
      have hsrc := one_src (w1) r1
      go_wp2_with (at_builtin; refine wpList_appF _ rfl _ _ rfl (B) A3 c3 L rfl ((hM.on ((Below.refl _ _).alloc (Nat.le_refl _) (.cells #[.float .f64 r1] 32))).own) _ _ _ _ rfl hsrc (by have := hM.len; simp; omega) (by simp <;> omega) ?_; intro A2 c2 w9 ho9 hg9 hat9)
      have hown9 := (hM.on ((Below.refl _ _).alloc (Nat.le_refl _) (.cells #[.float .f64 r1] 32))).own
      have bw9 : Below w.heap.size w w9 := below_appF ((bw).alloc bw.size (.cells #[.float .f64 r1] 32)) (hown9.less (by omega)) hg9 (by have := bw.size; simp; omega)
      have hM9 := hM.put hK.out b1 ho9
      have DB9 : Mbx w9 w.heap.size m q A n c := (DB.alloc (.cells #[.float .f64 r1] 32)).grown hg9 (fun e => by have := (World.ownsRow.lt hown9 _ e.symm).1; omega)
      have hB9 := hg9.size
      simp only [World.size_alloc] at hB9
      clear hown9 hg9 hat9 ho9 hsrc
      go_wp2_with fail
      go_roundw
      case rel => exact ⟨k + 1, A2, c2, L ++ [(r1 : Int)], by omega, by simp, by go_num, hM9, bw9, by omega, DB9⟩
      case measure => simp [intOf]; omega
    · obtain rfl : k = m := by omega
      have hL := Lib.hid hM.len
      go_wp2_with fail
      go_ret
      exact ⟨A3, c3, L, by rw [hL.out]; rfl, hM.is, hM.own.less (by have := HB.out; omega), bw⟩
/-- is a matrix of R rows and C columns a vector? -/
def vecM (R C : Int) : Bool := R == 1 || C == 1 || R == 0 && C == 0
set_option maxRecDepth 100000 in
set_option maxHeartbeats 4000000 in
theorem rVector_any (R C : Int) (A : Option Addr) (n c : Nat) (w : World) : Calls Try.prog 21 #[mV R C A n c] w (Ans w (.bool (vecM R C))) := by
  have DB := Blk.new w [.int .i64 R, .int .i64 C, .slice A n c] 24
  obtain ⟨c0, c1, c2, f0, f1, f2⟩ := Mbx.cells DB
  clear DB
  unfold vecM
  cases h1 : (R == 1)
  · cases h2 : (C == 1)
    · cases h3 : (R == 0)
      · go_enter Try.func21, Try.ntmps21
        go_wp2_with fail
        go_ret
        exact ⟨rfl, by go_grown⟩
      · go_enter Try.func21, Try.ntmps21
        go_wp2_with fail
        go_ret
        exact ⟨by simp, by go_grown⟩
    · go_enter Try.func21, Try.ntmps21
      go_wp2_with fail
      go_ret
      exact ⟨rfl, by go_grown⟩
  · go_enter Try.func21, Try.ntmps21
    go_wp2_with fail
    go_ret
    exact ⟨rfl, by go_grown⟩
set_option maxRecDepth 100000 in
set_option maxHeartbeats 4000000 in
theorem rSquare_any (R C : Int) (A : Option Addr) (n c : Nat) (w : World) : Calls Try.prog 37 #[mV R C A n c] w (Ans w (.bool (R == C))) := by
  have DB := Blk.new w [.int .i64 R, .int .i64 C, .slice A n c] 24
  obtain ⟨c0, c1, c2, f0, f1, f2⟩ := Mbx.cells DB
  clear DB
  go_enter Try.func37, Try.ntmps37
  go_wp2_with fail
  go_ret
  exact ⟨rfl, by go_grown⟩
end
end Go.Proofs.Ytfelmkkkaphkpaa
