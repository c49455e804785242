/-
  Layer 2, the laws, part eight: the reference's differences and products.
-/
import Derived.Test.YtigphbjgodfhpaaDoorNatAS
import Derived.BigQuiet
namespace Go.Proofs.YtigphbjgodfhpaaDoor
open Go.RowKit
set_option linter.unusedVariables false

/-! ### differences -/
def SubInv (x y C : List Int) (d : Int) (k : Nat) : Prop :=
  C.length = k ∧ Lim 4294967296 C ∧ 0 ≤ d ∧ d ≤ 1 ∧ val 4294967296 C + S 4294967296 (D y) k = S 4294967296 (D x) k + d * 4294967296 ^ k
theorem SubInv.step {x y C : List Int} {d n : Int} {k : Nat} (h : SubInv x y C d k) (hx : Lim 4294967296 x) (hy : Lim 4294967296 y) (hn : 4294967296 + D x k - D y k - d = n) : SubInv x y (C ++ [n % 4294967296]) (1 - n / 4294967296) (k + 1) := by
  obtain ⟨rfl, h2, h3, h4, h5⟩ := h
  have a := D_lim (b := 4294967296) (by omega) hx C.length
  have b := D_lim (b := 4294967296) (by omega) hy C.length
  refine ⟨by simp, h2.snoc (by omega) (by omega), by omega, by omega, ?_⟩
  have e : n = n % 4294967296 + n / 4294967296 * 4294967296 := by omega
  rw [val_append, val_cons, val_nil, S_succ, S_succ, Int.pow_succ]
  generalize n % 4294967296 = r at *
  generalize n / 4294967296 = q at *
  grind
theorem S_le_val {b : Int} {l : List Int} (hb : 0 < b) (h : Lim b l) (k : Nat) : S b (D l) k ≤ val b l := by
  rcases Nat.lt_or_ge l.length k with g | g
  · rw [S_val (by omega)]; omega
  · have h1 := val_take_drop b l k g
    have h2 := (val_bound hb (h.drop k)).1
    have := Int.mul_nonneg (Int.le_of_lt (pow_pos' hb k)) h2
    omega
theorem S_eq_val {b : Int} {l : List Int} (hb : 0 < b) (h : Lim b l) {k : Nat} (hlt : val b l < b ^ k) : S b (D l) k = val b l := by
  rcases Nat.lt_or_ge l.length k with g | g
  · rw [S_val (by omega)]
  · have h1 := val_take_drop b l k g
    have h2 := (val_bound hb (h.drop k)).1
    have h3 := (S_of_bound hb h k).1
    have hp := pow_pos' hb k
    generalize val b (l.drop k) = T at *
    have : T = 0 := by
      rcases Int.lt_trichotomy T 0 with g2 | g2 | g2
      · omega
      · exact g2
      · have := Int.mul_le_mul_of_nonneg_left (show 1 ≤ T by omega) (Int.le_of_lt hp)
        omega
    rw [this] at h1
    omega
theorem SubInv.fin {x y C : List Int} {d : Int} {k : Nat} (h : SubInv x y C d k) (hx : Lim 4294967296 x) (hy : Lim 4294967296 y) (hk : x.length = k) (hle : val 4294967296 y ≤ val 4294967296 x) : val 4294967296 C = val 4294967296 x - val 4294967296 y := by
  obtain ⟨rfl, h2, h3, h4, h5⟩ := h
  have a := val_bound (b := 4294967296) (by omega) hx
  have b := S_le_val (b := 4294967296) (by omega) hy C.length
  have c := val_bound (b := 4294967296) (by omega) h2
  rw [hk] at a
  rw [S_eq_val (by omega) hy (by omega), S_val (by omega)] at h5
  have : d = 0 := by
    rcases (show d = 0 ∨ d = 1 by omega) with g | g
    · exact g
    · rw [g] at h5; omega
  rw [this] at h5
  omega

set_option maxHeartbeats 4000000 in
theorem refSub_any (A : Option Addr) (c : Nat) (l : List Int) (A2 : Option Addr) (c2 : Nat) (m : List Int) (w : World) (h : Nums w w.heap.size A c l) (hl : Lim 18446744073709551616 l)
    (h2 : Nums w w.heap.size A2 c2 m) (hl2 : Lim 18446744073709551616 m) (hb1 : l.length ≤ 100000) (hb2 : m.length ≤ 100000) (hle : val 18446744073709551616 m ≤ val 18446744073709551616 l) :
    Calls Tryd.prog 26 #[.slice A l.length c, .slice A2 m.length c2] w (Made (val 18446744073709551616 l - val 18446744073709551616 m) w) := by
  have p1 := cut_any A c l w h hl (by omega)
  have x1 := cutL_lim hl
  have x2 := cutL_length l
  have x3 := cutL_val l
  have y1 := cutL_lim hl2
  have y2 := cutL_length m
  have y3 := cutL_val m
  have p2 := fun w' (hb : Below w.heap.size w w') => cut_any A2 c2 m w' (h2.on hb (Nat.le_refl _)) hl2 (by omega)
  obtain ⟨x, hx⟩ : ∃ x, cutL l = x := ⟨_, rfl⟩
  obtain ⟨y, hy⟩ : ∃ y, cutL m = y := ⟨_, rfl⟩
  unfold NewPost at p1 p2
  rw [hx] at p1 x1 x2 x3
  rw [hy] at p2 y1 y2 y3
  rw [← x3, ← y3] at hle ⊢
  have HLE := Lib.hid hle
  have hxl : x.length ≤ 200000 := by omega
  have hyl : y.length ≤ 200000 := by omega
  have P2 := Lib.hid p2
  clear h h2 hl hl2 hb1 hb2 x2 x3 y2 y3 hx hy p2 hle
  go_enter Tryd.func26, Tryd.ntmps26
  go_wp2_with fail
  with_reducible refine p1.mono ?_
  rintro e w1 ⟨A3, c3, rfl, o1, b1⟩
  clear p1
  have p2 := P2.out w1 b1
  clear P2
  go_wp2_with fail
  with_reducible refine p2.mono ?_
  rintro e w2 ⟨A4, c4, rfl, o2, b2⟩
  clear p2
  have n1 := o1.nums.on b2 (Nat.le_refl _)
  have n2 := o2.nums
  have bw := bel_then b1 b2
  clear b1 b2 o1 o2
  go_wp2_with fail
  go_loopw [7, 8, 9] (fun s d i wr => ∃ (k : Nat) (C : List Int) (d' : Int) (A5 : Option Addr) (c5 : Nat), k ≤ x.length ∧ i = .int .i64 k ∧ d = .int .u64 d' ∧ s = .slice A5 C.length c5 ∧ Hid (SubInv x y C d' k) ∧ Own wr w2.heap.size A5 c5 C ∧ Below w2.heap.size w2 wr) (fun _ _ i _ => x.length - (intOf i).toNat)
  case atStart => exact ⟨0, [], 0, none, 0, by omega, rfl, rfl, rfl, ⟨rfl, Lim.nil _, by omega, by omega, rfl⟩, Own.nil w2 _, Below.refl _ _⟩
  case round =>
    obtain ⟨k, C, d, A5, c5, hk, rfl, rfl, rfl, hj, ho, hb⟩ := hrel
    have hsz := hb.size
    have hd0 := hj.out.2.2.1
    have hd1 := hj.out.2.2.2.1
    obtain rfl : C.length = k := hj.out.1
    by_cases hlt : C.length < x.length
    · have a := D_lim (b := 4294967296) (by omega) x1 C.length
      have b := D_lim (b := 4294967296) (by omega) y1 C.length
      have q2 : ∀ n, Calls Tryd.prog 56 #[.slice A4 y.length c4, .int .i64 C.length] (wr.drewN n) (fun e w' => e = .returned (.int .u64 (D y C.length)) ∧ w' = wr.drewN n) :=
        fun n => (digit_any A4 c4 y C.length (by omega) (wr.drewN n) _ (n2.below (below_drewN hb n))).mono fun _ _ ⟨a, b⟩ => ⟨a, b.symm⟩
      have hstep := fun n hn => hj.out.step (n := n) x1 y1 hn
      obtain ⟨ad, rfl, hadb, hc⟩ := (n1.below hb).at_ hlt
      obtain ⟨u, hu⟩ : ∃ u, D x C.length = u := ⟨_, rfl⟩
      obtain ⟨v, hv⟩ : ∃ v, D y C.length = v := ⟨_, rfl⟩
      rw [hu] at a hc hstep
      rw [hv] at b q2 hstep
      have HS := Lib.hid (hstep _ rfl)
      have Q2 := Lib.hid q2
      obtain ⟨n, hn⟩ : ∃ n, 4294967296 + u - v - d = n := ⟨_, rfl⟩
      rw [hn] at HS
      have e0 : IntKind.u64.wrap (4294967296 + u) = 4294967296 + u := by rw [IntKind.wrap_u64]; omega
      have e1 : IntKind.u64.wrap (4294967296 + u - v) = 4294967296 + u - v := by rw [IntKind.wrap_u64]; omega
      have e2 : IntKind.u64.wrap (4294967296 + u - v - d) = n := by rw [IntKind.wrap_u64]; omega
      have n0 : 0 ≤ n := by omega
      have e3 : n.tmod 4294967296 = n % 4294967296 := Int.tmod_eq_emod_of_nonneg n0
      have e4 : IntKind.u64.wrap (n.tdiv 4294967296) = n / 4294967296 := by rw [Int.tdiv_eq_ediv_of_nonneg n0, IntKind.wrap_u64]; omega
      have e5 : IntKind.u64.wrap (1 - n / 4294967296) = 1 - n / 4294967296 := by rw [IntKind.wrap_u64]; omega
      obtain ⟨r, hr⟩ : ∃ r, n % 4294967296 = r := ⟨_, rfl⟩
      obtain ⟨q, hq⟩ : ∃ q, n / 4294967296 = q := ⟨_, rfl⟩
      rw [hr] at e3 HS
      rw [hq] at e4 e5 HS
      have hsrc : ∀ (W : World) (z : Int), Nums (W.alloc (.cells #[.int .u64 z] 39)) (W.heap.size + 1) (some ⟨W.heap.size, 0, none⟩) 1 [z] := fun W z => by
        have := (Row.one W z).nums (B := W.heap.size + 1) (c := 1) 0 1 (by simp) (by omega) (by unfold maxLen; omega) (by omega)
        simpa using this
      have hoN : ∀ n, Own (wr.drewN n) w2.heap.size A5 c5 C := fun n => ho
      have hbN : ∀ n, Below w2.heap.size w2 (wr.drewN n) := fun n => below_drewN hb n
      have hszN : ∀ n, (wr.drewN n).heap.size = wr.heap.size := fun n => rfl
      have HN := Lib.hid (And.intro hoN (And.intro hbN hszN))
      have i0 : (0 : Int) ≤ C.length := by omega
      have i1 : (C.length : Int) < x.length := by omega
      clear hstep q2 hn hr hq hu hv hoN hbN hszN
      go_wp2_with fail
      go_quiet ((go_at_call 56; first | exact quiet_add_same (Q2.out _) | exact Calls.quiet_of_same (Q2.out _)))
      go_wp2_with (at_builtin; refine wpList_app _ rfl _ _ rfl w2.heap.size A5 c5 C rfl ((HN.out.1 _).alloc_ _) _ (some ⟨wr.heap.size, 0, none⟩) 1 [r] rfl (hsrc _ _) (by simp; omega) (by simp; omega) ?_; intro A6 c6 w4 hown4 hg hat)
      have hbl := below_app ((HN.out.2.1 _).alloc hsz _) ((HN.out.1 _).alloc_ _) hg (by simp; omega)
      go_roundw
      case rel => exact ⟨C.length + 1, C ++ [r], 1 - q, A6, c6, by omega, by go_num, rfl, by rw [List.length_append]; rfl, HS, hown4, hbl⟩
      case measure => simp [intOf]; omega
    · have hfin := hj.out.fin x1 y1 (by omega) HLE.out
      have i1 : (x.length : Int) ≤ C.length := by omega
      have HF := Lib.hid hfin
      have hlim := hj.out.2.1
      clear hfin
      have p3 := join_any A5 c5 C wr (ho.nums) hlim (by omega)
      rw [HF.out] at p3
      go_wp2_with fail
      with_reducible refine p3.mono ?_
      rintro e w5 ⟨s, A7, c7, rfl, s1, s2, s3, s4, s5⟩
      have hszw := bw.size
      go_wp2_with fail
      go_ret
      exact ⟨s, A7, c7, rfl, s1, s2, s3, s4.less (by omega), (bel_then bw hb).trans (s5.mono (by omega))⟩

/-! ### products -/
/-- within a row -/
def RowInv (C0 C y : List Int) (f d : Int) (o k : Nat) : Prop :=
  C.length = C0.length ∧ Lim 4294967296 C ∧ 0 ≤ d ∧ d < 4294967296 ∧ (∀ i, (i < o ∨ o + k ≤ i) → D C i = D C0 i) ∧
    S 4294967296 (fun i => D C (o + i)) k + d * 4294967296 ^ k = S 4294967296 (fun i => D C0 (o + i)) k + S 4294967296 (D y) k * f
theorem half_mul {a b : Int} (a0 : 0 ≤ a) (a1 : a < 4294967296) (b0 : 0 ≤ b) (b1 : b < 4294967296) : 0 ≤ a * b ∧ a * b ≤ 18446744065119617025 := by
  refine ⟨Int.mul_nonneg a0 b0, ?_⟩
  have : a * b ≤ 4294967295 * 4294967295 := Int.mul_le_mul (by omega) (by omega) (by omega) (by omega)
  omega
theorem RowInv.step {C0 C y : List Int} {f d n : Int} {o k j : Nat} (h : RowInv C0 C y f d o k) (hy : Lim 4294967296 y) (f0 : 0 ≤ f) (f1 : f < 4294967296) (hj : o + k = j) (hk : j < C0.length) (hn : D C j + f * D y k + d = n) :
    RowInv C0 (C.set j (n % 4294967296)) y f (n / 4294967296) o (k + 1) := by
  obtain ⟨h1, h2, h3, h4, h5, h6⟩ := h
  have a := D_lim (b := 4294967296) (by omega) h2 j
  have b := D_lim (b := 4294967296) (by omega) hy k
  have c := half_mul f0 f1 b.1 b.2
  refine ⟨by simp [h1], h2.set _ (by omega) (by omega), by omega, by omega, fun i hi => ?_, ?_⟩
  · rw [D_set _ i (by omega), if_neg (by omega)]; exact h5 i (by omega)
  · have e : n = n % 4294967296 + n / 4294967296 * 4294967296 := by omega
    have e2 := h5 j (by omega)
    rw [S_succ, S_succ, S_succ, S_congr (g := fun i => D C (o + i)) (fun i hi => by rw [D_set _ (o + i) (by omega), if_neg (by omega)]), D_set _ (o + k) (by omega), if_pos hj, Int.pow_succ, hj]
    rw [e2] at hn
    generalize n % 4294967296 = r at *
    generalize n / 4294967296 = q at *
    grind
/-- ahead of a row -/
def OutInv (x y C : List Int) (k : Nat) : Prop :=
  C.length = x.length + y.length + 1 ∧ Lim 4294967296 C ∧ (∀ i, k + y.length ≤ i → D C i = 0) ∧ S 4294967296 (D C) (k + y.length) = S 4294967296 (D x) k * val 4294967296 y
theorem OutInv.start (x y : List Int) : OutInv x y (List.replicate (x.length + y.length + 1) 0) 0 :=
  ⟨by simp, Lim.zeros (by omega) _, fun i _ => D_replicate _ i, by rw [S_nil (fun i _ => D_replicate _ i)]; simp [S]⟩
theorem OutInv.row {x y C : List Int} {k : Nat} (h : OutInv x y C k) : RowInv C C y (D x k) 0 k 0 :=
  ⟨rfl, h.2.1, by omega, by omega, fun _ _ => rfl, by simp [S]⟩
theorem OutInv.step {x y C C' : List Int} {d : Int} {k j : Nat} (h : OutInv x y C k) (hr : RowInv C C' y (D x k) d k y.length) (hk : k < x.length) (hj : k + y.length = j) : OutInv x y (C'.set j d) (k + 1) := by
  obtain ⟨h1, h2, h3, h4⟩ := h
  obtain ⟨r1, r2, r3, r4, r5, r6⟩ := hr
  subst hj
  refine ⟨by simp [r1, h1], r2.set _ r3 r4, fun i hi => ?_, ?_⟩
  · rw [D_set d i (by omega), if_neg (by omega), r5 i (by omega)]; exact h3 i (by omega)
  · rw [show k + 1 + y.length = k + y.length + 1 from by omega, S_succ, S_succ, D_set d _ (by omega), if_pos rfl]
    rw [S_congr (g := D C') (fun i hi => by rw [D_set d i (by omega), if_neg (by omega)]), S_split, S_congr (g := D C) (k := k) (fun i hi => r5 i (by omega))]
    rw [S_split] at h4
    rw [S_val (Nat.le_refl _)] at r6
    rw [Int.pow_add]
    grind
theorem OutInv.fin {x y C : List Int} (h : OutInv x y C x.length) : val 4294967296 C = val 4294967296 x * val 4294967296 y := by
  obtain ⟨h1, h2, h3, h4⟩ := h
  rw [S_val (Nat.le_refl _)] at h4
  rw [← h4]
  unfold val
  rw [h1]
  exact S_more (by omega) (fun i hi _ => h3 i hi)

set_option maxHeartbeats 8000000 in
theorem refMul_any (A : Option Addr) (c : Nat) (l : List Int) (A2 : Option Addr) (c2 : Nat) (m : List Int) (w : World) (h : Nums w w.heap.size A c l) (hl : Lim 18446744073709551616 l)
    (h2 : Nums w w.heap.size A2 c2 m) (hl2 : Lim 18446744073709551616 m) (hb1 : l.length ≤ 100000) (hb2 : m.length ≤ 100000) :
    Calls Tryd.prog 28 #[.slice A l.length c, .slice A2 m.length c2] w (Made (val 18446744073709551616 l * val 18446744073709551616 m) w) := by
  have p1 := cut_any A c l w h hl (by omega)
  have x1 := cutL_lim hl
  have x2 := cutL_length l
  have x3 := cutL_val l
  have y1 := cutL_lim hl2
  have y2 := cutL_length m
  have y3 := cutL_val m
  have p2 := fun w' (hb : Below w.heap.size w w') => cut_any A2 c2 m w' (h2.on hb (Nat.le_refl _)) hl2 (by omega)
  obtain ⟨x, hx⟩ : ∃ x, cutL l = x := ⟨_, rfl⟩
  obtain ⟨y, hy⟩ : ∃ y, cutL m = y := ⟨_, rfl⟩
  unfold NewPost at p1 p2
  rw [hx] at p1 x1 x2 x3
  rw [hy] at p2 y1 y2 y3
  rw [← x3, ← y3]
  have hxl : x.length ≤ 200000 := by omega
  have hyl : y.length ≤ 200000 := by omega
  have P2 := Lib.hid p2
  obtain ⟨N, hN⟩ : ∃ N, x.length + y.length + 1 = N := ⟨_, rfl⟩
  have hNi : (x.length : Int) + y.length + 1 = (N : Int) := by omega
  have hmk := fun W => run_make N (by omega) W
  have HNN := Lib.hid hN
  have hN4 : N ≤ 500000 := by omega
  clear h h2 hl hl2 hb1 hb2 x2 x3 y2 y3 hx hy p2 hN
  go_enter Tryd.func28, Tryd.ntmps28
  go_wp2_with fail
  with_reducible refine p1.mono ?_
  rintro e w1 ⟨A3, c3, rfl, o1, b1⟩
  clear p1
  have p2 := P2.out w1 b1
  clear P2
  go_wp2_with fail
  with_reducible refine p2.mono ?_
  rintro e w2 ⟨A4, c4, rfl, o2, b2⟩
  clear p2
  have n1 := o1.nums.on b2 (Nat.le_refl _)
  have n2 := o2.nums
  have bw := bel_then b1 b2
  clear b1 b2 o1 o2
  go_wp2_with fail
  go_loopw [8] (fun i wr => ∃ (k : Nat) (C : List Int), k ≤ x.length ∧ i = .int .i64 k ∧ Hid (OutInv x y C k) ∧ Row wr w2.heap.size C ∧ Below w2.heap.size w2 wr) (fun i _ => x.length - (intOf i).toNat)
  case atStart =>
    refine ⟨0, List.replicate N 0, by omega, rfl, ?_, Row.new _ _, (Below.refl _ w2).alloc (Nat.le_refl _) _⟩
    have := OutInv.start x y
    rw [HNN.out] at this
    exact this
  case round =>
    obtain ⟨k, C0, hk, rfl, hO, hr0, hb0⟩ := hrel
    by_cases hkn : k < x.length
    · have hf := D_lim (b := 4294967296) (by omega) x1 k
      have hrow0 := Lib.hid hO.out.row
      obtain ⟨ad, rfl, hadb, hcx⟩ := n1.at_ hkn
      obtain ⟨f, hfe⟩ : ∃ f, D x k = f := ⟨_, rfl⟩
      rw [hfe] at hf hrow0
      have hcx' : ∀ W, Below w2.heap.size w2 W → W.cell? (ad.add k) = some (.int .u64 f) := fun W hW => by rw [hW.cell (by rw [add_block]; exact hadb), hcx, hfe]
      have HX := Lib.hid hcx'
      have HFE := Lib.hid hfe
      have k0 : (0 : Int) ≤ k := by omega
      have k1 : (k : Int) < x.length := by omega
      have hC0 : C0.length = N := by have := hO.out.1; have := HNN.out; omega
      have HC0 := Lib.hid hC0
      have hky : k + y.length < N := by have := HNN.out; omega
      clear hcx' hcx hfe hC0
      go_wp2_with fail
      go_loopw [9, 10] (fun dd kk wq => ∃ (t : Nat) (C : List Int) (d : Int), t ≤ y.length ∧ kk = .int .i64 t ∧ dd = .int .u64 d ∧ Hid (RowInv C0 C y f d k t) ∧ Row wq w2.heap.size C ∧ Below w2.heap.size w2 wq) (fun _ kk _ => y.length - (intOf kk).toNat)
      case atStart => exact ⟨0, C0, 0, by omega, rfl, rfl, hrow0, hr0, hb0⟩
      case round =>
        obtain ⟨t, C, d, ht, rfl, rfl, hR, hr, hb⟩ := hrel
        have hsz := hb.size
        have hd0 := hR.out.2.2.1
        have hd1 := hR.out.2.2.2.1
        have hCl := hR.out.2.1
        have hCN : C.length = N := by have := hR.out.1; have := HC0.out; omega
        by_cases hlt : t < y.length
        · obtain ⟨j, hj⟩ : ∃ j, k + t = j := ⟨_, rfl⟩
          have hji : (k : Int) + t = j := by omega
          have hjN : j < C.length := by omega
          have a := D_lim (b := 4294967296) (by omega) hCl j
          have b := D_lim (b := 4294967296) (by omega) y1 t
          have c0 := hr.cell (k := j) hjN
          have cx := HX.out wr hb
          obtain ⟨ad2, rfl, hadb2, hcy⟩ := (n2.below hb).at_ hlt
          have hfr := hr.frozen j
          have hstep := fun n hn => hR.out.step (n := n) y1 hf.1 hf.2 hj (by have := HC0.out; omega) hn
          have hp := half_mul hf.1 hf.2 b.1 b.2
          obtain ⟨u, hu⟩ : ∃ u, D C j = u := ⟨_, rfl⟩
          obtain ⟨v, hv⟩ : ∃ v, D y t = v := ⟨_, rfl⟩
          rw [hu] at a c0 hstep
          rw [hv] at b hcy hstep hp
          have HS := Lib.hid (hstep _ rfl)
          obtain ⟨p, hpe⟩ : ∃ p, f * v = p := ⟨_, rfl⟩
          rw [hpe] at hp HS
          obtain ⟨n, hn⟩ : ∃ n, u + p + d = n := ⟨_, rfl⟩
          rw [hn] at HS
          have e0 : IntKind.u64.wrap (f * v) = p := by rw [hpe, IntKind.wrap_u64]; omega
          have e1 : IntKind.u64.wrap (u + p) = u + p := by rw [IntKind.wrap_u64]; omega
          have e2 : IntKind.u64.wrap (u + p + d) = n := by rw [IntKind.wrap_u64]; omega
          have n0 : 0 ≤ n := by omega
          have e3 : n.tmod 4294967296 = n % 4294967296 := Int.tmod_eq_emod_of_nonneg n0
          have e4 : IntKind.u64.wrap (n.tdiv 4294967296) = n / 4294967296 := by rw [Int.tdiv_eq_ediv_of_nonneg n0, IntKind.wrap_u64]; omega
          obtain ⟨r, hre⟩ : ∃ r, n % 4294967296 = r := ⟨_, rfl⟩
          obtain ⟨q, hqe⟩ : ∃ q, n / 4294967296 = q := ⟨_, rfl⟩
          rw [hre] at e3 HS
          rw [hqe] at e4 HS
          have i0 : (0 : Int) ≤ t := by omega
          have i1 : (t : Int) < y.length := by omega
          have i2 : (0 : Int) ≤ j := by omega
          have i3 : (j : Int) < N := by omega
          clear hstep hn hre hqe hu hv hpe hj hlt
          go_wp2_with fail
          go_quiet (fail)
          go_wp2_with fail
          go_roundw
          case rel => exact ⟨t + 1, C.set j r, q, by omega, by go_num, rfl, HS, (hr.drewN _).set_ j r, (below_drewN hb _).setCell (p := ⟨w2.heap.size, j, none⟩) (Nat.le_refl _) _⟩
          case measure => simp [intOf]; omega
        · obtain rfl : t = y.length := by omega
          obtain ⟨j, hj⟩ : ∃ j, k + y.length = j := ⟨_, rfl⟩
          have hji : (k : Int) + y.length = j := by omega
          have hjN : j < C.length := by omega
          have hR2 := hR.out
          rw [← HFE.out] at hR2
          have hO2 := hO.out.step hR2 hkn hj
          have HO := Lib.hid hO2
          have c0 := hr.cell (k := j) hjN
          have hfr := hr.frozen j
          have i2 : (0 : Int) ≤ j := by omega
          have i3 : (j : Int) < N := by omega
          clear hR2 hO2 hj
          go_wp2_with fail
          go_roundw
          case rel => exact ⟨k + 1, C.set j d, by omega, by go_num, HO, hr.set_ j d, hb.setCell (p := ⟨w2.heap.size, j, none⟩) (Nat.le_refl _) _⟩
          case measure => simp [intOf]; omega
    · obtain rfl : k = x.length := by omega
      have hfin := hO.out.fin
      have HF := Lib.hid hfin
      have hlim := hO.out.2.1
      have hCN : C0.length = N := by have := hO.out.1; have := HNN.out; omega
      have hgl := hr0.lt
      have hnum := hr0.nums (B := wr.heap.size) (c := N) 0 N (by omega) (by omega) (by unfold maxLen; omega) hgl
      rw [List.drop_zero, List.take_of_length_le (by omega)] at hnum
      have p3 := join_any (some ⟨w2.heap.size, 0, none⟩) N C0 wr hnum hlim (by omega)
      rw [HF.out, hCN] at p3
      clear hfin hnum hO
      go_wp2_with fail
      with_reducible refine p3.mono ?_
      rintro e w5 ⟨s, A7, c7, rfl, s1, s2, s3, s4, s5⟩
      have hszw := bw.size
      have hsz0 := hb0.size
      go_wp2_with fail
      go_ret
      exact ⟨s, A7, c7, rfl, s1, s2, s3, s4.less (by omega), (bel_then bw hb0).trans (s5.mono (by omega))⟩
end Go.Proofs.YtigphbjgodfhpaaDoor
