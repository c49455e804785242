/-
  Layer 2, the laws, part seven: the reference's halves, and its sums; NatAdds.
-/
import Derived.Test.YtigphbjgodfhpaaDoorNatAQ
import Derived.Deep.RegionHeld3
namespace Go.Proofs.YtigphbjgodfhpaaDoor
open Go.RowKit
set_option linter.unusedVariables false

/-! ### plain facts on halves -/
def cutL : List Int → List Int
  | [] => []
  | x :: l => x % 4294967296 :: x / 4294967296 :: cutL l
theorem cutL_append (l m : List Int) : cutL (l ++ m) = cutL l ++ cutL m := by
  induction l with
  | nil => rfl
  | cons x l ih => simp [cutL, ih]
theorem cutL_length (l : List Int) : (cutL l).length = 2 * l.length := by
  induction l with
  | nil => rfl
  | cons x l ih => simp only [cutL, List.length_cons, ih]; omega
theorem cutL_lim {l : List Int} (h : Lim 18446744073709551616 l) : Lim 4294967296 (cutL l) := by
  induction l with
  | nil => exact Lim.nil _
  | cons x l ih =>
    obtain ⟨hx, h2⟩ := h.cons
    intro y hy
    simp only [cutL, List.mem_cons] at hy
    rcases hy with rfl | rfl | hy
    · omega
    · omega
    · exact ih h2 y hy
theorem cutL_val (l : List Int) : val 4294967296 (cutL l) = val 18446744073709551616 l := by
  induction l with
  | nil => rfl
  | cons x l ih =>
    simp only [cutL]
    rw [val_cons, val_cons, val_cons, ih]
    omega
theorem cutL_take {l : List Int} {k : Nat} (hk : k < l.length) : cutL (l.take (k + 1)) = cutL (l.take k) ++ [D l k % 4294967296, D l k / 4294967296] := by
  rw [List.take_add_one, cutL_append, List.getElem?_eq_getElem hk, D_in hk]
  rfl
theorem lim_half {l : List Int} (h : Lim 4294967296 l) : Lim 18446744073709551616 l := fun x hx => by have := h x hx; omega

set_option maxHeartbeats 2000000 in
theorem cut_any (A : Option Addr) (c : Nat) (l : List Int) (w : World) (h : Nums w w.heap.size A c l) (hl : Lim 18446744073709551616 l) (hlen : l.length ≤ 1000000) :
    Calls Tryd.prog 55 #[.slice A l.length c] w (NewPost (cutL l) w) := by
  have hm := h.length
  go_enter Tryd.func55, Tryd.ntmps55
  go_wp2_with fail
  go_loopw [3, 4] (fun s i wr => ∃ (k : Nat) (A2 : Option Addr) (c2 : Nat), k ≤ l.length ∧ i = .int .i64 k ∧ s = .slice A2 (cutL (l.take k)).length c2 ∧ Own wr w.heap.size A2 c2 (cutL (l.take k)) ∧ Below w.heap.size w wr) (fun _ i _ => l.length - (intOf i).toNat)
  case atStart => exact ⟨0, none, 0, Nat.zero_le _, rfl, rfl, Own.nil w _, Below.refl _ _⟩
  case round =>
    obtain ⟨k, A2, c2, hk, rfl, rfl, ho, hb⟩ := hrel
    have hsz := hb.size
    by_cases hkl : k < l.length
    · have hT := Lib.hid (cutL_take hkl)
      have hlenk : (cutL (l.take k)).length ≤ 2000000 := by rw [cutL_length, List.length_take]; omega
      obtain ⟨C, hC⟩ : ∃ C, cutL (l.take k) = C := ⟨_, rfl⟩
      rw [hC] at ho hlenk ⊢
      rw [hC] at hT
      have hx := D_lim (b := 18446744073709551616) (by omega) hl k
      have hn2 := h.below hb
      obtain ⟨ad, rfl, hadb, hc⟩ := hn2.at_ hkl
      have i0 : (0 : Int) ≤ k := by omega
      have i1 : (k : Int) < l.length := by omega
      obtain ⟨x, hxe⟩ : ∃ x, D l k = x := ⟨_, rfl⟩
      rw [hxe] at hx hc hT
      obtain ⟨p, hp⟩ : ∃ p, x % 4294967296 = p := ⟨_, rfl⟩
      obtain ⟨q, hq⟩ : ∃ q, x / 4294967296 = q := ⟨_, rfl⟩
      rw [hp, hq] at hT
      have e1 : x.tmod 4294967296 = p := by rw [Int.tmod_eq_emod_of_nonneg hx.1, hp]
      have e2 : IntKind.u64.wrap (x.tdiv 4294967296) = q := by rw [Int.tdiv_eq_ediv_of_nonneg hx.1, hq, IntKind.wrap_u64]; omega
      obtain ⟨o, hoe⟩ : ∃ o, Obj.cells #[.int .u64 p, .int .u64 q] 39 = o := ⟨_, rfl⟩
      have hsrc : Nums (wr.alloc o).drew (wr.heap.size + 1) (some ⟨wr.heap.size, 0, none⟩) 2 [p, q] := by
        have := (Row.new wr [p, q]).nums (B := wr.heap.size + 1) (c := 2) 0 2 (by simp) (by omega) (by unfold maxLen; omega) (by omega)
        rw [← hoe]
        have h9 : Nums (wr.alloc (Obj.cells #[Value.int IntKind.u64 p, Value.int IntKind.u64 q] 39)) (wr.heap.size + 1) (some ⟨wr.heap.size, 0, none⟩) 2 [p, q] := by simpa [L] using this
        exact h9.drew
      have hown1 : Own (wr.alloc o).drew w.heap.size A2 c2 C := ho.alloc_ o
      have hkeep : ∀ w4, (wr.alloc o).drew.grownBy w4 (Value.slice A2 C.length c2).ownBlock → w4.cell? (ad.add k) = some (.int .u64 x) := fun w4 hg => by
        have h1 : Nums (wr.alloc o).drew w.heap.size (some ad) c l := hn2.alloc (by omega) o
        have h2 := h1.grown hg (by simp; omega) (fun g hk => (World.ownsRow.lt hown1 g hk).1)
        rw [h2.at_some hkl, hxe]
      have hbel : ∀ w4, (wr.alloc o).drew.grownBy w4 (Value.slice A2 C.length c2).ownBlock → Below w.heap.size w w4 := fun w4 hg => below_app (hb.alloc hsz o).drew hown1 hg (by simp; omega)
      have HK := Lib.hid hkeep
      have HB := Lib.hid hbel
      subst hoe
      clear hC hxe hp hq hkeep hbel
      go_wp2_with fail
      go_region_held3 (fun w' => w'.cell? (ad.add k) = some (.int .u64 x)) (first | go_keep | exact HK.out _ hg) ((refine step_app _ rfl _ _ (by rfl) w.heap.size A2 c2 C (by rfl) hown1 _ (some ⟨wr.heap.size, 0, none⟩) 2 [p, q] (by rfl) hsrc (by simp; omega) (by simp; omega) ?_; intro A4 c4 w4 hown4 hg hat))
      all_goals
        go_wp2_with fail
        go_roundw
        case rel => exact ⟨k + 1, A4, c4, by omega, by go_num, by rw [hT.out, List.length_append]; rfl, by rw [hT.out]; exact hown4, HB.out _ hg⟩
        case measure => simp [intOf]; omega
    · obtain rfl : k = l.length := by omega
      rw [List.take_length] at ho ⊢
      go_wp2_with fail
      go_ret
      exact ⟨A2, c2, rfl, ho, hb⟩

/-! ### put together -/
theorem half_pow (k : Nat) : (4294967296 : Int) ^ (2 * k) = 18446744073709551616 ^ k := by
  rw [Int.pow_mul]
  rfl
theorem half_pow1 (k : Nat) : (4294967296 : Int) ^ (2 * k + 1) = 18446744073709551616 ^ k * 4294967296 := by
  rw [Int.pow_succ, half_pow]

/-- the list put together so far -/
def Joins (l : List Int) (k : Nat) (C : List Int) : Prop :=
  C.length = k ∧ Lim 18446744073709551616 C ∧ val 18446744073709551616 C = S 4294967296 (D l) (2 * k)
theorem Joins.step {l C : List Int} {k : Nat} (h : Joins l k C) (hl : Lim 4294967296 l) : Joins l (k + 1) (C ++ [D l (2 * k) + D l (2 * k + 1) * 4294967296]) := by
  obtain ⟨h1, h2, h3⟩ := h
  have a := D_lim (b := 4294967296) (by omega) hl (2 * k)
  have b := D_lim (b := 4294967296) (by omega) hl (2 * k + 1)
  refine ⟨by simp [h1], h2.snoc (by omega) (by omega), ?_⟩
  rw [val_append, val_cons, val_nil, h3, h1, show 2 * (k + 1) = 2 * k + 1 + 1 from by omega, S_succ, S_succ, half_pow1, half_pow]
  grind

set_option maxHeartbeats 2000000 in
theorem join_any (A : Option Addr) (c : Nat) (l : List Int) (w : World) (h : Nums w w.heap.size A c l) (hl : Lim 4294967296 l) (hlen : l.length ≤ 1000000) :
    Calls Tryd.prog 57 #[.slice A l.length c] w (Made (val 4294967296 l) w) := by
  have hm := h.length
  go_enter Tryd.func57, Tryd.ntmps57
  go_wp2_with fail
  go_loopw [3, 4] (fun s i wr => ∃ (k : Nat) (C : List Int) (A2 : Option Addr) (c2 : Nat), 2 * k ≤ l.length + 1 ∧ i = .int .i64 (2 * k) ∧ s = .slice A2 C.length c2 ∧ Hid (Joins l k C) ∧ Own wr w.heap.size A2 c2 C ∧ Below w.heap.size w wr) (fun _ i _ => l.length + 1 - (intOf i).toNat)
  case atStart => exact ⟨0, [], none, 0, by omega, rfl, rfl, ⟨rfl, Lim.nil _, rfl⟩, Own.nil w _, Below.refl _ _⟩
  case round =>
    obtain ⟨k, C, A2, c2, hk, rfl, rfl, hj, ho, hb⟩ := hrel
    have hsz := hb.size
    obtain rfl : C.length = k := hj.out.1
    have hCl : C.length ≤ 2000000 := by omega
    by_cases hkl : 2 * C.length < l.length
    · have hstep := hj.out.step hl
      have a := D_lim (b := 4294967296) (by omega) hl (2 * C.length)
      have b := D_lim (b := 4294967296) (by omega) hl (2 * C.length + 1)
      have hn2 := h.below hb
      obtain ⟨ad, rfl, hadb, hc⟩ := hn2.at_ hkl
      have hc2 : 2 * C.length + 1 < l.length → wr.cell? (ad.add (2 * C.length + 1)) = some (.int .u64 (D l (2 * C.length + 1))) := fun h => hn2.at_some h
      have h0 : ¬ 2 * C.length + 1 < l.length → D l (2 * C.length + 1) = 0 := fun h => D_out (by omega)
      have e1 : ((2 * (C.length : Int))).toNat = 2 * C.length := by omega
      have e2 : ((2 * (C.length : Int)) + 1).toNat = 2 * C.length + 1 := by omega
      obtain ⟨x, hx⟩ : ∃ x, D l (2 * C.length) = x := ⟨_, rfl⟩
      obtain ⟨y, hy⟩ : ∃ y, D l (2 * C.length + 1) = y := ⟨_, rfl⟩
      obtain ⟨n, hn⟩ : ∃ n, x + y * 4294967296 = n := ⟨_, rfl⟩
      rw [hx, hy, hn] at hstep
      rw [hx] at a hc
      rw [hy] at b hc2 h0
      have HS := Lib.hid hstep
      have i0 : (0 : Int) ≤ 2 * C.length := by omega
      have i1 : 2 * (C.length : Int) < l.length := by omega
      have n0 : 0 ≤ n := by omega
      have n1 : n < 18446744073709551616 := by omega
      have hsrc : ∀ W : World, Nums (W.alloc (.cells #[.int .u64 n] 39)) (W.heap.size + 1) (some ⟨W.heap.size, 0, none⟩) 1 [n] := fun W => by
        have := (Row.one W n).nums (B := W.heap.size + 1) (c := 1) 0 1 (by simp) (by omega) (by unfold maxLen; omega) (by omega)
        simpa using this
      clear hstep hx hy hn2
      by_cases hk2 : 2 * C.length + 1 < l.length
      · replace hc2 := hc2 hk2
        obtain ⟨j, hj2⟩ : ∃ j, 2 * C.length + 1 = j := ⟨_, rfl⟩
        have he : 2 * (C.length : Int) + 1 = j := by omega
        rw [hj2] at hc2
        have i2 : (j : Int) < l.length := by omega
        have i3 : (0 : Int) ≤ j := by omega
        have w1 : IntKind.u64.wrap (y * 4294967296) = y * 4294967296 := by rw [IntKind.wrap_u64]; omega
        have w2 : IntKind.u64.wrap (x + y * 4294967296) = n := by rw [IntKind.wrap_u64]; omega
        clear h0 hn hj2 e2 hk2
        go_wp2_with (at_builtin; refine wpList_app _ rfl _ _ rfl w.heap.size A2 c2 C rfl (ho.alloc_ _) _ (some ⟨wr.heap.size, 0, none⟩) 1 [n] rfl (hsrc _) (by simp; omega) (by simp; omega) ?_; intro A4 c4 w4 hown4 hg hat)
        have hbl := below_app (hb.alloc hsz _) (ho.alloc_ _) hg (by simp; omega)
        go_roundw
        case rel => exact ⟨C.length + 1, C ++ [_], A4, c4, by omega, by go_num, by rw [List.length_append]; rfl, HS, hown4, hbl⟩
        case measure => simp [intOf]; omega
      · replace h0 := h0 hk2
        have i2 : (l.length : Int) ≤ 2 * (C.length : Int) + 1 := by omega
        subst h0
        obtain rfl : x = n := by omega
        clear hc2 hn
        go_wp2_with (at_builtin; refine wpList_app _ rfl _ _ rfl w.heap.size A2 c2 C rfl (ho.alloc_ _) _ (some ⟨wr.heap.size, 0, none⟩) 1 [x] rfl (hsrc _) (by simp; omega) (by simp; omega) ?_; intro A4 c4 w4 hown4 hg hat)
        have hbl := below_app (hb.alloc hsz _) (ho.alloc_ _) hg (by simp; omega)
        go_roundw
        case rel => exact ⟨C.length + 1, C ++ [_], A4, c4, by omega, by go_num, by rw [List.length_append]; rfl, HS, hown4, hbl⟩
        case measure => simp [intOf]; omega
    · have hfin : val 18446744073709551616 C = val 4294967296 l := by
        rw [hj.out.2.2, S_val (by omega)]
      have hCL := hj.out.2.1
      have HF := Lib.hid hfin
      have hnm := ho.nums
      have hnl : (l.length : Int) ≤ 2 * C.length := by omega
      have p := refNorm_any A2 c2 C wr hnm hCL (by omega)
      unfold NormPost at p
      clear hj hfin hk hkl
      go_wp2_with fail
      with_reducible refine p.mono ?_
      rintro e w2 ⟨A3, c3, rfl, o3, b3⟩
      go_wp2_with fail
      go_ret
      exact ⟨norm C, A3, c3, rfl, norm_lim hCL, norm_normal C, by rw [norm_val, HF.out], o3.less hsz, hb.trans (b3.mono hsz)⟩

/-! ### digits, sums -/
set_option maxHeartbeats 400000 in
theorem digit_any (A : Option Addr) (c : Nat) (l : List Int) (k : Nat) (hk : (k : Int) ≤ 9223372036854775807) (w : World) (B : Nat) (h : Nums w B A c l) :
    Calls Tryd.prog 56 #[.slice A l.length c, .int .i64 k] w fun e w' => e = .returned (.int .u64 (D l k)) ∧ w = w' := by
  have hm : (l.length : Int) ≤ 9223372036854775807 := by have := h.length; omega
  rcases Nat.lt_or_ge k l.length with hk | hk
  · obtain ⟨ad, rfl, hb, hc⟩ := h.at_ hk
    have i0 : (0 : Int) ≤ k := by omega
    have i1 : (k : Int) < l.length := by omega
    clear h
    go_enter Tryd.func56, Tryd.ntmps56
    go_wp2
    go_ret
    exact ⟨rfl, rfl⟩
  · rw [D_out hk]
    have i1 : (l.length : Int) ≤ k := by omega
    clear h
    go_enter Tryd.func56, Tryd.ntmps56
    go_wp2
    go_ret
    exact ⟨rfl, rfl⟩

def AddInv (x y C : List Int) (d : Int) (k : Nat) : Prop :=
  C.length = k ∧ Lim 4294967296 C ∧ 0 ≤ d ∧ d ≤ 1 ∧ val 4294967296 C + d * 4294967296 ^ k = S 4294967296 (D x) k + S 4294967296 (D y) k
theorem AddInv.step {x y C : List Int} {d n : Int} {k : Nat} (h : AddInv x y C d k) (hx : Lim 4294967296 x) (hy : Lim 4294967296 y) (hn : D x k + D y k + d = n) : AddInv x y (C ++ [n % 4294967296]) (n / 4294967296) (k + 1) := by
  obtain ⟨rfl, h2, h3, h4, h5⟩ := h
  have a := D_lim (b := 4294967296) (by omega) hx C.length
  have b := D_lim (b := 4294967296) (by omega) hy C.length
  refine ⟨by simp, h2.snoc (by omega) (by omega), by omega, by omega, ?_⟩
  have e : n = n % 4294967296 + n / 4294967296 * 4294967296 := by omega
  rw [val_append, val_cons, val_nil, S_succ, S_succ, Int.pow_succ]
  generalize n % 4294967296 = r at *
  generalize n / 4294967296 = q at *
  grind
theorem AddInv.fin {x y C : List Int} {d : Int} {k : Nat} (h : AddInv x y C d k) (hx : x.length ≤ k) (hy : y.length ≤ k) : val 4294967296 (C ++ [d]) = val 4294967296 x + val 4294967296 y := by
  obtain ⟨rfl, h2, h3, h4, h5⟩ := h
  rw [S_val hx, S_val hy] at h5
  rw [val_append, val_cons, val_nil, ← h5]
  grind

set_option maxHeartbeats 4000000 in
theorem refAdd_any (A : Option Addr) (c : Nat) (l : List Int) (A2 : Option Addr) (c2 : Nat) (m : List Int) (w : World) (h : Nums w w.heap.size A c l) (hl : Lim 18446744073709551616 l)
    (h2 : Nums w w.heap.size A2 c2 m) (hl2 : Lim 18446744073709551616 m) (hb1 : l.length ≤ 100000) (hb2 : m.length ≤ 100000) :
    Calls Tryd.prog 24 #[.slice A l.length c, .slice A2 m.length c2] w (Made (val 18446744073709551616 l + val 18446744073709551616 m) w) := by
  have p1 := cut_any A c l w h hl (by omega)
  have x1 := cutL_lim hl
  have x2 := cutL_length l
  have x3 := cutL_val l
  have y1 := cutL_lim hl2
  have y2 := cutL_length m
  have y3 := cutL_val m
  have p2 := fun w' (hb : Below w.heap.size w w') => cut_any A2 c2 m w' (h2.on hb (Nat.le_refl _)) hl2 (by omega)
  obtain ⟨x, hx⟩ : ∃ x, cutL l = x := ⟨_, rfl⟩
  obtain ⟨y, hy⟩ : ∃ y, cutL m = y := ⟨_, rfl⟩
  unfold NewPost at p1 p2
  rw [hx] at p1 x1 x2 x3
  rw [hy] at p2 y1 y2 y3
  rw [← x3, ← y3]
  have hxl : x.length ≤ 200000 := by omega
  have hyl : y.length ≤ 200000 := by omega
  have P2 := Lib.hid p2
  clear h h2 hl hl2 hb1 hb2 x2 x3 y2 y3 hx hy p2
  go_enter Tryd.func24, Tryd.ntmps24
  go_wp2_with fail
  with_reducible refine p1.mono ?_
  rintro e w1 ⟨A3, c3, rfl, o1, b1⟩
  clear p1
  have p2 := P2.out w1 b1
  clear P2
  go_wp2_with fail
  with_reducible refine p2.mono ?_
  rintro e w2 ⟨A4, c4, rfl, o2, b2⟩
  clear p2
  have n1 := o1.nums.on b2 (Nat.le_refl _)
  have n2 := o2.nums
  have bw := bel_then b1 b2
  clear b1 b2 o1 o2
  go_wp2_with fail
  go_loopw [7, 8, 9] (fun s d i wr => ∃ (k : Nat) (C : List Int) (d' : Int) (A5 : Option Addr) (c5 : Nat), k ≤ 200000 ∧ i = .int .i64 k ∧ d = .int .u64 d' ∧ s = .slice A5 C.length c5 ∧ Hid (AddInv x y C d' k) ∧ Own wr w2.heap.size A5 c5 C ∧ Below w2.heap.size w2 wr) (fun _ _ i _ => 200001 - (intOf i).toNat)
  case atStart => exact ⟨0, [], 0, none, 0, by omega, rfl, rfl, rfl, ⟨rfl, Lim.nil _, by omega, by omega, rfl⟩, Own.nil w2 _, Below.refl _ _⟩
  case round =>
    obtain ⟨k, C, d, A5, c5, hk, rfl, rfl, rfl, hj, ho, hb⟩ := hrel
    have hsz := hb.size
    have hd0 := hj.out.2.2.1
    have hd1 := hj.out.2.2.2.1
    obtain rfl : C.length = k := hj.out.1
    have a := D_lim (b := 4294967296) (by omega) x1 C.length
    have b := D_lim (b := 4294967296) (by omega) y1 C.length
    have q1 := fun W (hW : Below w2.heap.size w2 W) => digit_any A3 c3 x C.length (by omega) W _ (n1.below hW)
    have q2 := fun W (hW : Below w2.heap.size w2 W) => digit_any A4 c4 y C.length (by omega) W _ (n2.below hW)
    have hstep := fun n hn => hj.out.step (n := n) x1 y1 hn
    obtain ⟨u, hu⟩ : ∃ u, D x C.length = u := ⟨_, rfl⟩
    obtain ⟨v, hv⟩ : ∃ v, D y C.length = v := ⟨_, rfl⟩
    rw [hu] at a q1 hstep
    rw [hv] at b q2 hstep
    have HS := Lib.hid (hstep _ rfl)
    have Q1 := Lib.hid q1
    have Q2 := Lib.hid q2
    obtain ⟨n, hn⟩ : ∃ n, u + v + d = n := ⟨_, rfl⟩
    rw [hn] at HS
    have e1 : IntKind.u64.wrap (u + v) = u + v := by rw [IntKind.wrap_u64]; omega
    have e2 : IntKind.u64.wrap (u + v + d) = n := by rw [IntKind.wrap_u64]; omega
    have n0 : 0 ≤ n := by omega
    have e3 : n.tmod 4294967296 = n % 4294967296 := Int.tmod_eq_emod_of_nonneg n0
    have e4 : IntKind.u64.wrap (n.tdiv 4294967296) = n / 4294967296 := by rw [Int.tdiv_eq_ediv_of_nonneg n0, IntKind.wrap_u64]; omega
    obtain ⟨r, hr⟩ : ∃ r, n % 4294967296 = r := ⟨_, rfl⟩
    obtain ⟨q, hq⟩ : ∃ q, n / 4294967296 = q := ⟨_, rfl⟩
    rw [hr] at e3 HS
    rw [hq] at e4 HS
    have hsrc : ∀ (W : World) (z : Int), Nums (W.alloc (.cells #[.int .u64 z] 39)) (W.heap.size + 1) (some ⟨W.heap.size, 0, none⟩) 1 [z] := fun W z => by
      have := (Row.one W z).nums (B := W.heap.size + 1) (c := 1) 0 1 (by simp) (by omega) (by unfold maxLen; omega) (by omega)
      simpa using this
    clear hstep q1 q2 hn hr hq hu hv
    by_cases hdone : x.length ≤ C.length ∧ y.length ≤ C.length
    · have hfin := hj.out.fin hdone.1 hdone.2
      have i1 : (x.length : Int) ≤ C.length := by omega
      have i2 : (y.length : Int) ≤ C.length := by omega
      have HF := Lib.hid hfin
      have hlim : Lim 4294967296 (C ++ [d]) := hj.out.2.1.snoc hd0 (by omega)
      have HL := Lib.hid hlim
      clear hfin hdone hlim Q1 Q2
      go_wp2_with (at_builtin; refine wpList_app _ rfl _ _ rfl w2.heap.size A5 c5 C rfl (ho.alloc_ _) _ (some ⟨wr.heap.size, 0, none⟩) 1 [d] rfl (hsrc _ _) (by simp; omega) (by simp; omega) ?_; intro A6 c6 w4 hown4 hg hat)
      have hbl := below_app (hb.alloc hsz _) (ho.alloc_ _) hg (by simp; omega)
      have p3 := join_any A6 c6 (C ++ [d]) w4 hown4.nums HL.out (by simp; omega)
      rw [HF.out, show (C ++ [d]).length = C.length + 1 by simp] at p3
      with_reducible refine p3.mono ?_
      rintro e w5 ⟨s, A7, c7, rfl, s1, s2, s3, s4, s5⟩
      have hsz4 := hbl.size
      have hszw := bw.size
      go_wp2_with fail
      go_ret
      exact ⟨s, A7, c7, rfl, s1, s2, s3, s4.less (by omega), (bel_then bw hbl).trans (s5.mono (by omega))⟩
    · have hlt : C.length < 200000 := by omega
      have hside : (C.length : Int) < x.length ∨ ((x.length : Int) ≤ C.length ∧ (C.length : Int) < y.length) := by omega
      clear hdone
      rcases hside with i1 | ⟨i1, i2⟩
      all_goals
        go_wp2_with (first
          | (go_at_call 56; ((with_reducible refine (Q1.out _ hb).mono ?_); rintro e w' ⟨rfl, rfl⟩))
          | (go_at_call 56; ((with_reducible refine (Q2.out _ hb).mono ?_); rintro e w' ⟨rfl, rfl⟩))
          | (at_builtin; refine wpList_app _ rfl _ _ rfl w2.heap.size A5 c5 C rfl (ho.alloc_ _) _ (some ⟨wr.heap.size, 0, none⟩) 1 [r] rfl (hsrc _ _) (by simp; omega) (by simp; omega) ?_; intro A6 c6 w4 hown4 hg hat))
        have hbl := below_app (hb.alloc hsz _) (ho.alloc_ _) hg (by simp; omega)
        go_roundw
        case rel => exact ⟨C.length + 1, C ++ [r], q, A6, c6, by omega, by go_num, rfl, by rw [List.length_append]; rfl, HS, hown4, hbl⟩
        case measure => simp [intOf]; omega
/-! ### NatAdds (the walk is written by wip/tools/gen_adds.py) -/
/-- a new number of this value -/
def NewV (v : Int) (w : World) (e : Ending) (w' : World) : Prop :=
  ∃ l A c, e = .returned (.slice A l.length c) ∧ Normal l ∧ Hid (val 18446744073709551616 l = v) ∧ Lv w' A l.length c l ∧ Below w.heap.size w w'
theorem Made.newV {v : Int} {w w' : World} {e : Ending} (h : Made v w e w') : NewV v w e w' := by
  obtain ⟨s, A, c, h1, h2, h3, h4, h5, h6⟩ := h
  exact ⟨s, A, c, h1, h3, h4, ⟨rfl, h5.nums, h2⟩, h6⟩
theorem refAdd_lv {A A2 : Option Addr} {n m c c2 : Nat} {l s : List Int} {w : World} (h : Lv w A n c l) (h2 : Lv w A2 m c2 s) (hn : n ≤ 10000) (hm : m ≤ 10000) :
    Calls Tryd.prog 24 #[.slice A n c, .slice A2 m c2] w (NewV (val 18446744073709551616 l + val 18446744073709551616 s) w) := by
  have := refAdd_any A c l A2 c2 s w h.2.1 h.2.2 h2.2.1 h2.2.2 (by rw [h.1]; omega) (by rw [h2.1]; omega)
  rw [h.1, h2.1] at this
  exact this.mono fun e w' q => q.newV
theorem bd60 {a b : Int} (a0 : 0 ≤ a) (b0 : 0 ≤ b) (a1 : a < 18446744073709551616 ^ 60) (b1 : b < 18446744073709551616 ^ 60) :
    a + b < 18446744073709551616 ^ 4096 ∧ a * b < 18446744073709551616 ^ 4096 := by
  have e : (18446744073709551616 : Int) ^ 121 ≤ 18446744073709551616 ^ 4096 := pow_le' (by omega) (by omega)
  have e2 : (18446744073709551616 : Int) ^ 121 = 18446744073709551616 ^ 60 * 18446744073709551616 ^ 60 * 18446744073709551616 := by rw [← Int.pow_add, ← Int.pow_succ]
  have hp : (1 : Int) ≤ 18446744073709551616 ^ 60 := Int.pow_pos (by omega)
  generalize (18446744073709551616 : Int) ^ 4096 = K at *
  generalize (18446744073709551616 : Int) ^ 121 = Q at *
  generalize (18446744073709551616 : Int) ^ 60 = P at *
  have h1 : a * b ≤ P * P := Int.mul_le_mul (by omega) (by omega) (by omega) (by omega)
  have h4 : 1 * P ≤ P * P := Int.mul_le_mul_of_nonneg_right hp (by omega)
  generalize P * P = R at *
  generalize a * b = X at *
  exact ⟨by omega, by omega⟩

set_option maxRecDepth 100000 in
set_option maxHeartbeats 4000000 in
theorem natAdds_lv {A_a : Option Addr} {n_a c_a : Nat} {l_a : List Int} {A_b : Option Addr} {n_b c_b : Nat} {l_b : List Int}  {w : World} (m_a : Lv w A_a n_a c_a l_a) (m_b : Lv w A_b n_b c_b l_b) (hT : Tab w) :
    Calls Tryd.prog 4 #[.slice A_a n_a c_a, .slice A_b n_b c_b] w fun e w' => e = .returned (.bool true) ∧ Below w.heap.size w w' := by
  have q1 := long_lv m_a
  have q2 := long_lv m_b
  by_cases k1 : 60 < n_a
  · have k1' : decide (60 < n_a) = true := by simp [k1]
    rw [k1'] at q1
    clear k1
    go_enter Tryd.func4, Tryd.ntmps4
    go_wp2_with (first | (go_at_call 15; ((with_reducible refine (q1 _).mono ?_); rintro e w1 ⟨rfl, rfl⟩)) | (go_at_call 16; ((with_reducible refine (known_any _ hT).mono ?_); rintro e w1 ⟨rfl, hb⟩)))
    go_ret
    exact ⟨rfl, hb⟩
  have k1' : decide (60 < n_a) = false := by simp [k1]
  rw [k1'] at q1
  have h_a : n_a ≤ 60 := by omega
  clear k1 k1'
  by_cases k2 : 60 < n_b
  · have k2' : decide (60 < n_b) = true := by simp [k2]
    rw [k2'] at q2
    clear k2
    go_enter Tryd.func4, Tryd.ntmps4
    go_wp2_with (first | (go_at_call 15; ((with_reducible refine (q1 _).mono ?_); rintro e w1 ⟨rfl, rfl⟩)) | (go_at_call 15; ((with_reducible refine (q2 _).mono ?_); rintro e w1 ⟨rfl, rfl⟩)) | (go_at_call 16; ((with_reducible refine (known_any _ hT).mono ?_); rintro e w1 ⟨rfl, hb⟩)))
    go_ret
    exact ⟨rfl, hb⟩
  have k2' : decide (60 < n_b) = false := by simp [k2]
  rw [k2'] at q2
  have h_b : n_b ≤ 60 := by omega
  clear k2 k2'
  have bw : Below w.heap.size w w := Below.refl _ w
  obtain rfl : l_a.length = n_a := m_a.1
  obtain rfl : l_b.length = n_b := m_b.1
  have BD := Lib.hid (bd60 m_a.nonneg m_b.nonneg (m_a.less h_a) (m_b.less h_b))
  have ha1 : l_a.length ≤ 60 := h_a
  have hb1 : l_b.length ≤ 60 := h_b
  go_enter Tryd.func4, Tryd.ntmps4
  go_wp2_with (first | (first | (go_at_call 15; ((with_reducible refine (q1 _).mono ?_); rintro e w1 ⟨rfl, rfl⟩)) | (go_at_call 15; ((with_reducible refine (q2 _).mono ?_); rintro e w1 ⟨rfl, rfl⟩))) | (at_builtin; refine wpList_app _ rfl _ _ rfl w.heap.size none 0 [] rfl (Own.nil w _) w.heap.size A_a c_a l_a rfl m_a.2.1 (by simp; omega) (Nat.le_refl _) ?_; intro A_x c_x wa hown hg hat; have hb : Below w.heap.size w wa := below_app (Below.refl _ _) (Own.nil w _) hg (Nat.le_refl _); have m_x : Lv wa A_x l_a.length c_x l_a := ⟨rfl, hown.nums, m_a.2.2⟩; clear hown hg hat; replace m_a := m_a.on hb; replace m_b := m_b.on hb; replace hT := hT.on hb; replace bw := bel_then bw hb; clear hb) | (at_builtin; refine wpList_app _ rfl _ _ rfl wa.heap.size none 0 [] rfl (Own.nil wa _) wa.heap.size A_b c_b l_b rfl m_b.2.1 (by simp; omega) (Nat.le_refl _) ?_; intro A_y c_y wb hown hg hat; have hb : Below wa.heap.size wa wb := below_app (Below.refl _ _) (Own.nil wa _) hg (Nat.le_refl _); have m_y : Lv wb A_y l_b.length c_y l_b := ⟨rfl, hown.nums, m_b.2.2⟩; clear hown hg hat; replace m_a := m_a.on hb; replace m_b := m_b.on hb; replace m_x := m_x.on hb; replace hT := hT.on hb; replace bw := bel_then bw hb; clear hb))
  have p1 := Add_val m_x m_y (by omega) (by omega) BD.out.1
  with_reducible refine p1.mono ?_
  rintro e w1 ⟨l_s, A_s, c_s, rfl, n_s, v_s, k_s, m_s, hb⟩
  clear p1
  replace m_a := m_a.on hb
  replace m_b := m_b.on hb
  replace m_x := m_x.on hb
  replace m_y := m_y.on hb
  replace hT := hT.on hb
  replace bw := bel_then bw hb
  clear hb
  go_wp2_with fail
  have p2 := refAdd_lv m_a m_b (by omega) (by omega)
  with_reducible refine p2.mono ?_
  rintro e w2 ⟨l_t, A_t, c_t, rfl, n_t, v_t, m_t, hb⟩
  clear p2
  replace m_a := m_a.on hb
  replace m_b := m_b.on hb
  replace m_x := m_x.on hb
  replace m_y := m_y.on hb
  replace m_s := m_s.on hb
  replace hT := hT.on hb
  replace bw := bel_then bw hb
  clear hb
  obtain rfl : l_t = l_s := nuq m_t.2.2 n_t m_s.2.2 n_s (by rw [v_t.out, v_s.out])
  go_wp2_with fail
  have p3 := same_lv m_s m_t
  with_reducible refine p3.mono ?_
  rintro e w3 ⟨rfl, hb⟩
  clear p3
  replace m_a := m_a.on hb
  replace m_b := m_b.on hb
  replace m_x := m_x.on hb
  replace m_y := m_y.on hb
  replace m_s := m_s.on hb
  replace m_t := m_t.on hb
  replace hT := hT.on hb
  replace bw := bel_then bw hb
  clear hb
  go_wp2_with fail
  with_reducible refine (num_any 0 _).mono ?_
  rintro e w4 ⟨rfl, rfl⟩
  go_wp2_with fail
  have p5 := same_lv m_x m_a
  with_reducible refine p5.mono ?_
  rintro e w5 ⟨rfl, hb⟩
  clear p5
  replace m_a := m_a.on hb
  replace m_b := m_b.on hb
  replace m_x := m_x.on hb
  replace m_y := m_y.on hb
  replace m_s := m_s.on hb
  replace m_t := m_t.on hb
  replace hT := hT.on hb
  replace bw := bel_then bw hb
  clear hb
  go_wp2_with fail
  have p6 := same_lv m_y m_b
  with_reducible refine p6.mono ?_
  rintro e w6 ⟨rfl, hb⟩
  clear p6
  replace m_a := m_a.on hb
  replace m_b := m_b.on hb
  replace m_x := m_x.on hb
  replace m_y := m_y.on hb
  replace m_s := m_s.on hb
  replace m_t := m_t.on hb
  replace hT := hT.on hb
  replace bw := bel_then bw hb
  clear hb
  go_wp2_with fail
  with_reducible refine (known_any _ hT).mono ?_
  rintro e w7 ⟨rfl, hb⟩
  replace bw := bel_then bw hb
  go_wp2_with fail
  go_ret
  exact ⟨rfl, bw⟩

theorem adds_law (a0 : Option Addr) (len0 cap0 : Nat) (z0 : List Int) (a1 : Option Addr) (len1 cap1 : Nat) (z1 : List Int) (w : World) (w0 : IsRow .u64 w a0 len0 cap0 z0) (w1 : IsRow .u64 w a1 len1 cap1 z1) (hT : Tab w) :
    Calls Tryd.prog 4 #[.slice a0 len0 cap0, .slice a1 len1 cap1] w fun e w' => e = .returned (.bool true) ∧ Below w.heap.size w w' := by
  obtain ⟨l, h⟩ := w0.lv
  obtain ⟨s, h2⟩ := w1.lv
  exact natAdds_lv h h2 hT
end Go.Proofs.YtigphbjgodfhpaaDoor
