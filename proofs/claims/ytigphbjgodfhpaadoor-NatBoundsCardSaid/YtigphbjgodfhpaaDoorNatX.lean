/-
  Layer 2, walks, part nineteen: a number divided by a number of two limbs or more.
-/
import Derived.Test.YtigphbjgodfhpaaDoorNatU
namespace Go.Proofs.YtigphbjgodfhpaaDoor
open Go.RowKit
set_option linter.unusedVariables false

theorem digit_zero {b : Int} (hb : 0 < b) {l : List Int} (hl : Lim b l) {e x : Nat} (h : val b l < b ^ e) (hx : e ≤ x) : D l x = 0 := by
  rcases Nat.lt_or_ge x l.length with g | g
  · have h0 := D_lim hb hl x
    rcases (show D l x = 0 ∨ 1 ≤ D l x by omega) with k | k
    · exact k
    · have h1 := val_take_drop b l (x + 1) (by omega)
      have h2 := val_bound hb (hl.drop (x + 1))
      have h3 := S_of_bound hb hl x
      have h4 := pow_pos' hb (x + 1)
      have h5 := pow_pos' hb x
      have h6 := pow_le' hb hx
      have h7 : 0 ≤ b ^ (x + 1) * val b (l.drop (x + 1)) := Int.mul_nonneg (by omega) h2.1
      have h8 : 0 ≤ (D l x - 1) * b ^ x := Int.mul_nonneg (by omega) (by omega)
      have h9 : (D l x - 1) * b ^ x = D l x * b ^ x - b ^ x := by grind
      rw [S_succ] at h1
      omega
  · exact D_out g

/-- the division's round, in plain numbers -/
theorem div_seg {R : List Int} {V : Int} {n i : Nat} (hR : Lim 18446744073709551616 R) (hi : i + n + 1 ≤ R.length) (hV : V < 18446744073709551616 ^ n) (hlt : val 18446744073709551616 R < V * 18446744073709551616 ^ (i + 1)) :
    val 18446744073709551616 R = S 18446744073709551616 (D R) i + 18446744073709551616 ^ i * S 18446744073709551616 (fun x => D R (i + x)) (n + 1) ∧ S 18446744073709551616 (fun x => D R (i + x)) (n + 1) < V * 18446744073709551616 := by
  have hp := pow_pos' (b := 18446744073709551616) (by omega) (i + 1)
  have h1 : val 18446744073709551616 R < 18446744073709551616 ^ (i + n + 1) := by
    have a := Int.mul_le_mul_of_nonneg_right (Int.le_of_lt hV) (Int.le_of_lt hp)
    rw [← Int.pow_add, show n + (i + 1) = i + n + 1 from by omega] at a
    omega
  have h2 : val 18446744073709551616 R = S 18446744073709551616 (D R) (i + (n + 1)) := by
    unfold val
    exact S_more (by omega) (fun x hx _ => digit_zero (by omega) hR h1 (by omega))
  rw [h2, S_split]
  refine ⟨rfl, ?_⟩
  rw [h2, S_split, Int.pow_succ] at hlt
  have h3 := S_of_bound (b := 18446744073709551616) (by omega) hR i
  have h4 := pow_pos' (b := 18446744073709551616) (by omega) i
  generalize S 18446744073709551616 (fun x => D R (i + x)) (n + 1) = T at *
  generalize S 18446744073709551616 (D R) i = U at *
  generalize (18446744073709551616 : Int) ^ i = P at *
  rcases (show T < V * 18446744073709551616 ∨ V * 18446744073709551616 ≤ T by omega) with h | h
  · exact h
  · have := Int.mul_le_mul_of_nonneg_left h (Int.le_of_lt h4)
    have e : P * (V * 18446744073709551616) = V * (P * 18446744073709551616) := by grind
    omega
theorem div_round {C R R' : List Int} {V V0 t : Int} {n i : Nat} (hC : i < C.length) (hR : Lim 18446744073709551616 R) (hR' : Lim 18446744073709551616 R') (hRl : R'.length = R.length) (hi : i + n + 1 ≤ R.length) (hV : V < 18446744073709551616 ^ n) (hlt : val 18446744073709551616 R < V * 18446744073709551616 ^ (i + 1))
    (he : V0 = val 18446744073709551616 (C.drop (i + 1)) * 18446744073709551616 ^ (i + 1) * V + val 18446744073709551616 R)
    (ho : ∀ x, (x < i ∨ i + (n + 1) ≤ x) → D R' x = D R x)
    (hs : S 18446744073709551616 (fun x => D R (i + x)) (n + 1) = t * V + S 18446744073709551616 (fun x => D R' (i + x)) (n + 1) ∧ S 18446744073709551616 (fun x => D R' (i + x)) (n + 1) < V) :
    V0 = val 18446744073709551616 ((C.set i t).drop i) * 18446744073709551616 ^ i * V + val 18446744073709551616 R' ∧ val 18446744073709551616 R' < V * 18446744073709551616 ^ i := by
  obtain ⟨h1, _⟩ := div_seg hR hi hV hlt
  have hp := pow_pos' (b := 18446744073709551616) (by omega) (i + 1)
  have h0 : val 18446744073709551616 R < 18446744073709551616 ^ (i + n + 1) := by
    have a := Int.mul_le_mul_of_nonneg_right (Int.le_of_lt hV) (Int.le_of_lt hp)
    rw [← Int.pow_add, show n + (i + 1) = i + n + 1 from by omega] at a
    omega
  have h2 : val 18446744073709551616 R' = S 18446744073709551616 (D R') (i + (n + 1)) := by
    unfold val
    exact S_more (by omega) (fun x hx _ => by rw [ho x (.inr (by omega))]; exact digit_zero (by omega) hR h0 (by omega))
  have h3 : S 18446744073709551616 (D R') i = S 18446744073709551616 (D R) i := S_congr fun x hx => ho x (.inl hx)
  rw [S_split, h3] at h2
  have h4 : val 18446744073709551616 ((C.set i t).drop i) = t + 18446744073709551616 * val 18446744073709551616 (C.drop (i + 1)) := by
    rw [val_drop _ _ _ (by rw [List.length_set]; exact hC), D_set _ _ hC, if_pos rfl, List.drop_set, if_pos (by omega)]
  have h5 := S_of_bound (b := 18446744073709551616) (by omega) hR i
  have h6 := pow_pos' (b := 18446744073709551616) (by omega) i
  rw [h4, h2]
  rw [h1, Int.pow_succ] at he
  obtain ⟨e1, e2⟩ := hs
  generalize S 18446744073709551616 (fun x => D R (i + x)) (n + 1) = T at *
  generalize S 18446744073709551616 (fun x => D R' (i + x)) (n + 1) = T' at *
  generalize S 18446744073709551616 (D R) i = U at *
  generalize (18446744073709551616 : Int) ^ i = P at *
  generalize val 18446744073709551616 (C.drop (i + 1)) = Q at *
  constructor
  · rw [he, e1]; grind
  · have := Int.mul_le_mul_of_nonneg_left (show T' + 1 ≤ V by omega) (Int.le_of_lt h6)
    have e : P * (T' + 1) = P * T' + P := by grind
    have e3 : P * V = V * P := Int.mul_comm _ _
    omega

/-- the division's end, in plain numbers -/
theorem div_end {vl vm q R P : Int} (hP : 0 < P) (h : vl * P = q * (vm * P) + R) (hR0 : 0 ≤ R) (hR : R < vm * P) : vl = q * vm + R / P ∧ R / P < vm := by
  have e : R = (vl - q * vm) * P := by
    have : (vl - q * vm) * P = vl * P - q * (vm * P) := by grind
    omega
  have h2 : R / P = vl - q * vm := by rw [e]; exact Int.mul_ediv_cancel _ (Int.ne_of_gt hP)
  refine ⟨by omega, ?_⟩
  exact (Int.ediv_lt_iff_lt_mul hP).2 hR

/-- a slice that begins a block, without the noughts at its end -/
theorem trim_pre {l : List Int} {g K n : Nat} {w0 w : World} (hn : l.length = n) (h : Pre w g K l) (hl : Lim 18446744073709551616 l) (hg : w0.heap.size ≤ g) (h1 : n ≤ K) (h2 : K ≤ maxLen) (hb : Below w0.heap.size w0 w) :
    Calls Tryd.prog 72 #[.slice (some ⟨g, 0, none⟩) n K] w fun e w' => (Made (val 18446744073709551616 l) w0) e w' ∧ w = w' := by
  subst hn
  have hown := h.own hg h1 h2
  refine (trim_any _ K l w w.heap.size hown.nums hl).mono ?_
  rintro e w' ⟨A', c', rfl, ht, rfl⟩
  exact ⟨⟨norm l, A', c', rfl, norm_lim hl, norm_normal l, norm_val _ l, ht.own hown, hb⟩, rfl⟩

/-- at the cut: what is left to be divided, one limb longer -/
def DivCut (l m d : List Int) (A3 : Option Addr) (c3 : Nat) (V0 : Int) (w0 : World) (s8 : Value) (w : World) : Prop :=
  ∃ (R : List Int) (g K : Nat), s8 = .slice (some ⟨g, 0, none⟩) (l.length + 1) K ∧ Hid (R.length = l.length + 1) ∧ Lim 18446744073709551616 R ∧ Hid (val 18446744073709551616 R = V0) ∧ Pre w g K R ∧ w0.heap.size + 1 ≤ g ∧
    Row w w0.heap.size (List.replicate (l.length - m.length + 1) 0) ∧ Nums w w.heap.size A3 c3 d ∧ (∀ ad, A3 = some ad → ad.block ≠ g ∧ w0.heap.size < ad.block) ∧ Below w0.heap.size w0 w ∧ l.length + 1 ≤ K ∧ K ≤ maxLen

theorem takemost_n (n K : Nat) (C0 : List Int) (g o cc : Nat) (A2 : Option Addr) (c2 : Nat) (m : List Int) (w : World) (hn : m.length = n) (hr0 : Pre w g K C0) (hC0 : Lim 18446744073709551616 C0) (ho : o + n + 1 ≤ C0.length) (hcc : n + 1 ≤ cc) (hco : C0.length ≤ 4000000)
    (h2 : Nums w w.heap.size A2 c2 m) (hne : ∀ ad, A2 = some ad → ad.block ≠ g) (hl2 : Lim 18446744073709551616 m) (hm2 : 2 ≤ n) (htop : 1 ≤ D m (n - 1))
    (hlt : S 18446744073709551616 (fun i => D C0 (o + i)) (n + 1) < val 18446744073709551616 m * 18446744073709551616) :
    Calls Tryd.prog 82 #[.slice (some ⟨g, o, none⟩) (n + 1) cc, .slice A2 m.length c2] w (MostPost K C0 m o g w) := by
  subst hn
  exact takemost_any K C0 g o cc A2 c2 m w hr0 hC0 ho hcc hco h2 hne hl2 hm2 htop hlt

set_option maxRecDepth 100000 in
set_option maxHeartbeats 8000000 in
theorem divided_more (A : Option Addr) (c : Nat) (l : List Int) (A2 : Option Addr) (c2 : Nat) (m : List Int) (w : World) (h : Nums w w.heap.size A c l) (hl : Lim 18446744073709551616 l) (nl : Normal l)
    (h2 : Nums w w.heap.size A2 c2 m) (hl2 : Lim 18446744073709551616 m) (nm : Normal m) (hb1 : l.length ≤ 900000) (hm2 : 2 ≤ m.length) (hle : m.length ≤ l.length) :
    Calls Tryd.prog 60 #[.slice A l.length c, .slice A2 m.length c2] w (Two (val 18446744073709551616 l) (val 18446744073709551616 m) w) := by
  have hk : m.length - 1 < m.length := by omega
  obtain ⟨ad, rfl, hadb, c1⟩ := h2.at_ hk
  have hx := D_lim (b := 18446744073709551616) (by omega) hl2 (m.length - 1)
  have hx0 : D m (m.length - 1) ≠ 0 := by
    rcases nm with h1 | h1
    · rw [h1] at hm2; simp at hm2
    · exact h1
  obtain ⟨t1, t2, t3, t4⟩ := top_bits (D m (m.length - 1)) (by omega) hx.2
  have hbits := isBits_of_top hl2 (by omega) t1 t3 t4
  obtain ⟨t, ht⟩ : ∃ t, Lib.bitLen (D m (m.length - 1)).toNat = t := ⟨_, rfl⟩
  have hlz := fun W => Tryd.bits_LeadingZeros64 (D m (m.length - 1)) W hx.1 (by omega)
  rw [ht] at hbits t1 t2 hlz
  obtain ⟨s, hs⟩ : ∃ s, s = 64 - t := ⟨_, rfl⟩
  have hlz' : ∀ W, Calls Tryd.prog 81 #[.int .u64 (D m (m.length - 1))] W fun e w' => e = .returned (.int .i64 s) ∧ W = w' := fun W => (hlz W).mono fun e w' ⟨a, b⟩ => ⟨by rw [a]; exact ret_int (by omega), b.symm⟩
  have HZ := Lib.hid hlz'
  have hs64 : s < 64 := by omega
  have hp := two_pos s
  -- the divisor, shifted: as many limbs
  have hVlt : val 18446744073709551616 m * 2 ^ s < 18446744073709551616 ^ m.length := by
    have a := Int.mul_lt_mul_of_pos_right hbits.2.1 hp
    rw [← Int.pow_add, show 64 * (m.length - 1) + t + s = 64 * m.length from by omega] at a
    rw [pow64]; exact a
  have hvm := normal_ge (b := 18446744073709551616) (by omega) hl2 nm (fun e => by subst e; simp at hm2)
  have hPm := pow_pos' (b := 18446744073709551616) (by omega) (m.length - 1)
  have hVge : 18446744073709551616 ^ (m.length - 1) ≤ val 18446744073709551616 m * 2 ^ s := by
    have := Int.mul_le_mul_of_nonneg_left (show 1 ≤ (2 : Int) ^ s by omega) (show 0 ≤ val 18446744073709551616 m by omega)
    omega
  have hdlen : ∀ d, Lim 18446744073709551616 d → Normal d → val 18446744073709551616 d = val 18446744073709551616 m * 2 ^ s → d.length = m.length := by
    intro d hd nd hv
    have a := length_le_of_lt (b := 18446744073709551616) (k := m.length) (by omega) hd nd (by rw [hv]; exact hVlt)
    have b := lt_length_of_ge (b := 18446744073709551616) (k := m.length - 1) (by omega) hd (by rw [hv]; exact hVge)
    omega
  -- what is divided, shifted: as many limbs, or one more
  have hlb := val_bound (b := 18446744073709551616) (by omega) hl
  have hp64 : (2 : Int) ^ s ≤ 18446744073709551616 := by
    have := pow_le' (b := 2) (by omega) (show s ≤ 64 by omega)
    have e : (2 : Int) ^ 64 = 18446744073709551616 := by decide
    omega
  have hRlen : ∀ r, Lim 18446744073709551616 r → Normal r → val 18446744073709551616 r = val 18446744073709551616 l * 2 ^ s → r.length = l.length ∨ r.length = l.length + 1 := by
    intro r hr nr hv
    have a := length_le_of_lt (b := 18446744073709551616) (k := l.length + 1) (by omega) hr nr (by
      rw [hv, Int.pow_succ]
      have a1 := Int.mul_lt_mul_of_pos_right hlb.2 hp
      have a2 := Int.mul_le_mul_of_nonneg_left hp64 (show 0 ≤ (18446744073709551616 : Int) ^ l.length by omega)
      omega)
    have b := lt_length_of_ge (b := 18446744073709551616) (k := l.length - 1) (by omega) hr (by
      rw [hv]
      have a1 := normal_ge (b := 18446744073709551616) (by omega) hl nl (List.length_pos_iff.1 (by omega))
      have a2 := Int.mul_le_mul_of_nonneg_left (show 1 ≤ (2 : Int) ^ s by omega) hlb.1
      omega)
    omega
  have hV0 : val 18446744073709551616 l * 2 ^ s < val 18446744073709551616 m * 2 ^ s * 18446744073709551616 ^ (l.length - m.length + 1) := by
    have a1 := Int.mul_lt_mul_of_pos_right hlb.2 hp
    have a2 := Int.mul_le_mul_of_nonneg_right hvm (Int.le_of_lt (pow_pos' (b := 18446744073709551616) (by omega) (l.length - m.length + 1)))
    rw [← Int.pow_add, show m.length - 1 + (l.length - m.length + 1) = l.length from by omega] at a2
    have a3 := Int.mul_le_mul_of_nonneg_right a2 (Int.le_of_lt hp)
    have e : val 18446744073709551616 m * 18446744073709551616 ^ (l.length - m.length + 1) * 2 ^ s = val 18446744073709551616 m * 2 ^ s * 18446744073709551616 ^ (l.length - m.length + 1) := by
      generalize val 18446744073709551616 m = x
      generalize (2 : Int) ^ s = y
      generalize (18446744073709551616 : Int) ^ (l.length - m.length + 1) = z
      grind
    omega
  have c1' := fun o => (h2.alloc (Nat.le_refl _) o).at_some hk
  have hA : ∀ o, Nums (w.alloc o) (w.alloc o).heap.size A c l := fun o => (h.alloc (Nat.le_refl _) o).more (by simp)
  have hA2 : ∀ o, Nums (w.alloc o) (w.alloc o).heap.size (some ad) c2 m := fun o => (h2.alloc (Nat.le_refl _) o).more (by simp)
  have HA := Lib.hid hA
  have HA2 := Lib.hid hA2
  clear c1 hA hA2
  have HD := Lib.hid hdlen
  have HR := Lib.hid hRlen
  have HV0 := Lib.hid hV0
  have HVlt := Lib.hid hVlt
  obtain ⟨nq, hnq⟩ : ∃ nq, l.length - m.length + 1 = nq := ⟨_, rfl⟩
  have hnqi : (l.length : Int) - m.length + 1 = nq := by omega
  have hmk := fun W => run_make nq (by omega) W
  have hm1 : ((m.length : Int) == 1) = false := beq_eq_false_iff_ne.2 (by omega)
  have hlm : decide (l.length < m.length) = false := decide_eq_false (by omega)
  have hmi : (1 : Int) ≤ m.length := by omega
  have HN := Lib.hid hnq
  clear hlz hlz' ht hx0 hx hVlt hvm hPm hVge hdlen hlb hp64 hRlen hV0 hnq hbits t3 t4 hs t1 t2
  go_enter Tryd.func60, Tryd.ntmps60
  go_upto_if 52 with (first
    | (go_at_call 81; ((with_reducible refine (HZ.out _).mono ?_); rintro e w' ⟨rfl, rfl⟩))
    | (go_at_call 63; ((with_reducible refine (shiftedUp_any A c l s _ (HA.out _) hl (by omega) (by omega) (by omega)).mono ?_); rintro e w1 ⟨r1, A1, c1', rfl, hr1, hr2, hr3, hr4, hr5⟩; have HR3 := Lib.hid hr3; clear hr3))
    | (go_at_call 63; ((with_reducible refine (shiftedUp_any (some ad) c2 m s _ ((HA2.out _).on hr5 (Nat.le_refl _)) hl2 (by omega) (by omega) (by omega)).mono ?_); rintro e w2 ⟨d, A3, c3, rfl, hd1, hd2, hd3, hd4, hd5⟩; have HD3 := Lib.hid hd3; clear hd3)))
  have hdl := HD.out d hd1 hd2 HD3.out
  have hrl := HR.out r1 hr1 hr2 HR3.out
  have HDL := Lib.hid hdl
  have hz1 := hr5.size
  have hz2 := hd5.size
  have hz0 : ∀ o, (w.alloc o).heap.size = w.heap.size + 1 := fun o => by simp
  rw [hz0] at hz1
  obtain ⟨g1, rfl, hg1, hg2⟩ := hr4.form (by omega)
  rw [hz0] at hg1
  obtain ⟨g3, rfl, hg3, hg4⟩ := hd4.form (by omega)
  clear hdl
  go_cut [8] (fun s8 wx => DivCut l m d (some ⟨g3, 0, none⟩) c3 (val 18446744073709551616 l * 2 ^ s) w s8 wx)
  case first =>
    have hrow0 : Row w2 w.heap.size (List.replicate (l.length - m.length + 1) 0) := by
      rw [HN.out]
      exact ((Row.new w (List.replicate nq 0)).below hr5 (by rw [hz0]; omega)).below hd5 (by omega)
    have hdn : Nums w2 w2.heap.size (some ⟨g3, 0, none⟩) c3 d := hd4.nums
    have hbel : Below w.heap.size w w2 := (((Below.refl _ w).alloc (Nat.le_refl _) _).trans (hr5.mono (by rw [hz0]; omega))).trans (hd5.mono (by omega))
    have hr1o := hr4.below hd5
    rcases hrl with hrl | hrl
    · have ht : ((r1.length : Int) == (l.length : Int)) = true := by simp; omega
      have hsrc := (Row.one w2 0).nums (B := w2.heap.size + 1) (c := 1) 0 1 (by simp) (by omega) (by unfold maxLen; omega) (by omega)
      simp only [List.drop_zero, List.take_succ_cons, List.take_zero] at hsrc
      have hlen : (r1 ++ [0]).length = l.length + 1 := by simp; omega
      have hval : val 18446744073709551616 (r1 ++ [0]) = val 18446744073709551616 l * 2 ^ s := by rw [val_append, val_cons, val_nil, HR3.out]; simp
      have HL := Lib.hid hlen
      have HVL := Lib.hid hval
      clear hlen hval
      go_wp2_with (at_builtin; refine wpList_app _ rfl _ _ rfl _ _ _ r1 rfl (hr1o.alloc_ _) _ (some ⟨w2.heap.size, 0, none⟩) 1 [0] rfl hsrc (by simp; omega) (by rw [hz0]; simp; omega) ?_; intro A4 c4 w4 hown hg hat)
      obtain ⟨g, rfl, hgg1, hgg2⟩ := hown.form (by simp)
      have hgc : g = g1 ∨ g = w2.heap.size + 1 := by simpa [Value.ownBlock] using hat
      obtain ⟨hpre, _, hk1, hk2⟩ := hown.pre
      have hsz4 := hg.size
      have hz4 : (w2.alloc (.cells #[Value.int .u64 0] 39)).heap.size = w2.heap.size + 1 := by simp
      rw [hz4] at hsz4
      have hd4' : Nums w4 w4.heap.size (some ⟨g3, 0, none⟩) c3 d := by
        refine ⟨hdn.1, hdn.2.1, fun hn => ⟨_, rfl, by show g3 < _; omega, fun j hj => ?_⟩⟩
        rw [World.cell?_of_block (hg.block ((⟨g3, 0, none⟩ : Addr).add j).block (by rw [add_block, hz4]; show g3 < _; omega) (by rw [add_block]; simp [Value.ownBlock]; omega))]
        exact ((hdn.alloc (Nat.le_refl _) _).at_some hj)
      have hrow4 : Row w4 w.heap.size (List.replicate (l.length - m.length + 1) 0) := (hrow0.alloc _).grown hg (by simp [Value.ownBlock]; omega)
      have hb4 : Below w.heap.size w w4 := (hbel.alloc (by omega) _).grown hg (by rw [hz4]; omega) (fun j hj => by simp [Value.ownBlock] at hj; omega)
      have hlim : Lim 18446744073709551616 (r1 ++ [0]) := hr1.append (fun x hx => by simp at hx; omega)
      rw [HL.out] at hk1
      clear hat
      go_wp2_with fail
      go_meet
      exact ⟨r1 ++ [0], g, c4, by first | rfl | rw [HL.out], HL, hlim, HVL, hpre, by omega, hrow4, hd4', fun a ha => by injection ha with ha; subst ha; exact ⟨by show g3 ≠ g; omega, by show w.heap.size < g3; omega⟩, hb4, hk1, hk2⟩
    · have ht : ((r1.length : Int) == (l.length : Int)) = false := beq_eq_false_iff_ne.2 (by omega)
      obtain ⟨hpre, _, hk1, hk2⟩ := hr1o.pre
      rw [hrl] at hk1
      have HL : Hid (r1.length = l.length + 1) := hrl
      go_wp2_with fail
      go_meet
      exact ⟨r1, g1, c1', by first | rfl | rw [HL.out], HL, hr1, HR3, hpre, hg1, hrow0, hdn, fun a ha => by injection ha with ha; subst ha; exact ⟨by show g3 ≠ g1; omega, by show w.heap.size < g3; omega⟩, hbel, hk1, hk2⟩
  case rest =>
    obtain ⟨R, g, K, rfl, HRl, hRl, HRv, hpre, hgg, hrow, hdn, hne, hbel, hk1, hk2⟩ := hcut
    have hKi : (l.length : Int) + 1 ≤ K := by omega
    have hK63 : K ≤ 9223372036854775807 := by unfold maxLen at hk2; omega
    have hnqm : nq + m.length = l.length + 1 := by have := HN.out; omega
    have HDv : Hid (val 18446744073709551616 d < 18446744073709551616 ^ m.length) := by show _ < _; rw [HD3.out]; exact HVlt.out
    have hdtop : 1 ≤ D d (m.length - 1) := by
      have hx := D_lim (b := 18446744073709551616) (by omega) hd1 (m.length - 1)
      rcases hd2 with h1 | h1
      · have h9 := HDL.out; rw [h1] at h9; simp at h9; omega
      · rw [HDL.out] at h1; omega
    rw [HN.out] at hrow
    go_wp2_with fail
    go_loopw [58] (fun i wr => ∃ (k : Nat) (C R : List Int), k ≤ nq ∧ i = .int .i64 k ∧ Hid (C.length = nq) ∧ Lim 18446744073709551616 C ∧ Hid (R.length = l.length + 1) ∧ Lim 18446744073709551616 R ∧
        Row wr w.heap.size C ∧ Pre wr g K R ∧ Nums wr wr.heap.size (some ⟨g3, 0, none⟩) c3 d ∧ Below w.heap.size w wr ∧
        Hid (val 18446744073709551616 l * 2 ^ s = val 18446744073709551616 (C.drop (nq - k)) * 18446744073709551616 ^ (nq - k) * val 18446744073709551616 d + val 18446744073709551616 R ∧ val 18446744073709551616 R < val 18446744073709551616 d * 18446744073709551616 ^ (nq - k)))
      (fun i _ => nq - (intOf i).toNat)
    case atStart =>
      refine ⟨0, List.replicate nq 0, R, by omega, rfl, by show _ = _; simp, Lim.zeros (by omega) _, HRl, hRl, hrow, hpre, hdn, hbel, ?_, ?_⟩
      · rw [Nat.sub_zero, List.drop_of_length_le (by simp), val_nil, HRv.out]; simp
      · rw [Nat.sub_zero, HRv.out, HD3.out, ← HN.out]; exact HV0.out
    case round =>
      obtain ⟨k, C, R, hk, rfl, HC, hCl, HRl', hRl', hrow', hpre', hdn', hbel', HE⟩ := hrel
      have hgq := hrow'.lt
      by_cases hkn : k < nq
      · obtain ⟨i, hi⟩ : ∃ i, nq - 1 - k = i := ⟨_, rfl⟩
        have hii : (nq : Int) - 1 - k = i := by omega
        have e1 : nq - k = i + 1 := by omega
        have e2 : nq - (k + 1) = i := by omega
        have hi1 : i < nq := by omega
        have hE := HE.out
        rw [e1] at hE
        obtain ⟨hE1, hE2⟩ := hE
        have hseg := (div_seg (n := m.length) (i := i) hRl' (by rw [HRl'.out]; omega) HDv.out hE2).2
        have hsl := fun W => run_cut g 0 (l.length + 1) K i (m.length + 1) ((i : Int) + m.length + 1) (by omega) (by omega) (by omega) W
        simp only [Nat.zero_add] at hsl
        have HTM := fun hcap => takemost_n m.length K R g i (K - i) (some ⟨g3, 0, none⟩) c3 d wr HDL.out hpre' hRl' (by rw [HRl'.out]; omega) hcap (by rw [HRl'.out]; omega) hdn' (fun a ha => (hne a ha).1) hd1 hm2 hdtop hseg
        have HT := Lib.hid (HTM (by omega))
        have E1 := Lib.hid hE1
        have E2 := Lib.hid hE2
        have E3 := Lib.hid e2
        have i0 : (0 : Int) ≤ i := by omega
        have i1 : (i : Int) < nq := by omega
        have HC2 := HC.out
        have c0 : i < C.length := by omega
        clear hi e1 e2 hE1 hE2 hseg HTM HC2
        go_wp2_with (go_at_call 82; ((with_reducible refine HT.out.mono ?_); rintro e w5 ⟨R', t, rfl, t0, t1, hR'1, hR'2, hR'3, hR'4, hR'5, hR'6⟩; have HR1 := Lib.hid hR'1; clear hR'1; have hrow5 := hrow'.grown hR'4 (by simp; omega); have cq := hrow5.cell (k := i) c0; have fq := hrow5.frozen i))
        go_roundw
        case rel =>
          have h5 := hR'5.out
          have h6 := hR'6.out
          rw [HDL.out] at h5 h6
          have hr2 := div_round (n := m.length) (i := i) c0 hRl' hR'2 HR1.out (by rw [HRl'.out]; omega) HDv.out E2.out E1.out h5 h6
          have hs5 := hR'4.size
          have hg3r : g3 < wr.heap.size := by
            obtain ⟨ad', e, hb⟩ := hdn'.some_ (by have := HDL.out; omega)
            injection e with e; subst e; exact hb
          refine ⟨k + 1, C.set i t, R', by omega, by go_num, by show _ = _; rw [List.length_set, HC.out], hCl.set i t0 t1, by show _ = _; rw [HR1.out, HRl'.out], hR'2, hrow5.set_ i t, hR'3.far (by simp; omega) _, ?_, ?_, ?_⟩
          · refine ⟨hdn'.1, hdn'.2.1, fun hn => ⟨_, rfl, by have := (hne _ rfl).2; simp; show g3 < _; omega, fun j hj => ?_⟩⟩
            rw [World.cell?_setCell_other _ _ _ _ (fun e => by have := (hne _ rfl).2; rw [add_at] at e; injection e with e; simp at this; omega)]
            rw [World.cell?_of_block (hR'4.block ((⟨g3, 0, none⟩ : Addr).add j).block (by rw [add_block]; show g3 < _; omega) (by rw [add_block]; have := (hne _ rfl).1; intro e; injection e with e; exact this e))]
            exact hdn'.at_some hj
          · exact (below_of_only hbel' hR'4 hbel'.size (by omega)).setCell (p := ⟨w.heap.size, i, none⟩) (Nat.le_refl _) _
          · show _ ∧ _
            rw [E3.out]; exact hr2
        case measure => simp [intOf]; omega
      · obtain rfl : k = nq := by omega
        have hE := HE.out
        rw [Nat.sub_self, List.drop_zero, Int.pow_zero, Int.mul_one, Int.mul_one] at hE
        have hend := div_end (vl := val 18446744073709551616 l) (vm := val 18446744073709551616 m) (P := 2 ^ s) hp (by rw [← HD3.out]; exact hE.1) (val_bound (b := 18446744073709551616) (by omega) hRl').1 (by rw [← HD3.out]; exact hE.2)
        have HEND := Lib.hid hend
        have hRb := (val_bound (b := 18446744073709551616) (by omega) hRl').2
        rw [HRl'.out] at hRb
        have hvlen : ∀ v, Lim 18446744073709551616 v → Normal v → val 18446744073709551616 v = val 18446744073709551616 R → v.length ≤ 1000000 := fun v h1 h2 h3 => by
          have := length_le_of_lt (b := 18446744073709551616) (k := l.length + 1) (by omega) h1 h2 (by rw [h3]; exact hRb)
          omega
        have HVL := Lib.hid hvlen
        have hpc := hrow'.pre
        rw [HC.out] at hpc
        have HT1 := Lib.hid (trim_pre HC.out hpc hCl (Nat.le_refl _) (Nat.le_refl _) (by unfold maxLen; omega) hbel')
        have HT2 := Lib.hid (trim_pre HRl'.out hpre' hRl' (by omega) hk1 hk2 hbel')
        have hsz := hbel'.size
        clear hE hend hRb hvlen
        go_wp2_with (first
          | (go_at_call 72; ((with_reducible refine HT1.out.mono ?_); rintro e w6 ⟨⟨q, A6, c6, rfl, hq1, hq2, hq3, hq4, hq5⟩, rfl⟩; have HQ3 := Lib.hid hq3; clear hq3))
          | (go_at_call 72; ((with_reducible refine HT2.out.mono ?_); rintro e w7 ⟨⟨v, A7, c7, rfl, hv1, hv2, hv3, hv4, hv5⟩, rfl⟩; have hvl := HVL.out v hv1 hv2 hv3; have HV3 := Lib.hid hv3; clear hv3))
          | (go_at_call 64; ((with_reducible refine (shiftedDown_any A7 c7 v s _ hv4.nums hv1 hvl (by omega)).mono ?_); rintro e w8 ⟨r, A8, c8, rfl, hx1, hx2, hx3, hx4, hx5⟩; have HX3 := Lib.hid hx3; clear hx3)))
        go_ret2
        refine ⟨q, r, A6, c6, A8, c8, rfl, hq1, hx1, hq2, hx2, ?_, hq4.below hx5, hx4.less hsz, hbel'.trans (hx5.mono hsz)⟩
        show _ ∧ _
        rw [HX3.out, HV3.out, HQ3.out]
        exact HEND.out
end Go.Proofs.YtigphbjgodfhpaaDoor
