/-
  Layer 2, walks, part sixteen: a product of one limb taken off; given back.
-/
import Derived.Test.YtigphbjgodfhpaaDoorNatQ
namespace Go.Proofs.YtigphbjgodfhpaaDoor
open Go.RowKit
set_option linter.unusedVariables false

/-- the block g, of K cells, begins with the numbers of l -/
def Pre (w : World) (g K : Nat) (l : List Int) : Prop := ∃ cur : Array Value, w.heap[g]? = some (.cells cur 39 (0, 0)) ∧ cur.size = K ∧ cur.toList.take l.length = L l
section
variable {w w' : World} {g K B : Nat} {l : List Int}
theorem Row.pre (h : Row w g l) : Pre w g l.length l := ⟨_, h, by simp [L], by rw [List.take_of_length_le (by simp [L])]⟩
theorem Pre.lt (h : Pre w g K l) : g < w.heap.size := by obtain ⟨cur, h, _⟩ := h; exact lt_of_block h
theorem Pre.cell (h : Pre w g K l) {k : Nat} (hk : k < l.length) : w.cell? ⟨g, k, none⟩ = some (.int .u64 (D l k)) := by
  obtain ⟨cur, h1, h2, h3⟩ := h
  rw [cell_of_row w g k _ _ (0, 0) h1, ← L_get hk, ← h3, List.getElem?_take, if_pos hk]
  simp
theorem Pre.frozen (h : Pre w g K l) (k : Nat) : w.frozen? ⟨g, k, none⟩ = false := by
  obtain ⟨cur, h1, h2, h3⟩ := h
  simp [World.frozen?, h1]
theorem Pre.drew (h : Pre w g K l) : Pre w.drew g K l := h
theorem Pre.drewN (h : Pre w g K l) (n : Nat) : Pre (w.drewN n) g K l := h
theorem Pre.alloc (h : Pre w g K l) (o : Obj) : Pre (w.alloc o) g K l := by
  have hl := h.lt
  obtain ⟨cur, h1, h2⟩ := h
  exact ⟨cur, (Below.heap_alloc w o g hl).trans h1, h2⟩
theorem Pre.set_ (h : Pre w g K l) (k : Nat) (v : Int) : Pre (w.setCell ⟨g, k, none⟩ (.int .u64 v)) g K (l.set k v) := by
  obtain ⟨cur, h1, h2, h3⟩ := h
  refine ⟨cur.setIfInBounds k (.int .u64 v), ?_, by simpa using h2, ?_⟩
  · simp [World.setCell, Array.getElem?_modify, h1]
  · rw [List.length_set, Array.toList_setIfInBounds, List.take_set, h3]
    simp [L, List.map_set]
theorem Pre.far (h : Pre w g K l) {p : Addr} (hp : g ≠ p.block) (u : Value) : Pre (w.setCell p u) g K l := by
  obtain ⟨cur, h1, h2⟩ := h
  exact ⟨cur, (Below.heap_setCell w p u g hp).trans h1, h2⟩
theorem Pre.below (h : Pre w g K l) (hb : Below B w w') (hg : g < B) : Pre w' g K l := by
  obtain ⟨cur, h1, h2⟩ := h
  exact ⟨cur, (hb.block g hg).trans h1, h2⟩
theorem Pre.grown (h : Pre w g K l) {row : Option Nat} (hb : w.grownBy w' row) (hg : some g ≠ row) : Pre w' g K l := by
  have hl := h.lt
  obtain ⟨cur, h1, h2⟩ := h
  exact ⟨cur, (hb.block g hl hg).trans h1, h2⟩
theorem Own.pre {c : Nat} (h : Own w B (some ⟨g, 0, none⟩) c l) : Pre w g c l ∧ B ≤ g ∧ l.length ≤ c ∧ c ≤ maxLen := by
  rcases h.2 with ⟨h1, h2⟩ | ⟨g', cap, cur, hv, hg, hh, h3, h4, h5, h6⟩
  · cases h1
  · injection hv with hA hn hc
    injection hA with hA
    injection hA with hA
    subst hA; subst hc
    exact ⟨⟨cur, hh, by omega, by rw [Nat.mul_one] at h6; exact h6⟩, hg, h3, h4⟩
theorem Pre.own (h : Pre w g K l) (hB : B ≤ g) (h1 : l.length ≤ K) (h2 : K ≤ maxLen) : Own w B (some ⟨g, 0, none⟩) K l := by
  obtain ⟨cur, h3, h4, h5⟩ := h
  exact ⟨by rw [L_length]; omega, .inr ⟨g, K, cur, rfl, hB, h3, h1, h2, by omega, by rw [Nat.mul_one]; exact h5⟩⟩
end

/-- a step of a product that is taken off -/
def TakeStep (x y f c : Int) (b : Nat) (w : World) (e : Ending) (w' : World) : Prop :=
  ∃ z d : Int, e = .returned (.int .u64 z) ∧ 0 ≤ z ∧ z < 18446744073709551616 ∧ 0 ≤ d ∧ d < 18446744073709551616 ∧ Hid (x - (y * f + c) = z - d * 18446744073709551616) ∧ w.setCell ⟨b, 0, none⟩ (.int .u64 d) = w'

set_option maxHeartbeats 1000000 in
theorem takestep_any (x y f c : Int) (a b : Nat) (w : World) (ha : Row w a [f]) (h : Row w b [c]) (hx : 0 ≤ x) (hx1 : x < 18446744073709551616) (hy : 0 ≤ y) (hy1 : y < 18446744073709551616)
    (hf : 0 ≤ f) (hf1 : f < 18446744073709551616) (hc : 0 ≤ c) (hc1 : c < 18446744073709551616) :
    Calls Tryd.prog 99 #[.int .u64 x, .int .u64 y, .pointer (some ⟨a, 0, none⟩), .pointer (some ⟨b, 0, none⟩)] w (TakeStep x y f c b w) := by
  have h0 := h.cell (k := 0) (by simp)
  have a0 := ha.cell (k := 0) (by simp)
  have hfz := h.frozen 0
  simp only [D_cons_zero] at h0 a0
  obtain ⟨hi, lo, m0, m1, m2, m3, me, HM⟩ := mul_ex y f hy hy1 hf hf1
  obtain ⟨z1, o1, z10, z11, o10, o11, e1, r1⟩ := run_add lo c 0 w m2 m3 hc hc1 (by omega) (by omega)
  obtain ⟨z2, o2, z20, z21, o20, o21, e2, r2⟩ := run_sub x z1 0 w hx hx1 z10 z11 (by omega) (by omega)
  have hb : y * f ≤ 18446744073709551615 * 18446744073709551615 := Int.mul_le_mul (by omega) (by omega) (by omega) (by omega)
  have hbd : hi + o1 + o2 ≤ 18446744073709551615 := by omega
  have HE : Hid (x - (y * f + c) = z2 - (hi + o1 + o2) * 18446744073709551616) := by show _ = _; omega
  clear me e1 e2 hb
  go_enter Tryd.func99, Tryd.ntmps99
  go_wp2_with (go_at_call 90; ((with_reducible refine (HM _).mono ?_); rintro e w' ⟨rfl, rfl⟩))
  go_ret
  exact ⟨z2, hi + o1 + o2, rfl, z20, z21, by omega, by omega, HE, rfl⟩

/-- the round of a product that is taken off -/
def TakeInv (K : Nat) (C0 m : List Int) (f : Int) (o g : Nat) (w0 : World) (k : Nat) (w : World) : Prop :=
  ∃ (C : List Int) (d : Int), C.length = C0.length ∧ Lim 18446744073709551616 C ∧ 0 ≤ d ∧ d < 18446744073709551616 ∧ Pre w g K C ∧ Row w w0.heap.size [f] ∧ Row w (w0.heap.size + 1) [d] ∧ w0.grownBy w (some g) ∧
    (∀ i, (i < o ∨ o + k ≤ i) → D C i = D C0 i) ∧
    S 18446744073709551616 (fun i => D C (o + i)) k - d * 18446744073709551616 ^ k = S 18446744073709551616 (fun i => D C0 (o + i)) k - S 18446744073709551616 (D m) k * f
theorem takeinv_step {K : Nat} {C0 m C : List Int} {f d z d' : Int} {o g k : Nat} {w0 w : World} (hC : C.length = C0.length) (hCl : Lim 18446744073709551616 C) (hr : Pre w g K C) (ha : Row w w0.heap.size [f]) (hc : Row w (w0.heap.size + 1) [d]) (hg : w0.grownBy w (some g))
    (ho : ∀ i, (i < o ∨ o + k ≤ i) → D C i = D C0 i)
    (he : S 18446744073709551616 (fun i => D C (o + i)) k - d * 18446744073709551616 ^ k = S 18446744073709551616 (fun i => D C0 (o + i)) k - S 18446744073709551616 (D m) k * f) (hk : o + k < C0.length) (hg0 : g < w0.heap.size)
    (hz0 : 0 ≤ z) (hz1 : z < 18446744073709551616) (hd0 : 0 ≤ d') (hd1 : d' < 18446744073709551616) (he' : D C (o + k) - (D m k * f + d) = z - d' * 18446744073709551616) :
    TakeInv K C0 m f o g w0 (k + 1) ((w.setCell ⟨w0.heap.size + 1, 0, none⟩ (.int .u64 d')).setCell ⟨g, o + k, none⟩ (.int .u64 z)) := by
  refine ⟨C.set (o + k) z, d', by simp [hC], hCl.set _ hz0 hz1, hd0, hd1, (hr.far (by simp; omega) _).set_ _ z, (ha.far (by simp) _).far (by simp; omega) _, (hc.set_ 0 d').far (by simp; omega) _, only_setCell (p := ⟨g, o + k, none⟩) (only_setCell (p := ⟨w0.heap.size + 1, 0, none⟩) hg (.inr (by simp)) _) (.inl rfl) _, fun i hi => ?_, ?_⟩
  · rw [D_set z i (by omega), if_neg (by omega)]; exact ho i (by omega)
  · rw [S_succ, S_succ, S_succ, S_congr (g := fun i => D C (o + i)) (fun i hi => by rw [D_set z (o + i) (by omega), if_neg (by omega)]), D_set z (o + k) (by omega), if_pos rfl, Int.pow_succ]
    have := ho (o + k) (by omega)
    rw [this] at he'
    grind
theorem TakeInv.drew {K : Nat} {C0 m : List Int} {f : Int} {o g k : Nat} {w0 w : World} (h : TakeInv K C0 m f o g w0 k w) : TakeInv K C0 m f o g w0 k w.drew := by
  obtain ⟨C, d, h1, h2, h3, h4, h5, h6, h7, h8, h9⟩ := h
  exact ⟨C, d, h1, h2, h3, h4, h5.drew, h6.drew, h7.drew, only_drew h8, h9⟩

/-- what is left; was it too little? -/
def TakePost (K : Nat) (C0 m : List Int) (f : Int) (o g : Nat) (w0 : World) (e : Ending) (w : World) : Prop :=
  ∃ (C : List Int) (d : Bool), e = .returned (.bool d) ∧ C.length = C0.length ∧ Lim 18446744073709551616 C ∧ Pre w g K C ∧ w0.grownBy w (some g) ∧
    Hid (∀ i, (i < o ∨ o + (m.length + 1) ≤ i) → D C i = D C0 i) ∧
    Hid (S 18446744073709551616 (fun i => D C (o + i)) (m.length + 1) - (if d then 18446744073709551616 ^ (m.length + 1) else 0) = S 18446744073709551616 (fun i => D C0 (o + i)) (m.length + 1) - val 18446744073709551616 m * f)

set_option maxHeartbeats 4000000 in
theorem taketimes_any (K : Nat) (C0 : List Int) (g o cc : Nat) (A2 : Option Addr) (c2 : Nat) (m : List Int) (f : Int) (w : World) (hr0 : Pre w g K C0) (hC0 : Lim 18446744073709551616 C0) (ho : o + m.length + 1 ≤ C0.length) (hcc : m.length + 1 ≤ cc) (hco : C0.length ≤ 4000000)
    (h2 : Nums w w.heap.size A2 c2 m) (hne : ∀ ad, A2 = some ad → ad.block ≠ g) (hl2 : Lim 18446744073709551616 m) (hf : 0 ≤ f) (hf1 : f < 18446744073709551616) :
    Calls Tryd.prog 96 #[.slice (some ⟨g, o, none⟩) (m.length + 1) cc, .slice A2 m.length c2, .int .u64 f] w (TakePost K C0 m f o g w) := by
  have hg0 := hr0.lt
  have hml : m.length ≤ 4000000 := by omega
  go_enter Tryd.func96, Tryd.ntmps96
  go_wp2_with fail
  go_loopw [14] (fun i wr => ∃ k : Nat, k ≤ m.length ∧ i = .int .i64 k ∧ TakeInv K C0 m f o g w k wr) (fun i _ => m.length - (intOf i).toNat)
  case atStart =>
    refine ⟨0, by omega, rfl, C0, 0, rfl, hC0, by omega, by omega, (hr0.alloc _).alloc _, (Row.one w f).alloc _, ?_, only_alloc (only_alloc (World.grownBy.refl w _) _) _, fun _ _ => rfl, by simp [S]⟩
    have := Row.one (w.alloc (.cells #[Value.int .u64 f] 39)) 0
    simpa using this
  case round =>
    obtain ⟨k, hk, rfl, C, d, hC, hCl, hd0, hd1, hr, ha, hc, hg, hout, he⟩ := hrel
    have HC := Lib.hid hC
    have HE := Lib.hid he
    have HO := Lib.hid hout
    have hgw := hg.size
    clear hC he hout
    by_cases hkn : k < m.length
    · have hx := D_lim (b := 18446744073709551616) (by omega) hCl (o + k)
      have hy := D_lim (b := 18446744073709551616) (by omega) hl2 k
      have c0 := hr.cell (k := o + k) (by rw [HC.out]; omega)
      have f0 := hr.frozen (o + k)
      obtain ⟨ad, rfl, hadb, c1⟩ := h2.at_ hkn
      have hne' := hne ad rfl
      have c2' : wr.cell? (ad.add k) = some (.int .u64 (D m k)) := by
        rw [World.cell?_of_block (hg.block (ad.add k).block (by rw [add_block]; exact hadb) (fun e => hne' (by rw [add_block] at e; injection e)))]
        exact c1
      clear c1
      have i0 : (0 : Int) ≤ (k : Int) := by omega
      have i1 : (k : Int) < m.length := by omega
      have i2 : (k : Int) < m.length + 1 := by omega
      go_wp2_with fail
      go_region_with (go_at_call 99; ((with_reducible refine (takestep_any (D C (o + k)) (D m k) f d _ _ _ ha.drew hc.drew hx.1 hx.2 hy.1 hy.2 hf hf1 hd0 hd1).mono ?_); rintro e w' ⟨z, d', rfl, hz0, hz1, hd0', hd1', he', rfl⟩))
      all_goals
        go_wp2_with fail
        go_roundw
        case rel => exact ⟨k + 1, by omega, by go_num, (takeinv_step HC.out hCl hr ha hc hg HO.out HE.out (by omega) hg0 hz0 hz1 hd0' hd1' he'.out).drew⟩
        case measure => simp [intOf]; omega
    · obtain rfl : k = m.length := by omega
      have h0 := hc.cell (k := 0) (by simp)
      simp only [D_cons_zero] at h0
      have hx := D_lim (b := 18446744073709551616) (by omega) hCl (o + m.length)
      have c0 := hr.cell (k := o + m.length) (by rw [HC.out]; omega)
      have f0 := hr.frozen (o + m.length)
      have i1 : (m.length : Int) < m.length + 1 := by omega
      have hne2 : ¬ g = w.heap.size + 1 := by omega
      go_wp2_with fail
      go_ret
      have hw : ∃ t e : Int, IntKind.u64.wrap (D C (o + m.length) - d) = t ∧ 0 ≤ t ∧ t < 18446744073709551616 ∧ D C (o + m.length) - d = t - e * 18446744073709551616 ∧ e = if D C (o + m.length) < d then 1 else 0 := by
        refine ⟨_, _, rfl, ?_, ?_, ?_, rfl⟩ <;> rw [IntKind.wrap_u64] <;> (try split) <;> omega
      obtain ⟨t, e, ht, t0, t1, te, hee⟩ := hw
      refine ⟨C.set (o + m.length) t, decide (D C (o + m.length) < d), rfl, by rw [List.length_set, HC.out], hCl.set _ t0 t1, by rw [ht]; exact hr.set_ _ t, only_setCell (p := ⟨g, o + m.length, none⟩) hg (.inl rfl) _, fun i hi => ?_, ?_⟩
      · rw [D_set t i (by rw [HC.out]; omega), if_neg (by omega)]; exact HO.out i (by omega)
      · show _ = _
        rw [S_succ, S_succ, S_congr (g := fun i => D C (o + i)) (fun i hi => by rw [D_set t (o + i) (by rw [HC.out]; omega), if_neg (by omega)]), D_set t (o + m.length) (by rw [HC.out]; omega), if_pos rfl]
        have h1 := HE.out
        rw [S_val (Nat.le_refl _)] at h1
        rw [← HO.out (o + m.length) (by omega), Int.pow_succ]
        have h3 : (if decide (D C (o + m.length) < d) = true then (18446744073709551616 : Int) ^ m.length * 18446744073709551616 else 0) = e * (18446744073709551616 ^ m.length * 18446744073709551616) := by
          rw [hee]
          by_cases h4 : D C (o + m.length) < d
          · simp [h4]
          · simp [h4]
        rw [h3]
        generalize (18446744073709551616 : Int) ^ m.length = P at *
        generalize D C (o + m.length) = top at *
        generalize S 18446744073709551616 (fun i => D C (o + i)) m.length = X at *
        generalize S 18446744073709551616 (fun i => D C0 (o + i)) m.length = Y at *
        generalize val 18446744073709551616 m * f = V at *
        have h5 : t * P = (top - d) * P + e * (P * 18446744073709551616) := by rw [te]; grind
        have h6 : (top - d) * P = top * P - d * P := by grind
        omega

/-- the round of a giving back -/
def GiveInv (K : Nat) (C0 m : List Int) (n o g : Nat) (w0 : World) (k : Nat) (w : World) : Prop :=
  ∃ (C : List Int) (d : Int), C.length = C0.length ∧ Lim 18446744073709551616 C ∧ 0 ≤ d ∧ d ≤ 1 ∧ Pre w g K C ∧ Row w w0.heap.size [d] ∧ w0.grownBy w (some g) ∧
    (∀ i, (i < o ∨ o + k ≤ i) → D C i = D C0 i) ∧
    S 18446744073709551616 (fun i => D C (o + i)) k + d * 18446744073709551616 ^ k = S 18446744073709551616 (fun i => D C0 (o + i)) k + S 18446744073709551616 (D m) k
theorem giveinv_step {K : Nat} {C0 m C : List Int} {d z d' : Int} {n o g k : Nat} {w0 w : World} (hC : C.length = C0.length) (hCl : Lim 18446744073709551616 C) (hr : Pre w g K C) (hc : Row w w0.heap.size [d]) (hg : w0.grownBy w (some g))
    (ho : ∀ i, (i < o ∨ o + k ≤ i) → D C i = D C0 i)
    (he : S 18446744073709551616 (fun i => D C (o + i)) k + d * 18446744073709551616 ^ k = S 18446744073709551616 (fun i => D C0 (o + i)) k + S 18446744073709551616 (D m) k) (hk : o + k < C0.length) (hg0 : g < w0.heap.size)
    (hz0 : 0 ≤ z) (hz1 : z < 18446744073709551616) (hd0 : 0 ≤ d') (hd1 : d' ≤ 1) (he' : D C (o + k) + D m k + d = z + d' * 18446744073709551616) :
    GiveInv K C0 m n o g w0 (k + 1) ((w.setCell ⟨w0.heap.size, 0, none⟩ (.int .u64 d')).setCell ⟨g, o + k, none⟩ (.int .u64 z)) := by
  refine ⟨C.set (o + k) z, d', by simp [hC], hCl.set _ hz0 hz1, hd0, hd1, (hr.far (by simp; omega) _).set_ _ z, (hc.set_ 0 d').far (by simp; omega) _, only_setCell (p := ⟨g, o + k, none⟩) (only_setCell (p := ⟨w0.heap.size, 0, none⟩) hg (.inr (by simp)) _) (.inl rfl) _, fun i hi => ?_, ?_⟩
  · rw [D_set z i (by omega), if_neg (by omega)]; exact ho i (by omega)
  · rw [S_succ, S_succ, S_succ, S_congr (g := fun i => D C (o + i)) (fun i hi => by rw [D_set z (o + i) (by omega), if_neg (by omega)]), D_set z (o + k) (by omega), if_pos rfl, Int.pow_succ]
    have := ho (o + k) (by omega)
    rw [this] at he'
    grind
theorem GiveInv.drew {K : Nat} {C0 m : List Int} {n o g k : Nat} {w0 w : World} (h : GiveInv K C0 m n o g w0 k w) : GiveInv K C0 m n o g w0 k w.drew := by
  obtain ⟨C, d, h1, h2, h3, h4, h5, h6, h7, h8⟩ := h
  exact ⟨C, d, h1, h2, h3, h4, h5.drew, h6.drew, only_drew h7, h8⟩

def GivePost (K : Nat) (C0 m : List Int) (n o g : Nat) (w0 : World) (e : Ending) (w : World) : Prop :=
  ∃ (C : List Int) (d : Int), e = .returned (.tuple #[]) ∧ C.length = C0.length ∧ Lim 18446744073709551616 C ∧ Pre w g K C ∧ w0.grownBy w (some g) ∧
    Hid (∀ i, (i < o ∨ o + n ≤ i) → D C i = D C0 i) ∧
    Hid (S 18446744073709551616 (fun i => D C (o + i)) n + d * 18446744073709551616 ^ n = S 18446744073709551616 (fun i => D C0 (o + i)) n + val 18446744073709551616 m)

set_option maxHeartbeats 4000000 in
theorem giveback_any (K : Nat) (C0 : List Int) (g o n cc : Nat) (A2 : Option Addr) (c2 : Nat) (m : List Int) (w : World) (hr0 : Pre w g K C0) (hC0 : Lim 18446744073709551616 C0) (ho : o + n ≤ C0.length) (hnm : m.length ≤ n) (hcc : n ≤ cc) (hco : C0.length ≤ 4000000)
    (h2 : Nums w w.heap.size A2 c2 m) (hne : ∀ ad, A2 = some ad → ad.block ≠ g) (hl2 : Lim 18446744073709551616 m) :
    Calls Tryd.prog 97 #[.slice (some ⟨g, o, none⟩) n cc, .slice A2 m.length c2] w (GivePost K C0 m n o g w) := by
  have hg0 := hr0.lt
  have hml : m.length ≤ 4000000 := by omega
  go_enter Tryd.func97, Tryd.ntmps97
  go_wp2_with fail
  go_loopw [10] (fun i wr => ∃ k : Nat, k ≤ n ∧ i = .int .i64 k ∧ GiveInv K C0 m n o g w k wr) (fun i _ => n - (intOf i).toNat)
  case atStart =>
    exact ⟨0, by omega, rfl, C0, 0, rfl, hC0, by omega, by omega, hr0.alloc _, Row.one w 0, only_alloc (World.grownBy.refl w _) _, fun _ _ => rfl, by simp [S]⟩
  case round =>
    obtain ⟨k, hk, rfl, C, d, hC, hCl, hd0, hd1, hr, hc, hg, hout, he⟩ := hrel
    have HC := Lib.hid hC
    have HE := Lib.hid he
    have HO := Lib.hid hout
    have hgw := hg.size
    clear hC he hout
    by_cases hkn : k < n
    · have hx := D_lim (b := 18446744073709551616) (by omega) hCl (o + k)
      have hy := D_lim (b := 18446744073709551616) (by omega) hl2 k
      have c0 := hr.cell (k := o + k) (by rw [HC.out]; omega)
      have f0 := hr.frozen (o + k)
      have hn2 : Nums wr w.heap.size A2 c2 m := ⟨h2.1, h2.2.1, fun hn => by
        obtain ⟨ad, e, hb, hcell⟩ := h2.2.2 hn
        refine ⟨ad, e, hb, fun j hj => ?_⟩
        rw [World.cell?_of_block (hg.block (ad.add j).block (by rw [add_block]; exact hb) (fun e' => hne ad e (by rw [add_block] at e'; injection e')))]
        exact hcell j hj⟩
      have i0 : (0 : Int) ≤ (k : Int) := by omega
      have i1 : (k : Int) < n := by omega
      go_wp2_with fail
      go_region_with (first
        | (go_at_call 66; ((with_reducible refine (limb_any A2 c2 m k _ _ hn2.drew).mono ?_); rintro e w' ⟨rfl, rfl⟩))
        | (go_at_call 100; ((with_reducible refine (givestep_any (D C (o + k)) (D m k) d _ _ hc.drew hx.1 hx.2 hy.1 hy.2 hd0 hd1).mono ?_); rintro e w' ⟨z, d', rfl, hz0, hz1, hd0', hd1', he', rfl⟩)))
      all_goals
        go_wp2_with fail
        go_roundw
        case rel => exact ⟨k + 1, by omega, by go_num, (giveinv_step HC.out hCl hr hc hg HO.out HE.out (by omega) hg0 hz0 hz1 hd0' hd1' he'.out).drew⟩
        case measure => simp [intOf]; omega
    · obtain rfl : k = n := by omega
      go_wp2_with fail
      go_end0
      refine ⟨C, d, rfl, HC.out, hCl, hr, hg, HO.out, ?_⟩
      have := HE.out
      rw [S_val hnm] at this
      exact this
end Go.Proofs.YtigphbjgodfhpaaDoor
