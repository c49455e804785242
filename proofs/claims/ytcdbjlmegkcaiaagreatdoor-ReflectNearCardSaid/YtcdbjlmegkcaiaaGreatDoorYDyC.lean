/-
  Layer 3: numbers in memory.
-/
import Derived.Test.YtcdbjlmegkcaiaaGreatDoorYDyA
import Derived.Test.YtcdbjlmegkcaiaaGreatDoorYNR2
import Derived.Handy
namespace Go.Proofs.YtcdbjlmegkcaiaaGreatDoor
open Go.RowKit
set_option linter.unusedVariables false

/-- a number as Go has it -/
abbrev dyV (b : Bool) (A : Option Addr) (n c : Nat) (x : Int) : Value := .agg #[.bool b, .slice A n c, .int .i64 x]
/-- the fields are a normal number -/
def Dn (b : Bool) (l : List Int) (x : Int) (d : Nf) : Prop := Normal l ∧ l.length ≤ 4096 ∧ d = ⟨b, (val 18446744073709551616 l).toNat, x⟩ ∧ d.Ok
/-- a normal number is handed back, with an error's number -/
def DyK (d : Nf) (k : Int) (w : World) (e : Ending) (w' : World) : Prop :=
  ∃ b l A c x, e = .returned (.tuple #[dyV b A l.length c x, .int .i64 k]) ∧ Dn b l x d ∧ Lv w' A l.length c l ∧ Below w.heap.size w w'
/-- a normal number alone -/
def DyP (d : Nf) (w : World) (e : Ending) (w' : World) : Prop :=
  ∃ b l A c x, e = .returned (dyV b A l.length c x) ∧ Dn b l x d ∧ Lv w' A l.length c l ∧ Below w.heap.size w w'

theorem lim_val {l : List Int} (h : Lim 18446744073709551616 l) : 0 ≤ val 18446744073709551616 l := (val_bound (by omega) h).1
theorem lv_len {W : World} {A : Option Addr} {n c : Nat} {l : List Int} (h : Lv W A n c l) : l.length = n := h.1
theorem Dn.zero : Dn false [] 0 zeroN := ⟨.inl rfl, by simp, by rw [val_nil]; rfl, zeroN_ok⟩
theorem Dn.man {b : Bool} {l : List Int} {x : Int} {d : Nf} (h : Dn b l x d) (hl : Lim 18446744073709551616 l) : (d.man : Int) = val 18446744073709551616 l := by
  rw [h.2.2.1]
  have := lim_val hl
  simp only
  omega
theorem Dn.neg {b : Bool} {l : List Int} {x : Int} {d : Nf} (h : Dn b l x d) : d.neg = b := by rw [h.2.2.1]
theorem Dn.exp {b : Bool} {l : List Int} {x : Int} {d : Nf} (h : Dn b l x d) : d.exp = x := by rw [h.2.2.1]
theorem Dn.nil {b : Bool} {l : List Int} {x : Int} {d : Nf} (h : Dn b l x d) (hl : Lim 18446744073709551616 l) : l.length = 0 ↔ d.man = 0 := by
  have h1 := h.man hl
  constructor
  · intro h0
    have : l = [] := List.eq_nil_of_length_eq_zero h0
    subst this
    rw [val_nil] at h1
    omega
  · intro h0
    have := val_eq_zero (b := 18446744073709551616) (by omega) hl h.1 (by omega)
    rw [this]; rfl
theorem Dn.is {b : Bool} {l : List Int} {x : Int} {d : Nf} (h : Dn b l x d) (hl : Lim 18446744073709551616 l) : nfl b (val 18446744073709551616 l) x = d := by
  have := nfl_self h.2.2.2
  rw [h.neg, h.exp, h.man hl] at this
  exact this
/-- of one normal number there is one form -/
theorem Dn.uniq {b b' : Bool} {l l' : List Int} {x x' : Int} {d : Nf} (h : Dn b l x d) (h' : Dn b' l' x' d) (hl : Lim 18446744073709551616 l) (hl' : Lim 18446744073709551616 l') : b' = b ∧ l' = l ∧ x' = x := by
  refine ⟨by rw [← h.neg, ← h'.neg], ?_, by rw [← h.exp, ← h'.exp]⟩
  exact normal_unique (b := 18446744073709551616) (by omega) hl' hl h'.1 h.1 (by rw [← h.man hl, ← h'.man hl'])
theorem Dn.of {b : Bool} {l : List Int} {x : Int} (hl : Lim 18446744073709551616 l) (hn : Normal l) (hk : l.length ≤ 4096) (ho : val 18446744073709551616 l % 2 = 1) : Dn b l x ⟨b, (val 18446744073709551616 l).toNat, x⟩ := by
  have := lim_val hl
  exact ⟨hn, hk, rfl, .inr (by simp only; omega)⟩
/-- the block g is just these cells, and free -/
def Blk (w : World) (g : Nat) (vs : List Value) : Prop := ∃ T, w.heap[g]? = some (.cells vs.toArray T (0, 0))
/-- none of these is a limb -/
def NoU (vs : List Value) : Prop := ∀ (i : Nat) (y : Int), vs[i]? ≠ some (Value.int .u64 y)
section
variable {w w' : World} {g g' B : Nat} {vs : List Value}
theorem Blk.new (w : World) (vs : List Value) (T : TypeId) : Blk (w.alloc (.cells vs.toArray T)) w.heap.size vs := ⟨T, heap_alloc_new w _⟩
theorem Blk.lt (h : Blk w g vs) : g < w.heap.size := by obtain ⟨T, h⟩ := h; exact lt_of_block h
theorem Blk.below (h : Blk w g vs) (hb : Below B w w') (hg : g < B) : Blk w' g vs := by
  obtain ⟨T, h⟩ := h
  exact ⟨T, (hb.block g hg).trans h⟩
theorem Blk.on (h : Blk w g vs) (hb : Below w.heap.size w w') : Blk w' g vs := h.below hb h.lt
theorem Blk.alloc (h : Blk w g vs) (o : Obj) : Blk (w.alloc o) g vs := h.on ((Below.refl _ w).alloc (Nat.le_refl _) o)
theorem Blk.drewN (h : Blk w g vs) (n : Nat) : Blk (w.drewN n) g vs := h
theorem Blk.cell (h : Blk w g vs) (i : Nat) {v : Value} (hv : vs[i]? = some v) : w.cell? ⟨g, i, none⟩ = some v := by
  obtain ⟨T, h⟩ := h
  simp [World.cell?, h, hv]
theorem Blk.free (h : Blk w g vs) (i : Nat) : w.frozen? ⟨g, i, none⟩ = false := by
  obtain ⟨T, h⟩ := h
  simp [World.frozen?, h]
theorem Blk.set_ (h : Blk w g vs) (i : Nat) (u : Value) : Blk (w.setCell ⟨g, i, none⟩ u) g (vs.set i u) := by
  obtain ⟨T, h⟩ := h
  refine ⟨T, ?_⟩
  simp [World.setCell, Array.getElem?_modify, h]
theorem Blk.far (h : Blk w g vs) {p : Addr} (hp : g ≠ p.block) (u : Value) : Blk (w.setCell p u) g vs := by
  obtain ⟨T, h⟩ := h
  exact ⟨T, (Below.heap_setCell w p u g hp).trans h⟩
theorem Blk.not (h : Blk w g vs) (hu : NoU vs) {p : Addr} {y : Int} (hc : w.cell? p = some (.int .u64 y)) : p.block ≠ g := by
  intro e
  obtain ⟨T, h⟩ := h
  subst e
  unfold World.cell? at hc
  rw [h] at hc
  simp only at hc
  split at hc
  · cases hc
  · exact hu p.off y (by simpa using hc)
/-- a number stays what it is where such a block is written -/
theorem Lv.setB {A : Option Addr} {n c : Nat} {l : List Int} (h : Lv w A n c l) (hg : Blk w g vs) (hu : NoU vs) (i : Nat) (u : Value) : Lv (w.setCell ⟨g, i, none⟩ u) A n c l := by
  refine ⟨h.1, ⟨h.2.1.1, h.2.1.2.1, fun hn => ?_⟩, h.2.2⟩
  obtain ⟨ad, e, hb, hc⟩ := h.2.1.2.2 hn
  refine ⟨ad, e, by simpa using hb, fun k hk => ?_⟩
  have hne := hg.not hu (hc k hk)
  rw [World.cell?_setCell_other _ _ _ _ (fun e2 => hne (by rw [← e2])), hc k hk]
end
/-- a block that holds a number's fields -/
abbrev Dbx (w : World) (g : Nat) (b : Bool) (A : Option Addr) (n c : Nat) (x : Int) : Prop := Blk w g [.bool b, .slice A n c, .int .i64 x]
theorem noU3 (b : Bool) (A : Option Addr) (n c : Nat) (x : Int) : NoU [.bool b, .slice A n c, .int .i64 x] := by
  intro i y
  rcases i with _ | _ | _ | i <;> simp
section
variable {w : World} {g : Nat} {b : Bool} {A : Option Addr} {n c : Nat} {x : Int}
theorem Dbx.cells (h : Dbx w g b A n c x) : w.cell? ⟨g, 0, none⟩ = some (.bool b) ∧ w.cell? ⟨g, 1, none⟩ = some (.slice A n c) ∧ w.cell? ⟨g, 2, none⟩ = some (.int .i64 x) ∧ w.frozen? ⟨g, 0, none⟩ = false ∧ w.frozen? ⟨g, 1, none⟩ = false ∧ w.frozen? ⟨g, 2, none⟩ = false :=
  ⟨Blk.cell h 0 rfl, Blk.cell h 1 rfl, Blk.cell h 2 rfl, Blk.free h 0, Blk.free h 1, Blk.free h 2⟩
theorem Dbx.put (h : Dbx w g b A n c x) (b' : Bool) (A' : Option Addr) (n' c' : Nat) (x' : Int) :
    Dbx (((w.setCell ⟨g, 0, none⟩ (.bool b')).setCell ⟨g, 1, none⟩ (.slice A' n' c')).setCell ⟨g, 2, none⟩ (.int .i64 x')) g b' A' n' c' x' :=
  ((Blk.set_ h 0 _).set_ 1 _).set_ 2 _
theorem Blk.putO {w : World} {g' : Nat} {vs : List Value} (h : Blk w g' vs) (hne : g' ≠ g) (u v r : Value) :
    Blk (((w.setCell ⟨g, 0, none⟩ u).setCell ⟨g, 1, none⟩ v).setCell ⟨g, 2, none⟩ r) g' vs := ((h.far hne _).far hne _).far hne _
theorem Lv.put {A2 : Option Addr} {n2 c2 : Nat} {l : List Int} (h : Lv w A2 n2 c2 l) (hg : Dbx w g b A n c x) (b' : Bool) (A' : Option Addr) (n' c' : Nat) (x' : Int) :
    Lv (((w.setCell ⟨g, 0, none⟩ (.bool b')).setCell ⟨g, 1, none⟩ (.slice A' n' c')).setCell ⟨g, 2, none⟩ (.int .i64 x')) A2 n2 c2 l :=
  (((h.setB hg (noU3 _ _ _ _ _) 0 _).setB (Blk.set_ hg 0 _) (noU3 b' A n c x) 1 _).setB ((Blk.set_ hg 0 _).set_ 1 _) (noU3 b' A' n' c' x) 2 _)
end
/-- how a number that is put together is answered -/
def ansR (b : Bool) (v x : Int) : Nf × Int := if v = 0 then (zeroN, 0) else doneR ⟨b, v.toNat, x⟩

section
variable {b : Bool} {A : Option Addr} {n c : Nat} {x : Int} {l : List Int} {w : World}
theorem Bits_lv (h : Lv w A n c l) (hn : n ≤ 4096) : Calls Tryz.prog 83 #[.slice A n c] w fun e w' => ∃ k : Nat, e = .returned (.tuple #[.int .i64 k, .int .i64 0]) ∧ Hid (IsBits (val 18446744073709551616 l) k) ∧ k ≤ 262144 ∧ w = w' := by
  have := Bits_any A c l w h.2.1 h.2.2 (norm_le h.1 hn)
  rw [h.1] at this
  refine this.mono ?_
  rintro e w' ⟨k, rfl, hk, rfl⟩
  refine ⟨k, rfl, hk, ?_, rfl⟩
  have := bits_le (N := 4096) (n := k) (v := val 18446744073709551616 l) ?_ hk
  · omega
  · have h1 := (val_bound (b := 18446744073709551616) (by omega) h.2.2).2
    exact Int.lt_of_lt_of_le h1 (pow_le' (by omega) (by rw [h.1]; exact hn))

set_option maxHeartbeats 1000000 in
theorem dyMay_any (h : Lv w A n c l) (hn : n ≤ 4096) :
    Calls Tryz.prog 71 #[dyV b A n c x] w fun e w' => e = .returned (.bool (okE x)) ∧ Below w.heap.size w w' := by
  have h1 := h.alloc (.cells #[.bool b, .slice A n c, .int .i64 x] 40)
  by_cases c1 : x < -262144
  · rw [okE_false.2 (.inl c1)]
    go_enter Tryz.func71, Tryz.ntmps71
    go_wp2_with (go_at_call 83; ((with_reducible refine (Bits_lv h1 hn).mono ?_); rintro e w1 ⟨k, rfl, hk, _, rfl⟩))
    go_ret
    exact ⟨rfl, by go_grown⟩
  · by_cases c2 : 262144 < x
    · rw [okE_false.2 (.inr c2)]
      have c3 : decide (x ≤ 262144) = false := by simp; omega
      go_enter Tryz.func71, Tryz.ntmps71
      go_wp2_with (go_at_call 83; ((with_reducible refine (Bits_lv h1 hn).mono ?_); rintro e w1 ⟨k, rfl, hk, _, rfl⟩))
      go_ret
      exact ⟨rfl, by go_grown⟩
    · rw [okE_true (by omega) (by omega)]
      go_enter Tryz.func71, Tryz.ntmps71
      go_wp2_with (go_at_call 83; ((with_reducible refine (Bits_lv h1 hn).mono ?_); rintro e w1 ⟨k, rfl, hk, _, rfl⟩))
      go_ret
      exact ⟨rfl, by go_grown⟩
theorem dyMay_yes (h : Lv w A n c l) (hn : n ≤ 4096) (ho : okE x = true) : Calls Tryz.prog 71 #[dyV b A n c x] w fun e w' => e = .returned (.bool true) ∧ Below w.heap.size w w' := by
  rw [← ho]; exact dyMay_any h hn
theorem dyMay_no (h : Lv w A n c l) (hn : n ≤ 4096) (ho : okE x = false) : Calls Tryz.prog 71 #[dyV b A n c x] w fun e w' => e = .returned (.bool false) ∧ Below w.heap.size w w' := by
  rw [← ho]; exact dyMay_any h hn
end
end Go.Proofs.YtcdbjlmegkcaiaaGreatDoor
namespace Go.Proofs.YtcdbjlmegkcaiaaGreatDoor
open Go.RowKit
set_option linter.unusedVariables false
set_option linter.unusedSimpArgs false

theorem Tab.onD {W W' : World} (h : Tab W) (hb : Below W.heap.size W W') : Tab W' := h.below hb h.lt
theorem Tab.alD {W : World} (h : Tab W) (o : Obj) : Tab (W.alloc o) := h.onD ((Below.refl _ W).alloc (Nat.le_refl _) o)
theorem bcellD {W w1 : World} (hb : Below W.heap.size W w1) : (∀ b o, b < W.heap.size → w1.cell? ⟨b, o, none⟩ = W.cell? ⟨b, o, none⟩) ∧ (∀ b o, b < W.heap.size → w1.frozen? ⟨b, o, none⟩ = W.frozen? ⟨b, o, none⟩) :=
  ⟨fun b o h => hb.cell (p := ⟨b, o, none⟩) h, fun b o h => hb.frozen (p := ⟨b, o, none⟩) h⟩
theorem pow_lt_inv {a b : Nat} (h : (2 : Int) ^ a < 2 ^ b) : a < b := by
  rcases Nat.lt_or_ge a b with g | g
  · exact g
  · have := pow_le' (b := 2) (by omega) g
    omega
theorem zeros_lt {v : Int} {k n : Nat} (hk : IsZeros v k) (hv : v < 2 ^ n) : k < n := by
  obtain ⟨m, hm, e⟩ := hk
  have h1 : (2 : Int) ^ k * 1 ≤ 2 ^ k * (2 * m + 1) := Int.mul_le_mul_of_nonneg_left (by omega) (Int.le_of_lt (Int.pow_pos (by omega)))
  exact pow_lt_inv (by omega)
/-- a number without its noughts -/
theorem zeros_nf {b : Bool} {v x : Int} {k : Nat} (h : IsZeros v k) : nfl b v x = ⟨b, (v / 2 ^ k).toNat, x + k⟩ ∧ v / 2 ^ k % 2 = 1 := by
  obtain ⟨m, hm, e⟩ := h
  have hp := Int.pow_pos (n := (2 : Int)) (m := k) (by omega)
  have e1 : v / 2 ^ k = 2 * m + 1 := by rw [e, Int.mul_ediv_cancel_left _ (Int.ne_of_gt hp)]
  refine ⟨?_, by omega⟩
  rw [e1]
  refine nfl_is (m := (2 * m + 1).toNat) (by omega) ?_
  rw [e, Int.mul_comm]
  congr 1
  omega
theorem odd_head {l : List Int} (h : 0 < l.length) : val 18446744073709551616 l % 2 = D l 0 % 2 := by
  rcases l with _ | ⟨y, l⟩
  · simp at h
  · rw [val_cons, D_cons_zero]; omega
theorem normal_of_last {l : List Int} (h : D l (l.length - 1) ≠ 0) : Normal l := .inr h
theorem nfl_odd (b : Bool) {v : Int} (x : Int) (h : v % 2 = 1) (h0 : 0 ≤ v) : nfl b v x = ⟨b, v.toNat, x⟩ := by
  have := nfl_is (b := b) (v := v) (e := x) (m := v.toNat) (k := 0) (by omega) (by omega)
  rw [this]
  simp
theorem nil_of_len {l : List Int} (h : l.length = 0) : l = [] := List.eq_nil_of_length_eq_zero h

theorem dy_end {w W w2 : World} (hw : Below w.heap.size w W) (hb : Below W.heap.size W w2) : Below w.heap.size w w2 := hw.trans (hb.mono hw.size)
/-- what is shifted down has no more limbs -/
theorem shr_len {l q : List Int} {n k : Nat} (hn : n ≤ 4096) (hl : l.length = n) (h : Lim 18446744073709551616 l) (hq : Lim 18446744073709551616 q) (nq : Normal q) (hv : Hid (val 18446744073709551616 q = val 18446744073709551616 l / 2 ^ k)) : q.length ≤ 4096 := by
  refine length_le_of_lt (b := 18446744073709551616) (by omega) hq nq ?_
  have h1 := (val_bound (b := 18446744073709551616) (by omega) h)
  have h2 := pow_le' (b := 18446744073709551616) (by omega) (show l.length ≤ 4096 by omega)
  have h3 := Int.ediv_le_self (2 ^ k) h1.1
  rw [hv.out]
  omega

theorem Nums.some_cells {w : World} {B c : Nat} {A : Option Addr} {l : List Int} (h : Nums w B A c l) (hk : 0 < l.length) : ∃ ad, A = some ad ∧ ad.block < B ∧ ∀ k, k < l.length → w.cell? (ad.add k) = some (.int .u64 (D l k)) := h.2.2 hk

section
variable {b : Bool} {A : Option Addr} {n c : Nat} {x : Int} {l : List Int} {w : World}
theorem lv_bound (h : Lv w A n c l) (hn : n ≤ 4096) : val 18446744073709551616 l < 2 ^ 262144 := by
  have h1 := (val_bound (b := 18446744073709551616) (by omega) h.2.2).2
  rw [h.1] at h1
  have h2 := pow_le' (b := 18446744073709551616) (by omega) hn
  rw [show (262144 : Nat) = 64 * 4096 from rfl, ← pow64]
  omega
theorem Zeros_lv (h : Lv w A n c l) (hn : n ≤ 4096) (hT : Tab w) : Calls Tryz.prog 57 #[.slice A n c] w fun e w' => ∃ k : Nat, e = .returned (.tuple #[.int .i64 k, .int .i64 0]) ∧ k ≤ 262144 ∧ Hid ((val 18446744073709551616 l = 0 → k = 0) ∧ (val 18446744073709551616 l ≠ 0 → IsZeros (val 18446744073709551616 l) k)) ∧ w = w' := by
  have := Zeros_any A c l w h.2.1 h.2.2 (norm_le h.1 hn) hT
  rw [h.1] at this
  refine this.mono ?_
  rintro e w' ⟨k, rfl, h0, h1, rfl⟩
  refine ⟨k, rfl, ?_, ⟨h0, h1⟩, rfl⟩
  by_cases hv : val 18446744073709551616 l = 0
  · rw [h0 hv]; omega
  · have := zeros_lt (h1 hv) (lv_bound h hn)
    omega

/-- the ways to the number without its noughts -/
theorem normal_rest {v : Int} {k : Nat} {q : List Int} (h0 : v = 0 → k = 0) (h1 : v ≠ 0 → IsZeros v k) (hq : Lim 18446744073709551616 q) (hn : Normal q) (hk : q.length ≤ 4096) (hv : val 18446744073709551616 q = v / 2 ^ k) (b : Bool) (x : Int) :
    (v = 0 → q.length = 0) ∧ (v ≠ 0 → 0 < q.length ∧ Dn b q (x + k) (nfl b v x)) := by
  constructor
  · intro e
    subst e
    rw [Int.zero_ediv] at hv
    rw [val_eq_zero (b := 18446744073709551616) (by omega) hq hn hv]
    rfl
  · intro e
    obtain ⟨e1, e2⟩ := zeros_nf (b := b) (x := x) (h1 e)
    rw [← hv] at e2
    constructor
    · rcases Nat.eq_zero_or_pos q.length with g | g
      · have := nil_of_len g
        subst this
        rw [val_nil] at e2
        omega
      · exact g
    · rw [e1, ← hv]
      exact Dn.of hq hn hk e2

set_option maxRecDepth 100000 in
set_option maxRecDepth 100000 in
set_option maxRecDepth 100000 in
set_option maxRecDepth 100000 in
set_option maxRecDepth 100000 in
set_option maxRecDepth 100000 in
set_option maxRecDepth 100000 in
set_option maxRecDepth 100000 in
set_option maxHeartbeats 4000000 in
theorem normal_any (h : Lv w A n c l) (hn : n ≤ 4096) (hT : Tab w) (x0 : -1152921504606846976 ≤ x) (x1 : x ≤ 1152921504606846976) :
    Calls Tryz.prog 31 #[dyV b A n c x] w (DyP (nfl b (val 18446744073709551616 l) x) w) := by
  have h1 := (h.alloc (.cells #[.bool b, .slice A n c, .int .i64 x] 40)).alloc (.cells #[.bool false, .slice none 0 0, .int .i64 0] 40)
  have hT1 := (hT.alD (.cells #[.bool b, .slice A n c, .int .i64 x] 40)).alD (.cells #[.bool false, .slice none 0 0, .int .i64 0] 40)
  have DB : Dbx ((w.alloc (.cells #[.bool b, .slice A n c, .int .i64 x] 40)).alloc (.cells #[.bool false, .slice none 0 0, .int .i64 0] 40)) (w.heap.size + 1) false none 0 0 0 := by
    have := Blk.new (w.alloc (.cells #[.bool b, .slice A n c, .int .i64 x] 40)) [.bool false, .slice none 0 0, .int .i64 0] 40
    rwa [World.size_alloc] at this
  rcases Nat.eq_zero_or_pos n with h0 | h0
  · have hv : Hid (val 18446744073709551616 l = 0) := by rw [nil_of_len (h.1.trans h0)]; rfl
    subst h0
    go_enter Tryz.func31, Tryz.ntmps31
    go_wp2_with (first
      | (go_at_call 57; ((with_reducible refine (Zeros_lv h1 hn hT1).mono ?_); rintro e w1 ⟨k, rfl, hk, hz, rfl⟩; have p2 := Shr_lv h1 hn hT1 k (by omega) _ rfl; generalize lostB (val 18446744073709551616 l) k = L9 at p2))
      | (go_at_call 58; ((with_reducible refine p2.mono ?_); rintro e w2 ⟨q, A2, c2, rfl, nq, vq, m2, hb⟩; clear p2; obtain ⟨hc, hf⟩ := bcellD hb; have bw : Below w.heap.size w w2 := dy_end (by go_grown) hb; have hs := hb.size; simp only [World.size_alloc] at hs; have hr := normal_rest hz.out.1 hz.out.2 m2.2.2 nq (shr_len hn h1.1 h1.2.2 m2.2.2 nq vq) vq.out b x; have hq0 : q.length = 0 := hr.1 hv.out; have hq1 : ((q.length : Int) == 0) = true := (by rw [hq0]; rfl); have HR := Lib.hid hr; clear hr)))
    refine bodyPost_ret (v := dyV false none 0 0 0) (by simp [results, Tryz.results31, go_sem, hc, hs]) rfl ?_
    refine ⟨false, [], none, 0, 0, rfl, by rw [hv.out, nfl_zero]; exact Dn.zero, lv_nil _, ?_⟩
    go_grown
  · obtain ⟨ad, rfl, hb, hc⟩ := h1.2.1.some_cells (by rw [h.1]; exact h0)
    have d0 := D_lim (b := 18446744073709551616) (by omega) h.2.2 0
    have i1 : (1 : Int) ≤ n := by omega
    have e1 : ((n : Int) - 1).toNat = n - 1 := by omega
    have hc0 := hc 0 (by rw [h.1]; omega)
    rw [show ad.add 0 = ad by simp [Addr.add]] at hc0
    have hcn := hc (n - 1) (by rw [h.1]; omega)
    have ho := odd_head (l := l) (by rw [h.1]; omega)
    clear hc
    by_cases p : D l 0 % 2 = 1
    · have p' : (bits .and .u64 (D l 0) 1 == 1) = true := by rw [and_one_u64 _ d0.1 (by omega)]; simp [p]
      have hv : Hid (val 18446744073709551616 l ≠ 0) := by intro e; omega
      by_cases q : D l (n - 1) = 0
      · have q' : (D l (n - 1) != 0) = false := by simp [q]
        clear p q
        go_enter Tryz.func31, Tryz.ntmps31
        go_wp2_with (first
          | (go_at_call 57; ((with_reducible refine (Zeros_lv h1 hn hT1).mono ?_); rintro e w1 ⟨k, rfl, hk, hz, rfl⟩; have p2 := Shr_lv h1 hn hT1 k (by omega) _ rfl; generalize lostB (val 18446744073709551616 l) k = L9 at p2))
          | (go_at_call 58; ((with_reducible refine p2.mono ?_); rintro e w2 ⟨q, A2, c2, rfl, nq, vq, m2, hb⟩; clear p2; obtain ⟨hc, hf⟩ := bcellD hb; have bw : Below w.heap.size w w2 := dy_end (by go_grown) hb; have hs := hb.size; simp only [World.size_alloc] at hs; have hr := normal_rest hz.out.1 hz.out.2 m2.2.2 nq (shr_len hn h1.1 h1.2.2 m2.2.2 nq vq) vq.out b x; have hq0 : 0 < q.length := (hr.2 hv.out).1; have hq1 : ((q.length : Int) == 0) = false := beq_eq_false_iff_ne.2 (by omega); have HR := Lib.hid hr; clear hr)))
        refine bodyPost_ret (v := dyV b A2 q.length c2 (x + k)) (by simp [results, Tryz.results31, go_sem, hc, hs]) rfl ?_
        refine ⟨b, q, A2, c2, x + k, rfl, (HR.out.2 hv.out).2, ?_, ?_⟩
        · exact m2.put (Blk.below DB hb (by simp)) _ _ _ _ _
        · go_grown
      · have q' : (D l (n - 1) != 0) = true := by simp [q]
        have HQ := Lib.hid q
        have HP := Lib.hid (ho.trans p)
        clear p q ho
        go_enter Tryz.func31, Tryz.ntmps31
        go_wp2_with fail
        refine bodyPost_ret (v := dyV b (some ad) n c x) (by simp [results, Tryz.results31, go_sem]) rfl ?_
        have nl := normal_of_last (l := l) (by rw [h.1]; exact HQ.out)
        exact ⟨b, l, some ad, c, x, by rw [h.1], by rw [nfl_odd b x HP.out (lim_val h.2.2)]; exact Dn.of h.2.2 nl (by rw [h.1]; exact hn) HP.out, by rw [h.1]; exact (h.alloc _).alloc _, by go_grown⟩
    · have p' : (bits .and .u64 (D l 0) 1 == 1) = false := by rw [and_one_u64 _ d0.1 (by omega)]; simp; omega
      clear p ho
      by_cases hv : val 18446744073709551616 l = 0
      · replace hv := Lib.hid hv
        go_enter Tryz.func31, Tryz.ntmps31
        go_wp2_with (first
          | (go_at_call 57; ((with_reducible refine (Zeros_lv h1 hn hT1).mono ?_); rintro e w1 ⟨k, rfl, hk, hz, rfl⟩; have p2 := Shr_lv h1 hn hT1 k (by omega) _ rfl; generalize lostB (val 18446744073709551616 l) k = L9 at p2))
          | (go_at_call 58; ((with_reducible refine p2.mono ?_); rintro e w2 ⟨q, A2, c2, rfl, nq, vq, m2, hb⟩; clear p2; obtain ⟨hc, hf⟩ := bcellD hb; have bw : Below w.heap.size w w2 := dy_end (by go_grown) hb; have hs := hb.size; simp only [World.size_alloc] at hs; have hr := normal_rest hz.out.1 hz.out.2 m2.2.2 nq (shr_len hn h1.1 h1.2.2 m2.2.2 nq vq) vq.out b x; have hq0 : q.length = 0 := hr.1 hv.out; have hq1 : ((q.length : Int) == 0) = true := (by rw [hq0]; rfl); have HR := Lib.hid hr; clear hr)))
        refine bodyPost_ret (v := dyV false none 0 0 0) (by simp [results, Tryz.results31, go_sem, hc, hs]) rfl ?_
        refine ⟨false, [], none, 0, 0, rfl, by rw [hv.out, nfl_zero]; exact Dn.zero, lv_nil _, ?_⟩
        go_grown
      · replace hv := Lib.hid hv
        go_enter Tryz.func31, Tryz.ntmps31
        go_wp2_with (first
          | (go_at_call 57; ((with_reducible refine (Zeros_lv h1 hn hT1).mono ?_); rintro e w1 ⟨k, rfl, hk, hz, rfl⟩; have p2 := Shr_lv h1 hn hT1 k (by omega) _ rfl; generalize lostB (val 18446744073709551616 l) k = L9 at p2))
          | (go_at_call 58; ((with_reducible refine p2.mono ?_); rintro e w2 ⟨q, A2, c2, rfl, nq, vq, m2, hb⟩; clear p2; obtain ⟨hc, hf⟩ := bcellD hb; have bw : Below w.heap.size w w2 := dy_end (by go_grown) hb; have hs := hb.size; simp only [World.size_alloc] at hs; have hr := normal_rest hz.out.1 hz.out.2 m2.2.2 nq (shr_len hn h1.1 h1.2.2 m2.2.2 nq vq) vq.out b x; have hq0 : 0 < q.length := (hr.2 hv.out).1; have hq1 : ((q.length : Int) == 0) = false := beq_eq_false_iff_ne.2 (by omega); have HR := Lib.hid hr; clear hr)))
        refine bodyPost_ret (v := dyV b A2 q.length c2 (x + k)) (by simp [results, Tryz.results31, go_sem, hc, hs]) rfl ?_
        refine ⟨b, q, A2, c2, x + k, rfl, (HR.out.2 hv.out).2, ?_, ?_⟩
        · exact m2.put (Blk.below DB hb (by simp)) _ _ _ _ _
        · go_grown
end
end Go.Proofs.YtcdbjlmegkcaiaaGreatDoor
namespace Go.Proofs.YtcdbjlmegkcaiaaGreatDoor
open Go.RowKit
set_option linter.unusedVariables false
set_option linter.unusedSimpArgs false

theorem normal_odd {b : Bool} {l : List Int} {x : Int} {d : Nf} (h : Dn b l x d) (hl : Lim 18446744073709551616 l) (h0 : l.length ≠ 0) : val 18446744073709551616 l % 2 = 1 := by
  have h1 := ok_odd h.2.2.2 (fun e => h0 ((h.nil hl).2 e))
  have := h.man hl
  omega
/-- its sign, as a number -/
def sgnV (b : Bool) (n : Nat) : Int := if n = 0 then 0 else if b then -1 else 1

section
variable {b : Bool} {A : Option Addr} {n c : Nat} {x : Int} {l : List Int} {w : World}

set_option maxRecDepth 100000 in
set_option maxHeartbeats 4000000 in
theorem dyTaken_yes (h : Lv w A n c l) (hn : n ≤ 4096) (hT : Tab w) (ho : okE x = true) :
    Calls Tryz.prog 52 #[dyV b A n c x] w (DyK (nfl b (val 18446744073709551616 l) x) 0 w) := by
  obtain ⟨x0, x1⟩ := (okE_iff x).1 ho
  have PB := Blk.new w [.bool b, .slice A n c, .int .i64 x] 40
  have DB := Blk.new (w.alloc (.cells #[.bool b, .slice A n c, .int .i64 x] 40)) [.bool false, .slice none 0 0, .int .i64 0] 40
  simp only [World.size_alloc] at DB
  replace PB := Blk.alloc PB (.cells #[.bool false, .slice none 0 0, .int .i64 0] 40)
  have bw : Below w.heap.size w ((w.alloc (.cells #[.bool b, .slice A n c, .int .i64 x] 40)).alloc (.cells #[.bool false, .slice none 0 0, .int .i64 0] 40)) := by go_grown
  have PB_0 := Blk.cell PB 0 rfl
  have PB_1 := Blk.cell PB 1 rfl
  have PB_2 := Blk.cell PB 2 rfl
  have PB_f0 := Blk.free PB 0
  have PB_f1 := Blk.free PB 1
  have PB_f2 := Blk.free PB 2
  have DB_0 := Blk.cell DB 0 rfl
  have DB_1 := Blk.cell DB 1 rfl
  have DB_2 := Blk.cell DB 2 rfl
  have DB_f0 := Blk.free DB 0
  have DB_f1 := Blk.free DB 1
  have DB_f2 := Blk.free DB 2
  go_enter Tryz.func52, Tryz.ntmps52
  go_wp2_with fail
  with_reducible refine (dyMay_yes (b := b) (x := x) (h.on (by go_grown)) hn ho).mono ?_
  rintro e w1 ⟨rfl, hb⟩
  clear PB_0 PB_1 PB_2 PB_f0 PB_f1 PB_f2
  clear DB_0 DB_1 DB_2 DB_f0 DB_f1 DB_f2
  have hs1 := hb.size
  try simp only [World.size_alloc, World.size_setCell] at hs1
  replace bw : Below w.heap.size w w1 := dy_end (by go_grown) hb
  replace PB := Blk.on PB hb
  replace DB := Blk.on DB hb
  clear hb
  have PB_0 := Blk.cell PB 0 rfl
  have PB_1 := Blk.cell PB 1 rfl
  have PB_2 := Blk.cell PB 2 rfl
  have PB_f0 := Blk.free PB 0
  have PB_f1 := Blk.free PB 1
  have PB_f2 := Blk.free PB 2
  have DB_0 := Blk.cell DB 0 rfl
  have DB_1 := Blk.cell DB 1 rfl
  have DB_2 := Blk.cell DB 2 rfl
  have DB_f0 := Blk.free DB 0
  have DB_f1 := Blk.free DB 1
  have DB_f2 := Blk.free DB 2
  go_wp2_with fail
  with_reducible refine (normal_any (b := b) (x := x) (h.on (by go_grown)) hn (hT.onD (by go_grown)) (by omega) (by omega)).mono ?_
  rintro e w2 ⟨b', q, A2, c2, x', rfl, hd, m2, hb⟩
  clear PB_0 PB_1 PB_2 PB_f0 PB_f1 PB_f2
  clear DB_0 DB_1 DB_2 DB_f0 DB_f1 DB_f2
  have hs2 := hb.size
  try simp only [World.size_alloc, World.size_setCell] at hs2
  replace bw : Below w.heap.size w w2 := dy_end (by go_grown) hb
  replace PB := Blk.on PB hb
  replace DB := Blk.on DB hb
  clear hb
  have PB_0 := Blk.cell PB 0 rfl
  have PB_1 := Blk.cell PB 1 rfl
  have PB_2 := Blk.cell PB 2 rfl
  have PB_f0 := Blk.free PB 0
  have PB_f1 := Blk.free PB 1
  have PB_f2 := Blk.free PB 2
  have DB_0 := Blk.cell DB 0 rfl
  have DB_1 := Blk.cell DB 1 rfl
  have DB_2 := Blk.cell DB 2 rfl
  have DB_f0 := Blk.free DB 0
  have DB_f1 := Blk.free DB 1
  have DB_f2 := Blk.free DB 2
  go_wp2_with fail
  refine bodyPost_ret (v := .tuple #[dyV b' A2 q.length c2 x', .int .i64 0]) (by simp [results, Tryz.results52, go_sem, DB_0, DB_1, DB_2]) rfl ?_
  exact ⟨b', q, A2, c2, x', rfl, hd, m2.put DB _ _ _ _ _, by go_grown⟩

set_option maxRecDepth 100000 in
set_option maxHeartbeats 4000000 in
theorem dyTaken_no (h : Lv w A n c l) (hn : n ≤ 4096) (ho : okE x = false) :
    Calls Tryz.prog 52 #[dyV b A n c x] w (DyK zeroN 2 w) := by
  have PB := Blk.new w [.bool b, .slice A n c, .int .i64 x] 40
  have DB := Blk.new (w.alloc (.cells #[.bool b, .slice A n c, .int .i64 x] 40)) [.bool false, .slice none 0 0, .int .i64 0] 40
  simp only [World.size_alloc] at DB
  replace PB := Blk.alloc PB (.cells #[.bool false, .slice none 0 0, .int .i64 0] 40)
  have bw : Below w.heap.size w ((w.alloc (.cells #[.bool b, .slice A n c, .int .i64 x] 40)).alloc (.cells #[.bool false, .slice none 0 0, .int .i64 0] 40)) := by go_grown
  have PB_0 := Blk.cell PB 0 rfl
  have PB_1 := Blk.cell PB 1 rfl
  have PB_2 := Blk.cell PB 2 rfl
  have PB_f0 := Blk.free PB 0
  have PB_f1 := Blk.free PB 1
  have PB_f2 := Blk.free PB 2
  have DB_0 := Blk.cell DB 0 rfl
  have DB_1 := Blk.cell DB 1 rfl
  have DB_2 := Blk.cell DB 2 rfl
  have DB_f0 := Blk.free DB 0
  have DB_f1 := Blk.free DB 1
  have DB_f2 := Blk.free DB 2
  go_enter Tryz.func52, Tryz.ntmps52
  go_wp2_with fail
  with_reducible refine (dyMay_no (b := b) (x := x) (h.on (by go_grown)) hn ho).mono ?_
  rintro e w1 ⟨rfl, hb⟩
  clear PB_0 PB_1 PB_2 PB_f0 PB_f1 PB_f2
  clear DB_0 DB_1 DB_2 DB_f0 DB_f1 DB_f2
  have hs1 := hb.size
  try simp only [World.size_alloc, World.size_setCell] at hs1
  replace bw : Below w.heap.size w w1 := dy_end (by go_grown) hb
  replace PB := Blk.on PB hb
  replace DB := Blk.on DB hb
  clear hb
  have PB_0 := Blk.cell PB 0 rfl
  have PB_1 := Blk.cell PB 1 rfl
  have PB_2 := Blk.cell PB 2 rfl
  have PB_f0 := Blk.free PB 0
  have PB_f1 := Blk.free PB 1
  have PB_f2 := Blk.free PB 2
  have DB_0 := Blk.cell DB 0 rfl
  have DB_1 := Blk.cell DB 1 rfl
  have DB_2 := Blk.cell DB 2 rfl
  have DB_f0 := Blk.free DB 0
  have DB_f1 := Blk.free DB 1
  have DB_f2 := Blk.free DB 2
  go_wp2_with fail
  refine bodyPost_ret (v := .tuple #[dyV false none 0 0 0, .int .i64 2]) (by simp [results, Tryz.results52, go_sem, DB_0, DB_1, DB_2]) rfl ?_
  exact ⟨false, [], none, 0, 0, rfl, Dn.zero, lv_nil _, by go_grown⟩

set_option maxRecDepth 100000 in
set_option maxHeartbeats 4000000 in
theorem dyAns_zero (h : Lv w A n c l) (h0 : n = 0) :
    Calls Tryz.prog 56 #[.bool b, .slice A n c, .int .i64 x] w (DyK zeroN 0 w) := by
  subst h0
  have DB := Blk.new w [.bool false, .slice none 0 0, .int .i64 0] 40
  have PB := Blk.new (w.alloc (.cells #[.bool false, .slice none 0 0, .int .i64 0] 40)) [.bool b, .slice A 0 c, .int .i64 x] 40
  simp only [World.size_alloc] at PB
  replace DB := Blk.alloc DB (.cells #[.bool b, .slice A 0 c, .int .i64 x] 40)
  have bw : Below w.heap.size w ((w.alloc (.cells #[.bool false, .slice none 0 0, .int .i64 0] 40)).alloc (.cells #[.bool b, .slice A 0 c, .int .i64 x] 40)) := by go_grown
  have DB_0 := Blk.cell DB 0 rfl
  have DB_1 := Blk.cell DB 1 rfl
  have DB_2 := Blk.cell DB 2 rfl
  have DB_f0 := Blk.free DB 0
  have DB_f1 := Blk.free DB 1
  have DB_f2 := Blk.free DB 2
  have PB_0 := Blk.cell PB 0 rfl
  have PB_1 := Blk.cell PB 1 rfl
  have PB_2 := Blk.cell PB 2 rfl
  have PB_f0 := Blk.free PB 0
  have PB_f1 := Blk.free PB 1
  have PB_f2 := Blk.free PB 2
  go_enter Tryz.func56, Tryz.ntmps56
  go_wp2_with fail
  refine bodyPost_ret (v := .tuple #[dyV false none 0 0 0, .int .i64 0]) (by simp [results, Tryz.results56, go_sem, DB_0, DB_1, DB_2]) rfl ?_
  exact ⟨false, [], none, 0, 0, rfl, Dn.zero, lv_nil _, by go_grown⟩

set_option maxRecDepth 100000 in
set_option maxHeartbeats 4000000 in
theorem dyAns_yes (h : Lv w A n c l) (hn : n ≤ 4096) (h0 : ((n : Int) == 0) = false) (hl : l.length = n) {d : Nf} (hd : Dn b l x d) (ho : okE x = true) :
    Calls Tryz.prog 56 #[.bool b, .slice A n c, .int .i64 x] w (DyK d 0 w) := by
  have DB := Blk.new w [.bool false, .slice none 0 0, .int .i64 0] 40
  have PB := Blk.new (w.alloc (.cells #[.bool false, .slice none 0 0, .int .i64 0] 40)) [.bool b, .slice A n c, .int .i64 x] 40
  simp only [World.size_alloc] at PB
  replace DB := Blk.alloc DB (.cells #[.bool b, .slice A n c, .int .i64 x] 40)
  have bw : Below w.heap.size w ((w.alloc (.cells #[.bool false, .slice none 0 0, .int .i64 0] 40)).alloc (.cells #[.bool b, .slice A n c, .int .i64 x] 40)) := by go_grown
  have DB_0 := Blk.cell DB 0 rfl
  have DB_1 := Blk.cell DB 1 rfl
  have DB_2 := Blk.cell DB 2 rfl
  have DB_f0 := Blk.free DB 0
  have DB_f1 := Blk.free DB 1
  have DB_f2 := Blk.free DB 2
  have PB_0 := Blk.cell PB 0 rfl
  have PB_1 := Blk.cell PB 1 rfl
  have PB_2 := Blk.cell PB 2 rfl
  have PB_f0 := Blk.free PB 0
  have PB_f1 := Blk.free PB 1
  have PB_f2 := Blk.free PB 2
  go_enter Tryz.func56, Tryz.ntmps56
  go_wp2_with fail
  with_reducible refine (dyMay_yes (b := b) (x := x) (h.on (by go_grown)) hn ho).mono ?_
  rintro e w1 ⟨rfl, hb⟩
  clear DB_0 DB_1 DB_2 DB_f0 DB_f1 DB_f2
  clear PB_0 PB_1 PB_2 PB_f0 PB_f1 PB_f2
  have hs1 := hb.size
  try simp only [World.size_alloc, World.size_setCell] at hs1
  replace bw : Below w.heap.size w w1 := dy_end (by go_grown) hb
  replace DB := Blk.on DB hb
  replace PB := Blk.on PB hb
  clear hb
  have DB_0 := Blk.cell DB 0 rfl
  have DB_1 := Blk.cell DB 1 rfl
  have DB_2 := Blk.cell DB 2 rfl
  have DB_f0 := Blk.free DB 0
  have DB_f1 := Blk.free DB 1
  have DB_f2 := Blk.free DB 2
  have PB_0 := Blk.cell PB 0 rfl
  have PB_1 := Blk.cell PB 1 rfl
  have PB_2 := Blk.cell PB 2 rfl
  have PB_f0 := Blk.free PB 0
  have PB_f1 := Blk.free PB 1
  have PB_f2 := Blk.free PB 2
  go_wp2_with fail
  refine bodyPost_ret (v := .tuple #[dyV b A n c x, .int .i64 0]) (by simp [results, Tryz.results56, go_sem, DB_0, DB_1, DB_2]) rfl ?_
  exact ⟨b, l, A, c, x, by rw [hl], hd, by rw [hl]; exact (h.on bw).put DB _ _ _ _ _, by go_grown⟩

set_option maxRecDepth 100000 in
set_option maxHeartbeats 4000000 in
theorem dyAns_no (h : Lv w A n c l) (hn : n ≤ 4096) (h0 : ((n : Int) == 0) = false) (ho : okE x = false) :
    Calls Tryz.prog 56 #[.bool b, .slice A n c, .int .i64 x] w (DyK zeroN 3 w) := by
  have DB := Blk.new w [.bool false, .slice none 0 0, .int .i64 0] 40
  have PB := Blk.new (w.alloc (.cells #[.bool false, .slice none 0 0, .int .i64 0] 40)) [.bool b, .slice A n c, .int .i64 x] 40
  simp only [World.size_alloc] at PB
  replace DB := Blk.alloc DB (.cells #[.bool b, .slice A n c, .int .i64 x] 40)
  have bw : Below w.heap.size w ((w.alloc (.cells #[.bool false, .slice none 0 0, .int .i64 0] 40)).alloc (.cells #[.bool b, .slice A n c, .int .i64 x] 40)) := by go_grown
  have DB_0 := Blk.cell DB 0 rfl
  have DB_1 := Blk.cell DB 1 rfl
  have DB_2 := Blk.cell DB 2 rfl
  have DB_f0 := Blk.free DB 0
  have DB_f1 := Blk.free DB 1
  have DB_f2 := Blk.free DB 2
  have PB_0 := Blk.cell PB 0 rfl
  have PB_1 := Blk.cell PB 1 rfl
  have PB_2 := Blk.cell PB 2 rfl
  have PB_f0 := Blk.free PB 0
  have PB_f1 := Blk.free PB 1
  have PB_f2 := Blk.free PB 2
  go_enter Tryz.func56, Tryz.ntmps56
  go_wp2_with fail
  with_reducible refine (dyMay_no (b := b) (x := x) (h.on (by go_grown)) hn ho).mono ?_
  rintro e w1 ⟨rfl, hb⟩
  clear DB_0 DB_1 DB_2 DB_f0 DB_f1 DB_f2
  clear PB_0 PB_1 PB_2 PB_f0 PB_f1 PB_f2
  have hs1 := hb.size
  try simp only [World.size_alloc, World.size_setCell] at hs1
  replace bw : Below w.heap.size w w1 := dy_end (by go_grown) hb
  replace DB := Blk.on DB hb
  replace PB := Blk.on PB hb
  clear hb
  have DB_0 := Blk.cell DB 0 rfl
  have DB_1 := Blk.cell DB 1 rfl
  have DB_2 := Blk.cell DB 2 rfl
  have DB_f0 := Blk.free DB 0
  have DB_f1 := Blk.free DB 1
  have DB_f2 := Blk.free DB 2
  have PB_0 := Blk.cell PB 0 rfl
  have PB_1 := Blk.cell PB 1 rfl
  have PB_2 := Blk.cell PB 2 rfl
  have PB_f0 := Blk.free PB 0
  have PB_f1 := Blk.free PB 1
  have PB_f2 := Blk.free PB 2
  go_wp2_with fail
  refine bodyPost_ret (v := .tuple #[dyV false none 0 0 0, .int .i64 3]) (by simp [results, Tryz.results56, go_sem, DB_0, DB_1, DB_2]) rfl ?_
  exact ⟨false, [], none, 0, 0, rfl, Dn.zero, lv_nil _, by go_grown⟩


theorem dyAns_any (h : Lv w A n c l) (hn : n ≤ 4096) (nl : Normal l) (ho : n ≠ 0 → val 18446744073709551616 l % 2 = 1) :
    Calls Tryz.prog 56 #[.bool b, .slice A n c, .int .i64 x] w (DyK (ansR b (val 18446744073709551616 l) x).1 (ansR b (val 18446744073709551616 l) x).2 w) := by
  have hv0 := lim_val h.2.2
  by_cases h0 : n = 0
  · have e : ansR b (val 18446744073709551616 l) x = (zeroN, 0) := by unfold ansR; rw [if_pos (by rw [nil_of_len (h.1.trans h0)]; rfl)]
    rw [e]
    exact dyAns_zero h h0
  · have hv := ho h0
    have hb : ((n : Int) == 0) = false := beq_eq_false_iff_ne.2 (by omega)
    by_cases hx : okE x = true
    · have e : ansR b (val 18446744073709551616 l) x = (⟨b, (val 18446744073709551616 l).toNat, x⟩, 0) := by unfold ansR; rw [if_neg (by omega), doneR_yes (by exact hx)]
      rw [e]
      exact dyAns_yes h hn hb h.1 (Dn.of h.2.2 nl (by rw [h.1]; exact hn) hv) hx
    · have hx' : okE x = false := by simpa using hx
      have e : ansR b (val 18446744073709551616 l) x = (zeroN, 3) := by unfold ansR; rw [if_neg (by omega), doneR_no (by exact hx')]
      rw [e]
      exact dyAns_no h hn hb hx'

set_option maxHeartbeats 400000 in
theorem signOf_any (b : Bool) (A : Option Addr) (n c : Nat) (w : World) :
    Calls Tryz.prog 62 #[.bool b, .slice A n c] w fun e w' => e = .returned (.int .i64 (sgnV b n)) ∧ w = w' := by
  by_cases h0 : n = 0
  · subst h0
    go_enter Tryz.func62, Tryz.ntmps62
    go_wp2_with fail
    go_ret
    exact ⟨rfl, rfl⟩
  · have hb : ((n : Int) == 0) = false := beq_eq_false_iff_ne.2 (by omega)
    cases b
    · have e : sgnV false n = 1 := by unfold sgnV; rw [if_neg h0]; rfl
      rw [e]
      clear e
      go_enter Tryz.func62, Tryz.ntmps62
      go_wp2_with fail
      go_ret
      exact ⟨rfl, rfl⟩
    · have e : sgnV true n = -1 := by unfold sgnV; rw [if_neg h0]; rfl
      rw [e]
      clear e
      go_enter Tryz.func62, Tryz.ntmps62
      go_wp2_with fail
      go_ret
      exact ⟨rfl, rfl⟩
end
end Go.Proofs.YtcdbjlmegkcaiaaGreatDoor
