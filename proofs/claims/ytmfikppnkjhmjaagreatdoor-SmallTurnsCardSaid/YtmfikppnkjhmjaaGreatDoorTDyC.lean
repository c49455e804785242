/-
  Layer 3, walks, part one: numbers in memory; which may be; a number put together.
-/
import Derived.Test.YtmfikppnkjhmjaaGreatDoorTDyB
import Derived.Test.YtmfikppnkjhmjaaGreatDoorTNR3
import Derived.Handy
namespace Go.Proofs.YtmfikppnkjhmjaaGreatDoor
open Go.RowKit
set_option linter.unusedVariables false

/-- a number as Go has it -/
abbrev dyV (b : Bool) (A : Option Addr) (n c : Nat) (x : Int) : Value := .agg #[.bool b, .slice A n c, .int .i64 x]
/-- the fields are a normal number -/
def Dn (b : Bool) (l : List Int) (x : Int) (d : Nf) : Prop := Normal l ∧ l.length ≤ 4096 ∧ d = ⟨b, (val 18446744073709551616 l).toNat, x⟩ ∧ d.Ok
/-- a normal number is handed back, with an error's number -/
def DyK (d : Nf) (k : Int) (w : World) (e : Ending) (w' : World) : Prop :=
  ∃ b l A c x, e = .returned (.tuple #[dyV b A l.length c x, .int .i64 k]) ∧ Dn b l x d ∧ Lv w' A l.length c l ∧ Below w.heap.size w w'
/-- a normal number alone -/
def DyP (d : Nf) (w : World) (e : Ending) (w' : World) : Prop :=
  ∃ b l A c x, e = .returned (dyV b A l.length c x) ∧ Dn b l x d ∧ Lv w' A l.length c l ∧ Below w.heap.size w w'

theorem lim_val {l : List Int} (h : Lim 18446744073709551616 l) : 0 ≤ val 18446744073709551616 l := (val_bound (by omega) h).1
theorem lv_len {W : World} {A : Option Addr} {n c : Nat} {l : List Int} (h : Lv W A n c l) : l.length = n := h.1
theorem Dn.zero : Dn false [] 0 zeroN := ⟨.inl rfl, by simp, by rw [val_nil]; rfl, zeroN_ok⟩
theorem Dn.man {b : Bool} {l : List Int} {x : Int} {d : Nf} (h : Dn b l x d) (hl : Lim 18446744073709551616 l) : (d.man : Int) = val 18446744073709551616 l := by
  rw [h.2.2.1]
  have := lim_val hl
  simp only
  omega
theorem Dn.neg {b : Bool} {l : List Int} {x : Int} {d : Nf} (h : Dn b l x d) : d.neg = b := by rw [h.2.2.1]
theorem Dn.exp {b : Bool} {l : List Int} {x : Int} {d : Nf} (h : Dn b l x d) : d.exp = x := by rw [h.2.2.1]
theorem Dn.nil {b : Bool} {l : List Int} {x : Int} {d : Nf} (h : Dn b l x d) (hl : Lim 18446744073709551616 l) : l.length = 0 ↔ d.man = 0 := by
  have h1 := h.man hl
  constructor
  · intro h0
    have : l = [] := List.eq_nil_of_length_eq_zero h0
    subst this
    rw [val_nil] at h1
    omega
  · intro h0
    have := val_eq_zero (b := 18446744073709551616) (by omega) hl h.1 (by omega)
    rw [this]; rfl
theorem Dn.is {b : Bool} {l : List Int} {x : Int} {d : Nf} (h : Dn b l x d) (hl : Lim 18446744073709551616 l) : nfl b (val 18446744073709551616 l) x = d := by
  have := nfl_self h.2.2.2
  rw [h.neg, h.exp, h.man hl] at this
  exact this
/-- of one normal number there is one form -/
theorem Dn.uniq {b b' : Bool} {l l' : List Int} {x x' : Int} {d : Nf} (h : Dn b l x d) (h' : Dn b' l' x' d) (hl : Lim 18446744073709551616 l) (hl' : Lim 18446744073709551616 l') : b' = b ∧ l' = l ∧ x' = x := by
  refine ⟨by rw [← h.neg, ← h'.neg], ?_, by rw [← h.exp, ← h'.exp]⟩
  exact normal_unique (b := 18446744073709551616) (by omega) hl' hl h'.1 h.1 (by rw [← h.man hl, ← h'.man hl'])
theorem Dn.of {b : Bool} {l : List Int} {x : Int} (hl : Lim 18446744073709551616 l) (hn : Normal l) (hk : l.length ≤ 4096) (ho : val 18446744073709551616 l % 2 = 1) : Dn b l x ⟨b, (val 18446744073709551616 l).toNat, x⟩ := by
  have := lim_val hl
  exact ⟨hn, hk, rfl, .inr (by simp only; omega)⟩
/-- the block g is just these cells, and free -/
def Blk (w : World) (g : Nat) (vs : List Value) : Prop := ∃ T, w.heap[g]? = some (.cells vs.toArray T (0, 0))
/-- none of these is a limb -/
def NoU (vs : List Value) : Prop := ∀ (i : Nat) (y : Int), vs[i]? ≠ some (Value.int .u64 y)
section
variable {w w' : World} {g g' B : Nat} {vs : List Value}
theorem Blk.new (w : World) (vs : List Value) (T : TypeId) : Blk (w.alloc (.cells vs.toArray T)) w.heap.size vs := ⟨T, heap_alloc_new w _⟩
theorem Blk.lt (h : Blk w g vs) : g < w.heap.size := by obtain ⟨T, h⟩ := h; exact lt_of_block h
theorem Blk.below (h : Blk w g vs) (hb : Below B w w') (hg : g < B) : Blk w' g vs := by
  obtain ⟨T, h⟩ := h
  exact ⟨T, (hb.block g hg).trans h⟩
theorem Blk.on (h : Blk w g vs) (hb : Below w.heap.size w w') : Blk w' g vs := h.below hb h.lt
theorem Blk.alloc (h : Blk w g vs) (o : Obj) : Blk (w.alloc o) g vs := h.on ((Below.refl _ w).alloc (Nat.le_refl _) o)
theorem Blk.drewN (h : Blk w g vs) (n : Nat) : Blk (w.drewN n) g vs := h
theorem Blk.cell (h : Blk w g vs) (i : Nat) {v : Value} (hv : vs[i]? = some v) : w.cell? ⟨g, i, none⟩ = some v := by
  obtain ⟨T, h⟩ := h
  simp [World.cell?, h, hv]
theorem Blk.free (h : Blk w g vs) (i : Nat) : w.frozen? ⟨g, i, none⟩ = false := by
  obtain ⟨T, h⟩ := h
  simp [World.frozen?, h]
theorem Blk.set_ (h : Blk w g vs) (i : Nat) (u : Value) : Blk (w.setCell ⟨g, i, none⟩ u) g (vs.set i u) := by
  obtain ⟨T, h⟩ := h
  refine ⟨T, ?_⟩
  simp [World.setCell, Array.getElem?_modify, h]
theorem Blk.far (h : Blk w g vs) {p : Addr} (hp : g ≠ p.block) (u : Value) : Blk (w.setCell p u) g vs := by
  obtain ⟨T, h⟩ := h
  exact ⟨T, (Below.heap_setCell w p u g hp).trans h⟩
theorem Blk.not (h : Blk w g vs) (hu : NoU vs) {p : Addr} {y : Int} (hc : w.cell? p = some (.int .u64 y)) : p.block ≠ g := by
  intro e
  obtain ⟨T, h⟩ := h
  subst e
  unfold World.cell? at hc
  rw [h] at hc
  simp only at hc
  split at hc
  · cases hc
  · exact hu p.off y (by simpa using hc)
/-- a number stays what it is where such a block is written -/
theorem Lv.setB {A : Option Addr} {n c : Nat} {l : List Int} (h : Lv w A n c l) (hg : Blk w g vs) (hu : NoU vs) (i : Nat) (u : Value) : Lv (w.setCell ⟨g, i, none⟩ u) A n c l := by
  refine ⟨h.1, ⟨h.2.1.1, h.2.1.2.1, fun hn => ?_⟩, h.2.2⟩
  obtain ⟨ad, e, hb, hc⟩ := h.2.1.2.2 hn
  refine ⟨ad, e, by simpa using hb, fun k hk => ?_⟩
  have hne := hg.not hu (hc k hk)
  rw [World.cell?_setCell_other _ _ _ _ (fun e2 => hne (by rw [← e2])), hc k hk]
end
/-- a block that holds a number's fields -/
abbrev Dbx (w : World) (g : Nat) (b : Bool) (A : Option Addr) (n c : Nat) (x : Int) : Prop := Blk w g [.bool b, .slice A n c, .int .i64 x]
theorem noU3 (b : Bool) (A : Option Addr) (n c : Nat) (x : Int) : NoU [.bool b, .slice A n c, .int .i64 x] := by
  intro i y
  rcases i with _ | _ | _ | i <;> simp
section
variable {w : World} {g : Nat} {b : Bool} {A : Option Addr} {n c : Nat} {x : Int}
theorem Dbx.cells (h : Dbx w g b A n c x) : w.cell? ⟨g, 0, none⟩ = some (.bool b) ∧ w.cell? ⟨g, 1, none⟩ = some (.slice A n c) ∧ w.cell? ⟨g, 2, none⟩ = some (.int .i64 x) ∧ w.frozen? ⟨g, 0, none⟩ = false ∧ w.frozen? ⟨g, 1, none⟩ = false ∧ w.frozen? ⟨g, 2, none⟩ = false :=
  ⟨Blk.cell h 0 rfl, Blk.cell h 1 rfl, Blk.cell h 2 rfl, Blk.free h 0, Blk.free h 1, Blk.free h 2⟩
theorem Dbx.put (h : Dbx w g b A n c x) (b' : Bool) (A' : Option Addr) (n' c' : Nat) (x' : Int) :
    Dbx (((w.setCell ⟨g, 0, none⟩ (.bool b')).setCell ⟨g, 1, none⟩ (.slice A' n' c')).setCell ⟨g, 2, none⟩ (.int .i64 x')) g b' A' n' c' x' :=
  ((Blk.set_ h 0 _).set_ 1 _).set_ 2 _
theorem Blk.putO {w : World} {g' : Nat} {vs : List Value} (h : Blk w g' vs) (hne : g' ≠ g) (u v r : Value) :
    Blk (((w.setCell ⟨g, 0, none⟩ u).setCell ⟨g, 1, none⟩ v).setCell ⟨g, 2, none⟩ r) g' vs := ((h.far hne _).far hne _).far hne _
theorem Lv.put {A2 : Option Addr} {n2 c2 : Nat} {l : List Int} (h : Lv w A2 n2 c2 l) (hg : Dbx w g b A n c x) (b' : Bool) (A' : Option Addr) (n' c' : Nat) (x' : Int) :
    Lv (((w.setCell ⟨g, 0, none⟩ (.bool b')).setCell ⟨g, 1, none⟩ (.slice A' n' c')).setCell ⟨g, 2, none⟩ (.int .i64 x')) A2 n2 c2 l :=
  (((h.setB hg (noU3 _ _ _ _ _) 0 _).setB (Blk.set_ hg 0 _) (noU3 b' A n c x) 1 _).setB ((Blk.set_ hg 0 _).set_ 1 _) (noU3 b' A' n' c' x) 2 _)
end
/-- how a number that is put together is answered -/
def ansR (b : Bool) (v x : Int) : Nf × Int := if v = 0 then (zeroN, 0) else doneR ⟨b, v.toNat, x⟩

section
variable {b : Bool} {A : Option Addr} {n c : Nat} {x : Int} {l : List Int} {w : World}
theorem Bits_lv (h : Lv w A n c l) (hn : n ≤ 4096) : Calls Tryz.prog 85 #[.slice A n c] w fun e w' => ∃ k : Nat, e = .returned (.tuple #[.int .i64 k, .int .i64 0]) ∧ Hid (IsBits (val 18446744073709551616 l) k) ∧ k ≤ 262144 ∧ w = w' := by
  have := Bits_any A c l w h.2.1 h.2.2 (norm_le h.1 hn)
  rw [h.1] at this
  refine this.mono ?_
  rintro e w' ⟨k, rfl, hk, rfl⟩
  refine ⟨k, rfl, hk, ?_, rfl⟩
  have := bits_le (N := 4096) (n := k) (v := val 18446744073709551616 l) ?_ hk
  · omega
  · have h1 := (val_bound (b := 18446744073709551616) (by omega) h.2.2).2
    exact Int.lt_of_lt_of_le h1 (pow_le' (by omega) (by rw [h.1]; exact hn))

set_option maxHeartbeats 1000000 in
theorem dyMay_any (h : Lv w A n c l) (hn : n ≤ 4096) :
    Calls Tryz.prog 67 #[dyV b A n c x] w fun e w' => e = .returned (.bool (okE x)) ∧ Below w.heap.size w w' := by
  have h1 := h.alloc (.cells #[.bool b, .slice A n c, .int .i64 x] 31)
  by_cases c1 : x < -262144
  · rw [okE_false.2 (.inl c1)]
    go_enter Tryz.func67, Tryz.ntmps67
    go_wp2_with (go_at_call 85; ((with_reducible refine (Bits_lv h1 hn).mono ?_); rintro e w1 ⟨k, rfl, hk, _, rfl⟩))
    go_ret
    exact ⟨rfl, by go_grown⟩
  · by_cases c2 : 262144 < x
    · rw [okE_false.2 (.inr c2)]
      have c3 : decide (x ≤ 262144) = false := by simp; omega
      go_enter Tryz.func67, Tryz.ntmps67
      go_wp2_with (go_at_call 85; ((with_reducible refine (Bits_lv h1 hn).mono ?_); rintro e w1 ⟨k, rfl, hk, _, rfl⟩))
      go_ret
      exact ⟨rfl, by go_grown⟩
    · rw [okE_true (by omega) (by omega)]
      go_enter Tryz.func67, Tryz.ntmps67
      go_wp2_with (go_at_call 85; ((with_reducible refine (Bits_lv h1 hn).mono ?_); rintro e w1 ⟨k, rfl, hk, _, rfl⟩))
      go_ret
      exact ⟨rfl, by go_grown⟩
theorem dyMay_yes (h : Lv w A n c l) (hn : n ≤ 4096) (ho : okE x = true) : Calls Tryz.prog 67 #[dyV b A n c x] w fun e w' => e = .returned (.bool true) ∧ Below w.heap.size w w' := by
  rw [← ho]; exact dyMay_any h hn
theorem dyMay_no (h : Lv w A n c l) (hn : n ≤ 4096) (ho : okE x = false) : Calls Tryz.prog 67 #[dyV b A n c x] w fun e w' => e = .returned (.bool false) ∧ Below w.heap.size w w' := by
  rw [← ho]; exact dyMay_any h hn
end
end Go.Proofs.YtmfikppnkjhmjaaGreatDoor
