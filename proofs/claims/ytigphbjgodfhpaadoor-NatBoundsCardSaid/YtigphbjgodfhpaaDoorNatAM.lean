/-
  Layer 2, the laws, part one: what the program answers at numbers that are written out.
-/
import Derived.Test.YtigphbjgodfhpaaDoorNatAL
namespace Go.Proofs.YtigphbjgodfhpaaDoor
open Go.RowKit
set_option linter.unusedVariables false

/-- a slice of n limbs reads l -/
def Lv (W : World) (A : Option Addr) (n c : Nat) (l : List Int) : Prop := l.length = n ∧ Nums W W.heap.size A c l ∧ Lim 18446744073709551616 l

theorem Lv.on {W W' : World} {A : Option Addr} {n c : Nat} {l : List Int} (h : Lv W A n c l) (hb : Below W.heap.size W W') : Lv W' A n c l := ⟨h.1, h.2.1.on hb (Nat.le_refl _), h.2.2⟩
theorem Lv.alloc {W : World} {A : Option Addr} {n c : Nat} {l : List Int} (h : Lv W A n c l) (o : Obj) : Lv (W.alloc o) A n c l := h.on ((Below.refl _ W).alloc (Nat.le_refl _) o)
theorem Lv.row (W : World) (l : List Int) (n g : Nat) (hg : W.heap.size = g) (hn : l.length = n) (hm : n ≤ 1000000) (hl : Lim 18446744073709551616 l) (o : Obj) (ho : o = .cells (L l).toArray 39) : Lv (W.alloc o) (some ⟨g, 0, none⟩) n n l := by
  subst hg
  subst hn
  subst ho
  have hr : Row (W.alloc (.cells (L l).toArray 39)) W.heap.size l := heap_alloc_new W _
  have := hr.nums (B := (W.alloc (.cells (L l).toArray 39)).heap.size) (c := l.length) 0 l.length (by omega) (Nat.le_refl _) (by unfold maxLen; omega) (by simp)
  rw [List.drop_zero, List.take_length] at this
  exact ⟨rfl, this, hl⟩
theorem Lv.at {W : World} {ad : Addr} {n c : Nat} {l : List Int} (h : Lv W (some ad) n c l) (k : Nat) (hk : k < n) : W.cell? (ad.add k) = some (.int .u64 (D l k)) := h.2.1.at_some (by rw [h.1]; exact hk)

/-- a list of limbs is the number that is asked -/
def Okl (l : List Int) : Prop := Lim 18446744073709551616 l ∧ Normal l ∧ l.length ≤ 4096

def GoodN (n : Nat) (l : List Int) (w : World) (e : Ending) (w' : World) : Prop :=
  ∃ A c, e = .returned (.tuple #[.slice A n c, .int .i64 0]) ∧ Lv w' A n c l ∧ Below w.heap.size w w'

theorem Made2.good {v : Int} {w w' : World} {e : Ending} {n : Nat} {r : List Int} (h : Made2 v w e w') (hr : Okl r) (hn : r.length = n) (hv : v = val 18446744073709551616 r) : GoodN n r w e w' := by
  obtain ⟨s, A, c, h1, h2, h3, h4, h5, h6⟩ := h
  obtain rfl : s = r := normal_unique (b := 18446744073709551616) (by omega) h2 hr.1 h3 hr.2.1 (by rw [h4, hv])
  subst hn
  exact ⟨A, c, h1, ⟨rfl, h5.nums, h2⟩, h6⟩

theorem Okl.bd {r : List Int} (h : Okl r) : val 18446744073709551616 r < 18446744073709551616 ^ 4096 :=
  Int.lt_of_lt_of_le (val_bound (by omega) h.1).2 (pow_le' (by omega) h.2.2)
theorem norm_le {l : List Int} {n : Nat} (h : l.length = n) (hn : n ≤ 4096) : (norm l).length ≤ 4096 := by have := norm_length l; omega

section
variable {A A2 : Option Addr} {n m c c2 : Nat} {l s r : List Int} {w : World} (h : Lv w A n c l) (h2 : Lv w A2 m c2 s) (hn : n ≤ 4096) (hm : m ≤ 4096)
include h hn

section
include h2 hm
theorem Add_good {k : Nat} (hr : Okl r) (hk : r.length = k) (hv : val 18446744073709551616 l + val 18446744073709551616 s = val 18446744073709551616 r) :
    Calls Tryd.prog 23 #[.slice A n c, .slice A2 m c2] w (GoodN k r w) := by
  have := Add_any A c l A2 c2 s w h.2.1 h.2.2 h2.2.1 h2.2.2 (norm_le h.1 hn) (norm_le h2.1 hm) (by rw [hv]; exact hr.bd)
  rw [h.1, h2.1] at this
  exact this.mono fun e w' q => q.good hr hk hv
theorem Sub_good {k : Nat} (hr : Okl r) (hk : r.length = k) (hv : val 18446744073709551616 l = val 18446744073709551616 s + val 18446744073709551616 r) :
    Calls Tryd.prog 25 #[.slice A n c, .slice A2 m c2] w (GoodN k r w) := by
  have h0 := (val_bound (b := 18446744073709551616) (by omega) hr.1).1
  have := Sub_any A c l A2 c2 s w h.2.1 h.2.2 h2.2.1 h2.2.2 (norm_le h.1 hn) (norm_le h2.1 hm) (by omega)
  rw [h.1, h2.1] at this
  exact this.mono fun e w' q => q.good hr hk (by omega)
theorem Sub_bad (hv : val 18446744073709551616 l < val 18446744073709551616 s) :
    Calls Tryd.prog 25 #[.slice A n c, .slice A2 m c2] w (Fails 2 w) := by
  have := Sub_less A c l A2 c2 s w h.2.1 h.2.2 h2.2.1 h2.2.2 (norm_le h.1 hn) (norm_le h2.1 hm) hv
  rw [h.1, h2.1] at this
  exact this
theorem Mul_good {k : Nat} (hr : Okl r) (hk : r.length = k) (hv : val 18446744073709551616 l * val 18446744073709551616 s = val 18446744073709551616 r) :
    Calls Tryd.prog 27 #[.slice A n c, .slice A2 m c2] w (GoodN k r w) := by
  have := Mul_any A c l A2 c2 s w h.2.1 h.2.2 h2.2.1 h2.2.2 (norm_le h.1 hn) (norm_le h2.1 hm) (by rw [hv]; exact hr.bd)
  rw [h.1, h2.1] at this
  exact this.mono fun e w' q => q.good hr hk hv

def Good2 (n : Nat) (l : List Int) (m : Nat) (s : List Int) (w : World) (e : Ending) (w' : World) : Prop :=
  ∃ A c A2 c2, e = .returned (.tuple #[.slice A n c, .slice A2 m c2, .int .i64 0]) ∧ Lv w' A n c l ∧ Lv w' A2 m c2 s ∧ Below w.heap.size w w'

theorem Div_good {k k2 : Nat} {q r : List Int} (hq : Okl q) (hr : Okl r) (hk : q.length = k) (hk2 : r.length = k2) (hv : val 18446744073709551616 l = val 18446744073709551616 q * val 18446744073709551616 s + val 18446744073709551616 r)
    (hlt : val 18446744073709551616 r < val 18446744073709551616 s) :
    Calls Tryd.prog 29 #[.slice A n c, .slice A2 m c2] w (Good2 k q k2 r w) := by
  have hr0 := (val_bound (b := 18446744073709551616) (by omega) hr.1).1
  have hq0 := (val_bound (b := 18446744073709551616) (by omega) hq.1).1
  have := Div_any A c l A2 c2 s w h.2.1 h.2.2 h2.2.1 h2.2.2 (norm_le h.1 hn) (norm_le h2.1 hm) (by omega)
  rw [h.1, h2.1] at this
  refine this.mono ?_
  rintro e w' ⟨q', r', A1, c1, A3, c3, rfl, l1, l2, n1, n2, ⟨e1, e2⟩, o1, o2, hb⟩
  have hr1 := (val_bound (b := 18446744073709551616) (by omega) l2).1
  have hd : val 18446744073709551616 q' = val 18446744073709551616 q ∧ val 18446744073709551616 r' = val 18446744073709551616 r := by
    rw [hv] at e1
    generalize val 18446744073709551616 q = Q at *
    generalize val 18446744073709551616 q' = Q' at *
    generalize val 18446744073709551616 r = R at *
    generalize val 18446744073709551616 r' = R' at *
    generalize val 18446744073709551616 s = S at *
    have hS : 0 < S := by omega
    have h5 : (Q * S + R) / S = Q := by rw [Int.add_comm, Int.add_mul_ediv_right _ _ (by omega), Int.ediv_eq_zero_of_lt hr0 hlt]; omega
    have h6 : (Q' * S + R') / S = Q' := by rw [Int.add_comm, Int.add_mul_ediv_right _ _ (by omega), Int.ediv_eq_zero_of_lt hr1 e2]; omega
    have h7 : Q = Q' := by rw [← h5, e1, h6]
    subst h7
    exact ⟨rfl, by omega⟩
  obtain rfl := normal_unique (b := 18446744073709551616) (by omega) l1 hq.1 n1 hq.2.1 hd.1
  obtain rfl := normal_unique (b := 18446744073709551616) (by omega) l2 hr.1 n2 hr.2.1 hd.2
  exact ⟨A1, c1, A3, c3, by rw [hk, hk2], ⟨hk, o1.nums, l1⟩, ⟨hk2, o2.nums, l2⟩, hb⟩
end

theorem Shl_good {k : Nat} (hr : Okl r) (hk : r.length = k) (j : Nat) (i : Int) (hi : i = (j : Int)) (hv0 : val 18446744073709551616 l ≠ 0) (hv : val 18446744073709551616 l * 2 ^ j = val 18446744073709551616 r) :
    Calls Tryd.prog 31 #[.slice A n c, .int .i64 i] w (GoodN k r w) := by
  subst hi
  have hb := hr.bd
  rw [show (18446744073709551616 : Int) ^ 4096 = 2 ^ 262144 by rw [show (262144 : Nat) = 64 * 4096 from rfl, ← pow64]] at hb
  have := Shl_any A c l w h.2.1 h.2.2 (norm_le h.1 hn) j hv0 (by rw [hv]; exact hb)
  rw [h.1] at this
  exact this.mono fun e w' q => q.good hr hk hv

def Good3 (n : Nat) (l : List Int) (b : Bool) (w : World) (e : Ending) (w' : World) : Prop :=
  ∃ A c, e = .returned (.tuple #[.slice A n c, .bool b, .int .i64 0]) ∧ Lv w' A n c l ∧ Below w.heap.size w w'
theorem Shr_good {k : Nat} (hr : Okl r) (hk : r.length = k) (hT : Tab w) (j : Nat) (i : Int) (hi : i = (j : Int)) (hj : j ≤ 1000000) (b : Bool) (hb : lostB (val 18446744073709551616 l) j = b) (hv : val 18446744073709551616 l / 2 ^ j = val 18446744073709551616 r) :
    Calls Tryd.prog 35 #[.slice A n c, .int .i64 i] w (Good3 k r b w) := by
  subst hi
  have := Shr_any A c l w h.2.1 h.2.2 (norm_le h.1 hn) hT j (by omega)
  rw [h.1] at this
  refine this.mono ?_
  rintro e w' ⟨s, A1, c1, rfl, h1, h2, h3, h4, h5⟩
  obtain rfl := normal_unique (b := 18446744073709551616) (by omega) h1 hr.1 h2 hr.2.1 (by rw [h3, hv])
  exact ⟨A1, c1, by rw [hk, hb], ⟨hk, h4.nums, h1⟩, h5⟩

theorem Sqrt_good {k k2 : Nat} {q r : List Int} (hq : Okl q) (hr : Okl r) (hk : q.length = k) (hk2 : r.length = k2) (hv : ∀ s t : Int, IsRoot (val 18446744073709551616 l) s t → s = val 18446744073709551616 q ∧ t = val 18446744073709551616 r) :
    Calls Tryd.prog 30 #[.slice A n c] w (Good2 k q k2 r w) := by
  have := Sqrt_any A c l w h.2.1 h.2.2 (norm_le h.1 hn)
  rw [h.1] at this
  refine this.mono ?_
  rintro e w' ⟨q', r', A1, c1, A3, c3, rfl, l1, l2, n1, n2, hroot, o1, o2, hb⟩
  obtain ⟨e1, e2⟩ := hv _ _ hroot.out
  obtain rfl := normal_unique (b := 18446744073709551616) (by omega) l1 hq.1 n1 hq.2.1 e1
  obtain rfl := normal_unique (b := 18446744073709551616) (by omega) l2 hr.1 n2 hr.2.1 e2
  exact ⟨A1, c1, A3, c3, by rw [hk, hk2], ⟨hk, o1.nums, l1⟩, ⟨hk2, o2.nums, l2⟩, hb⟩

theorem Bits_good (k : Nat) (i : Int) (hi : i = (k : Int)) (hk : IsBits (val 18446744073709551616 l) k) : Calls Tryd.prog 37 #[.slice A n c] w fun e w' => e = .returned (.tuple #[.int .i64 i, .int .i64 0]) ∧ w = w' := by
  subst hi
  have := Bits_any A c l w h.2.1 h.2.2 (norm_le h.1 hn)
  rw [h.1] at this
  refine this.mono ?_
  rintro e w' ⟨k', rfl, hb, rfl⟩
  obtain rfl := hb.unique hk
  exact ⟨rfl, rfl⟩

theorem Zeros_good (hT : Tab w) (k : Nat) (i : Int) (hi : i = (k : Int)) (h0 : val 18446744073709551616 l ≠ 0) (hk : ∀ j, IsZeros (val 18446744073709551616 l) j → j = k) : Calls Tryd.prog 38 #[.slice A n c] w fun e w' => e = .returned (.tuple #[.int .i64 i, .int .i64 0]) ∧ w = w' := by
  subst hi
  have := Zeros_any A c l w h.2.1 h.2.2 (norm_le h.1 hn) hT
  rw [h.1] at this
  refine this.mono ?_
  rintro e w' ⟨k', rfl, _, hb, rfl⟩
  obtain rfl := hk _ (hb h0)
  exact ⟨rfl, rfl⟩

theorem Text_good (t : List UInt8) (ht : txt (val 18446744073709551616 l).toNat = t) : Calls Tryd.prog 43 #[.slice A n c] w fun e w' => e = .returned (.tuple #[.string ⟨t.toArray⟩, .int .i64 0]) ∧ Below w.heap.size w w' := by
  have := Text_any A c l w h.2.1 h.2.2 (norm_le h.1 hn)
  rw [h.1] at this
  subst ht
  exact this

omit hn in
/-- 'is' at a number that is the one that is asked -/
theorem is_true {c3 : Nat} {A3 : Option Addr} (h3 : Lv w A3 n c3 l) : Calls Tryd.prog 48 #[.slice A n c, .int .i64 0, .slice A3 n c3] w fun e w' => e = .returned (.bool true) ∧ Below w.heap.size w w' := by
  have hs := same_true A c A3 c3 l w _ _ h.2.1 h3.2.1
  rw [h.1] at hs
  go_enter Tryd.func48, Tryd.ntmps48
  go_wp2_with (first
    | (go_at_call 20; ((with_reducible refine (num_any 0 _).mono ?_); rintro e w' ⟨rfl, rfl⟩))
    | (go_at_call 21; ((with_reducible refine hs.mono ?_); rintro e w' ⟨rfl, k, rfl⟩)))
  go_ret
  exact ⟨rfl, below_drewN (Below.refl _ _) _⟩
end
theorem Read_good {s : ByteArray} {k : Nat} {r : List Int} {w : World} (hs : OkText s.data.toList) (hr : Okl r) (hk : r.length = k) (hv : dval s.data.toList = val 18446744073709551616 r) : Calls Tryd.prog 44 #[.string s] w (GoodN k r w) :=
  (Read_any s hs w (by rw [hv]; exact hr.bd)).mono fun e w' q => q.good hr hk hv
end Go.Proofs.YtigphbjgodfhpaaDoor
