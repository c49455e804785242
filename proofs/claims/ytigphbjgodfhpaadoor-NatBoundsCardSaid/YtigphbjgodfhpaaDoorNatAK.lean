/-
  Layer 2, walks, part thirty: Bit, Pow2.
-/
import Derived.Test.YtigphbjgodfhpaaDoorNatAJ
namespace Go.Proofs.YtigphbjgodfhpaaDoor
open Go.RowKit
set_option linter.unusedVariables false

theorem Bit_neg (A : Option Addr) (n c : Nat) (j : Int) (hj : j < 0) (w : World) :
    Calls Tryd.prog 41 #[.slice A n c, .int .i64 j] w fun e w' => e = .returned (.bool false) ∧ w = w' := by
  go_enter Tryd.func41, Tryd.ntmps41
  go_wp2_with fail
  go_ret
  exact ⟨rfl, rfl⟩

set_option maxHeartbeats 1000000 in
theorem Bit_any (A : Option Addr) (c : Nat) (l : List Int) (j : Nat) (hj : j ≤ 9223372036854775807) (w : World) (B : Nat) (h : Nums w B A c l) (hl : Lim 18446744073709551616 l) :
    Calls Tryd.prog 41 #[.slice A l.length c, .int .i64 j] w fun e w' => e = .returned (.bool (decide (D l (j / 64) / 2 ^ (j % 64) % 2 = 1))) ∧ w = w' := by
  have hL := limb_at A c l (j / 64) ((j : Int) / 64) (by omega) w B h
  have hd := D_lim (b := 18446744073709551616) (by omega) hl (j / 64)
  obtain ⟨x, hx⟩ : ∃ x, D l (j / 64) = x := ⟨_, rfl⟩
  rw [hx] at hL hd ⊢
  go_enter Tryd.func41, Tryd.ntmps41
  go_wp2_with (go_at_call 66; ((with_reducible refine hL.mono ?_); rintro e w' ⟨rfl, rfl⟩))
  go_ret
  have hp := two_pos (j % 64)
  have hx0 : 0 ≤ x / 2 ^ (j % 64) := Int.ediv_nonneg hd.1 (Int.le_of_lt hp)
  have hx1 : x / 2 ^ (j % 64) < 18446744073709551616 := Int.lt_of_le_of_lt (Int.ediv_le_self _ hd.1) hd.2
  have hb := and_low 1 (by omega) (x / 2 ^ (j % 64)) hx0 hx1
  rw [show ((2 : Int) ^ 1 - 1) = 1 from rfl, show ((2 : Int) ^ 1) = 2 from rfl] at hb
  rw [hb]
  exact ⟨rfl, rfl⟩

/-- two values are handed back -/
def Pair (R : World → Value → Value → World → Prop) (w : World) (e : Ending) (w' : World) : Prop := ∃ x y, e = .returned (.tuple #[x, y]) ∧ R w x y w'

set_option maxHeartbeats 1000000 in
theorem Pow2_gen (k : Int) (R : World → Value → Value → World → Prop) (w : World) (hR : ∀ w' x y w'', Below w.heap.size w w' → R w' x y w'' → R w x y w'')
    (hS : ∀ s A c w', Lim 18446744073709551616 s → Normal s → val 18446744073709551616 s = 1 → Nums w' w'.heap.size A c s → Calls Tryd.prog 31 #[.slice A s.length c, .int .i64 k] w' (Pair R w')) :
    Calls Tryd.prog 32 #[.int .i64 k] w (Pair R w) := by
  go_enter Tryd.func32, Tryd.ntmps32
  go_wp2_with (first
    | (go_at_call 47; ((with_reducible refine (ofMade 1 _ (by omega) (by omega)).mono ?_); rintro e w' ⟨s, A, c, rfl, h1, h2, h3, h4, h5⟩; have hq := hS s A c w' h1 h2 h3 h4.nums))
    | (go_at_call 31; ((with_reducible refine hq.mono ?_); rintro e w'' ⟨x, y, rfl, hr⟩)))
  go_ret2
  exact ⟨x, y, rfl, hR _ _ _ _ h5 hr⟩

def R2 (v : Int) (w : World) (x y : Value) (w' : World) : Prop :=
  ∃ s A c, x = .slice A s.length c ∧ y = .int .i64 0 ∧ Lim 18446744073709551616 s ∧ Normal s ∧ val 18446744073709551616 s = v ∧ Own w' w.heap.size A c s ∧ Below w.heap.size w w'
def RF (n : Int) (w : World) (x y : Value) (w' : World) : Prop := x = .slice none 0 0 ∧ y = .int .i64 n ∧ Below w.heap.size w w'
theorem made2_pair {v : Int} {w : World} {e : Ending} {w' : World} : Made2 v w e w' ↔ Pair (R2 v) w e w' :=
  ⟨fun ⟨s, A, c, h, r⟩ => ⟨_, _, h, s, A, c, rfl, rfl, r⟩, fun ⟨_, _, h, s, A, c, h1, h2, r⟩ => ⟨s, A, c, by rw [h, h1, h2], r⟩⟩
theorem fails_pair {n : Int} {w : World} {e : Ending} {w' : World} : Fails n w e w' ↔ Pair (RF n) w e w' :=
  ⟨fun ⟨h, r⟩ => ⟨_, _, h, rfl, rfl, r⟩, fun ⟨_, _, h, h1, h2, r⟩ => ⟨by rw [h, h1, h2], r⟩⟩
theorem R2.on {v : Int} {w w' w'' : World} {x y : Value} (hb : Below w.heap.size w w') (h : R2 v w' x y w'') : R2 v w x y w'' := by
  obtain ⟨s, A, c, h1, h2, h3, h4, h5, h6, h7⟩ := h
  exact ⟨s, A, c, h1, h2, h3, h4, h5, h6.less hb.size, hb.trans (h7.mono hb.size)⟩
theorem RF.on {n : Int} {w w' w'' : World} {x y : Value} (hb : Below w.heap.size w w') (h : RF n w' x y w'') : RF n w x y w'' :=
  ⟨h.1, h.2.1, hb.trans (h.2.2.mono hb.size)⟩

theorem one_len {s : List Int} (h1 : Lim 18446744073709551616 s) (h2 : Normal s) (h3 : val 18446744073709551616 s = 1) : (norm s).length ≤ 4096 := by
  have := length_le_of_lt (b := 18446744073709551616) (k := 1) (by omega) h1 h2 (by rw [h3]; decide)
  have := norm_length s
  omega

theorem Pow2_any (k : Nat) (hk : (2 : Int) ^ k < 2 ^ 262144) (w : World) : Calls Tryd.prog 32 #[.int .i64 k] w (Made2 (2 ^ k) w) := by
  refine (Pow2_gen k (R2 (2 ^ k)) w (fun _ _ _ _ => R2.on) fun s A c w' h1 h2 h3 h4 => ?_).mono fun e w' h => made2_pair.2 h
  have := Shl_any A c s w' h4 h1 (one_len h1 h2 h3) k (by rw [h3]; omega) (by rw [h3, Int.one_mul]; exact hk)
  rw [h3, Int.one_mul] at this
  exact this.mono fun e w' h => made2_pair.1 h

theorem Pow2_long (k : Nat) (hj : k ≤ 9223372036854775807) (hk : (2 : Int) ^ 262144 ≤ 2 ^ k) (w : World) : Calls Tryd.prog 32 #[.int .i64 k] w (Fails 3 w) := by
  refine (Pow2_gen k (RF 3) w (fun _ _ _ _ => RF.on) fun s A c w' h1 h2 h3 h4 => ?_).mono fun e w' h => fails_pair.2 h
  exact (Shl_long A c s w' h4 h1 (one_len h1 h2 h3) k hj (by rw [h3]; omega) (by rw [h3, Int.one_mul]; exact hk)).mono fun e w' h => fails_pair.1 h

theorem Pow2_neg (k : Int) (hk : k < 0) (w : World) : Calls Tryd.prog 32 #[.int .i64 k] w (Fails 2 w) := by
  refine (Pow2_gen k (RF 2) w (fun _ _ _ _ => RF.on) fun s A c w' h1 h2 h3 h4 => ?_).mono fun e w' h => fails_pair.2 h
  exact (Shl_neg A c s w' h4 h1 (one_len h1 h2 h3) k hk).mono fun e w' h => fails_pair.1 h
end Go.Proofs.YtigphbjgodfhpaaDoor
