/-
  Layer 4, walks, part four: what a float stands for; a number rounded. Layer 4, walks, part five: a number of exact ones; a number rounded.
-/
import Derived.Test.YtfjellhbcjnjkaaGreatDoorSgB
import Derived.Test.YtfjellhbcjnjkaaGreatDoorSDyU
namespace Go.Proofs.YtfjellhbcjnjkaaGreatDoor
open Go.RowKit Go.Sort Go.Bw
set_option linter.unusedVariables false
set_option linter.unusedSimpArgs false

/-- a number as Go has it -/
abbrev nuV (k : Int) (s : Bool) (b : Bool) (A : Option Addr) (n c : Nat) (x : Int) : Value := .agg #[.int .i64 k, .bool s, .bool b, .slice A n c, .int .i64 x]
/-- such a number is handed back -/
def NuP (d : Nu) (w : World) (e : Ending) (w' : World) : Prop :=
  ∃ b l A c x, e = .returned (nuV d.c d.neg b A l.length c x) ∧ Dn b l x d.d ∧ Lv w' A l.length c l ∧ Below w.heap.size w w'
section
variable {b : Bool} {A : Option Addr} {n c : Nat} {x : Int} {l : List Int} {w : World}
abbrev Nbx (w : World) (g : Nat) (k : Int) (s b : Bool) (A : Option Addr) (n c : Nat) (x : Int) : Prop := Blk w g [.int .i64 k, .bool s, .bool b, .slice A n c, .int .i64 x]
theorem noU5 (k : Int) (s b : Bool) (A : Option Addr) (n c : Nat) (x : Int) : NoU [.int .i64 k, .bool s, .bool b, .slice A n c, .int .i64 x] := by
  intro i y
  rcases i with _ | _ | _ | _ | _ | i <;> simp
section
variable {g : Nat} {k : Int} {s : Bool} {A2 : Option Addr} {n2 c2 : Nat} {l2 : List Int}
theorem Nbx.cells (h : Nbx w g k s b A n c x) : w.cell? ⟨g, 0, none⟩ = some (.int .i64 k) ∧ w.cell? ⟨g, 1, none⟩ = some (.bool s) ∧ w.cell? ⟨g, 2, none⟩ = some (.bool b) ∧ w.cell? ⟨g, 3, none⟩ = some (.slice A n c) ∧ w.cell? ⟨g, 4, none⟩ = some (.int .i64 x) ∧ w.frozen? ⟨g, 0, none⟩ = false ∧ w.frozen? ⟨g, 1, none⟩ = false ∧ w.frozen? ⟨g, 2, none⟩ = false ∧ w.frozen? ⟨g, 3, none⟩ = false ∧ w.frozen? ⟨g, 4, none⟩ = false :=
  ⟨Blk.cell h 0 rfl, Blk.cell h 1 rfl, Blk.cell h 2 rfl, Blk.cell h 3 rfl, Blk.cell h 4 rfl, Blk.free h 0, Blk.free h 1, Blk.free h 2, Blk.free h 3, Blk.free h 4⟩
/-- class first, then the number; or the other way round -/
theorem Nbx.ordA (h : Nbx w g k s b A n c x) (k' : Int) (b' : Bool) (A' : Option Addr) (n' c' : Nat) (x' : Int) :
    Nbx ((((w.setCell ⟨g, 0, none⟩ (.int .i64 k')).setCell ⟨g, 2, none⟩ (.bool b')).setCell ⟨g, 3, none⟩ (.slice A' n' c')).setCell ⟨g, 4, none⟩ (.int .i64 x')) g k' s b' A' n' c' x' := (((Blk.set_ h 0 _).set_ 2 _).set_ 3 _).set_ 4 _
theorem Nbx.ordB (h : Nbx w g k s b A n c x) (k' : Int) (b' : Bool) (A' : Option Addr) (n' c' : Nat) (x' : Int) :
    Nbx ((((w.setCell ⟨g, 2, none⟩ (.bool b')).setCell ⟨g, 3, none⟩ (.slice A' n' c')).setCell ⟨g, 4, none⟩ (.int .i64 x')).setCell ⟨g, 0, none⟩ (.int .i64 k')) g k' s b' A' n' c' x' := (((Blk.set_ h 2 _).set_ 3 _).set_ 4 _).set_ 0 _
theorem Lv.ordA (h : Lv w A2 n2 c2 l2) (hg : Nbx w g k s b A n c x) (k' : Int) (b' : Bool) (A' : Option Addr) (n' c' : Nat) (x' : Int) :
    Lv ((((w.setCell ⟨g, 0, none⟩ (.int .i64 k')).setCell ⟨g, 2, none⟩ (.bool b')).setCell ⟨g, 3, none⟩ (.slice A' n' c')).setCell ⟨g, 4, none⟩ (.int .i64 x')) A2 n2 c2 l2 :=
  (((h.setB hg (noU5 _ _ _ _ _ _ _) 0 _).setB (Blk.set_ hg 0 _) (noU5 k' s b A n c x) 2 _).setB ((Blk.set_ hg 0 _).set_ 2 _) (noU5 k' s b' A n c x) 3 _).setB (((Blk.set_ hg 0 _).set_ 2 _).set_ 3 _) (noU5 k' s b' A' n' c' x) 4 _
theorem Lv.ordB (h : Lv w A2 n2 c2 l2) (hg : Nbx w g k s b A n c x) (k' : Int) (b' : Bool) (A' : Option Addr) (n' c' : Nat) (x' : Int) :
    Lv ((((w.setCell ⟨g, 2, none⟩ (.bool b')).setCell ⟨g, 3, none⟩ (.slice A' n' c')).setCell ⟨g, 4, none⟩ (.int .i64 x')).setCell ⟨g, 0, none⟩ (.int .i64 k')) A2 n2 c2 l2 :=
  (((h.setB hg (noU5 _ _ _ _ _ _ _) 2 _).setB (Blk.set_ hg 2 _) (noU5 k s b' A n c x) 3 _).setB ((Blk.set_ hg 2 _).set_ 3 _) (noU5 k s b' A' n' c' x) 4 _).setB (((Blk.set_ hg 2 _).set_ 3 _).set_ 4 _) (noU5 k s b' A' n' c' x') 0 _
theorem Blk.ordA {vs : List Value} {g' : Nat} (h : Blk w g' vs) (hne : g' ≠ g) (u0 u2 u3 u4 : Value) : Blk ((((w.setCell ⟨g, 0, none⟩ u0).setCell ⟨g, 2, none⟩ u2).setCell ⟨g, 3, none⟩ u3).setCell ⟨g, 4, none⟩ u4) g' vs := (((h.far hne _).far hne _).far hne _).far hne _
theorem Blk.ordB {vs : List Value} {g' : Nat} (h : Blk w g' vs) (hne : g' ≠ g) (u0 u2 u3 u4 : Value) : Blk ((((w.setCell ⟨g, 2, none⟩ u2).setCell ⟨g, 3, none⟩ u3).setCell ⟨g, 4, none⟩ u4).setCell ⟨g, 0, none⟩ u0) g' vs := (((h.far hne _).far hne _).far hne _).far hne _
/-- a whole number stored -/
theorem Lv.put5 (h : Lv w A2 n2 c2 l2) (hg : Nbx w g k s b A n c x) (k' : Int) (s' b' : Bool) (A' : Option Addr) (n' c' : Nat) (x' : Int) :
    Lv (((((w.setCell ⟨g, 0, none⟩ (.int .i64 k')).setCell ⟨g, 1, none⟩ (.bool s')).setCell ⟨g, 2, none⟩ (.bool b')).setCell ⟨g, 3, none⟩ (.slice A' n' c')).setCell ⟨g, 4, none⟩ (.int .i64 x')) A2 n2 c2 l2 :=
  ((((h.setB hg (noU5 _ _ _ _ _ _ _) 0 _).setB (Blk.set_ hg 0 _) (noU5 k' s b A n c x) 1 _).setB ((Blk.set_ hg 0 _).set_ 1 _) (noU5 k' s' b A n c x) 2 _).setB (((Blk.set_ hg 0 _).set_ 1 _).set_ 2 _) (noU5 k' s' b' A n c x) 3 _).setB ((((Blk.set_ hg 0 _).set_ 1 _).set_ 2 _).set_ 3 _) (noU5 k' s' b' A' n' c' x) 4 _
theorem Nbx.put5 (hg : Nbx w g k s b A n c x) (k' : Int) (s' b' : Bool) (A' : Option Addr) (n' c' : Nat) (x' : Int) :
    Nbx (((((w.setCell ⟨g, 0, none⟩ (.int .i64 k')).setCell ⟨g, 1, none⟩ (.bool s')).setCell ⟨g, 2, none⟩ (.bool b')).setCell ⟨g, 3, none⟩ (.slice A' n' c')).setCell ⟨g, 4, none⟩ (.int .i64 x')) g k' s' b' A' n' c' x' :=
  ((((Blk.set_ hg 0 _).set_ 1 _).set_ 2 _).set_ 3 _).set_ 4 _
theorem Blk.put5O {vs : List Value} {g' : Nat} (h : Blk w g' vs) (hne : g' ≠ g) (u0 u1 u2 u3 u4 : Value) : Blk (((((w.setCell ⟨g, 0, none⟩ u0).setCell ⟨g, 1, none⟩ u1).setCell ⟨g, 2, none⟩ u2).setCell ⟨g, 3, none⟩ u3).setCell ⟨g, 4, none⟩ u4) g' vs := ((((h.far hne _).far hne _).far hne _).far hne _).far hne _
end
theorem class_one (y : Nat) (hn : y ≤ 18446744073709551615) (w : World) : Calls Tryz.prog 72 #[.int .u64 (one (y : Int))] w fun e w' => e = .returned (.int .i64 (cls (y : Int))) ∧ w = w' := by
  obtain ⟨i0, i1⟩ := one_bd y hn
  have := class_any (one (y : Int)) i0 i1 w
  rwa [cls_one] at this
theorem pneg_one (y : Nat) (hn : y ≤ 18446744073709551615) : (one (y : Int) / 9223372036854775808 == 1) = pneg (one (y : Int)) := by
  obtain ⟨i0, i1⟩ := one_bd y hn
  unfold pneg
  rw [Bool.eq_iff_iff, beq_iff_eq, decide_eq_true_iff]
  omega
theorem nu_a (y : Nat) (hc : cls (y : Int) ≤ 3) (hc1 : cls (y : Int) ≠ 1) {s : Bool} (hs : pneg (one (y : Int)) = s) : nuW y = ⟨3, s, nfl (pneg (y : Int)) (pman (y : Int)) (pexp (y : Int))⟩ := by
  have := cls_bd (y : Int)
  unfold nuW
  rw [hs, if_pos hc, show (if cls (y : Int) = 2 then 3 else cls (y : Int)) = 3 by split <;> omega]
  rfl
theorem nu_b (y : Nat) (hc : cls (y : Int) ≤ 3) (hc1 : cls (y : Int) = 1) {s : Bool} (hs : pneg (one (y : Int)) = s) : nuW y = ⟨1, s, zeroN⟩ := by
  have hp : pman (y : Int) = 0 := by
    have h := (pman_z0 (y : Int) hc).2 hc1
    have := pman_bd (y : Int)
    omega
  unfold nuW wN
  rw [hs, if_pos hc, hc1, hp, nfl_zero]
  rfl
theorem nu_c (y : Nat) (hc : 3 < cls (y : Int)) {s : Bool} (hs : pneg (one (y : Int)) = s) : nuW y = ⟨cls (y : Int), s, zeroN⟩ := by
  unfold nuW
  rw [hs, if_neg (by omega), if_neg (by omega)]
set_option maxRecDepth 100000 in
set_option maxHeartbeats 4000000 in
theorem of_b (y : Nat) (hn : y ≤ 18446744073709551615) (hc : cls (y : Int) ≤ 3) (hc1 : cls (y : Int) = 1) (hT : Tab w) :
    Calls Tryz.prog 35 #[.float .f64 y] w (NuP (nuW y) w) := by
  have RB := Blk.new w [.int .i64 0, .bool false, .bool false, .slice none 0 0, .int .i64 0] 52
  have bw : Below w.heap.size w (w.alloc (.cells #[.int .i64 0, .bool false, .bool false, .slice none 0 0, .int .i64 0] 52)) := by go_grown
  have RB_0 := Blk.cell RB 0 rfl
  have RB_1 := Blk.cell RB 1 rfl
  have RB_2 := Blk.cell RB 2 rfl
  have RB_3 := Blk.cell RB 3 rfl
  have RB_4 := Blk.cell RB 4 rfl
  have RB_f0 := Blk.free RB 0
  have RB_f1 := Blk.free RB 1
  have RB_f2 := Blk.free RB 2
  have RB_f3 := Blk.free RB 3
  have RB_f4 := Blk.free RB 4
  have hp := pneg_one y hn
  obtain ⟨i0, i1⟩ := one_bd y hn
  have hco := class_one y hn
  have ho1 := ofBany y hn
  obtain ⟨s, hs⟩ : ∃ s, pneg (one (y : Int)) = s := ⟨_, rfl⟩
  obtain ⟨o, ho⟩ : ∃ o, one (y : Int) = o := ⟨_, rfl⟩
  rw [hs, ho] at hp
  rw [ho] at hco ho1 i0 i1
  have HN := Lib.hid (nu_b y hc hc1 hs)
  clear hs ho
  rw [hc1] at hco
  go_enter Tryz.func35, Tryz.ntmps35
  go_wp2_with fail
  with_reducible refine (ho1 _).mono ?_
  rintro e w0 ⟨rfl, rfl⟩
  go_wp2_with fail
  with_reducible refine (hco _).mono ?_
  rintro e w0 ⟨rfl, rfl⟩
  clear RB_0 RB_1 RB_2 RB_3 RB_4 RB_f0 RB_f1 RB_f2 RB_f3 RB_f4
  replace RB := Blk.alloc RB (.cells #[.int .i64 (1), .bool (s), .bool false, .slice none 0 0, .int .i64 0] 52)
  have NB := Blk.new (w.alloc (.cells #[.int .i64 0, .bool false, .bool false, .slice none 0 0, .int .i64 0] 52)) [.int .i64 (1), .bool (s), .bool false, .slice none 0 0, .int .i64 0] 52
  try simp only [World.size_alloc] at NB
  have RB_0 := Blk.cell RB 0 rfl
  have RB_1 := Blk.cell RB 1 rfl
  have RB_2 := Blk.cell RB 2 rfl
  have RB_3 := Blk.cell RB 3 rfl
  have RB_4 := Blk.cell RB 4 rfl
  have RB_f0 := Blk.free RB 0
  have RB_f1 := Blk.free RB 1
  have RB_f2 := Blk.free RB 2
  have RB_f3 := Blk.free RB 3
  have RB_f4 := Blk.free RB 4
  have NB_0 := Blk.cell NB 0 rfl
  have NB_1 := Blk.cell NB 1 rfl
  have NB_2 := Blk.cell NB 2 rfl
  have NB_3 := Blk.cell NB 3 rfl
  have NB_4 := Blk.cell NB 4 rfl
  have NB_f0 := Blk.free NB 0
  have NB_f1 := Blk.free NB 1
  have NB_f2 := Blk.free NB 2
  have NB_f3 := Blk.free NB 3
  have NB_f4 := Blk.free NB 4
  go_wp2_with fail
  with_reducible refine (dOf_yes y hn hc (hT.onD (by go_grown))).mono ?_
  rintro e w1 ⟨b1, q1, A1, c1, x1, rfl, hd1, m1, hb⟩
  clear RB_0 RB_1 RB_2 RB_3 RB_4 RB_f0 RB_f1 RB_f2 RB_f3 RB_f4
  clear NB_0 NB_1 NB_2 NB_3 NB_4 NB_f0 NB_f1 NB_f2 NB_f3 NB_f4
  have hs1 := hb.size
  try simp only [World.size_alloc, World.size_setCell] at hs1
  replace bw : Below w.heap.size w w1 := dy_end (by go_grown) hb
  replace RB := Blk.on RB hb
  replace NB := Blk.on NB hb
  clear hb
  have RB_0 := Blk.cell RB 0 rfl
  have RB_1 := Blk.cell RB 1 rfl
  have RB_2 := Blk.cell RB 2 rfl
  have RB_3 := Blk.cell RB 3 rfl
  have RB_4 := Blk.cell RB 4 rfl
  have RB_f0 := Blk.free RB 0
  have RB_f1 := Blk.free RB 1
  have RB_f2 := Blk.free RB 2
  have RB_f3 := Blk.free RB 3
  have RB_f4 := Blk.free RB 4
  have NB_0 := Blk.cell NB 0 rfl
  have NB_1 := Blk.cell NB 1 rfl
  have NB_2 := Blk.cell NB 2 rfl
  have NB_3 := Blk.cell NB 3 rfl
  have NB_4 := Blk.cell NB 4 rfl
  have NB_f0 := Blk.free NB 0
  have NB_f1 := Blk.free NB 1
  have NB_f2 := Blk.free NB 2
  have NB_f3 := Blk.free NB 3
  have NB_f4 := Blk.free NB 4
  replace m1 := Lv.alloc m1 (.cells #[.bool b1, .slice A1 q1.length c1, .int .i64 x1] 35)
  clear RB_0 RB_1 RB_2 RB_3 RB_4 RB_f0 RB_f1 RB_f2 RB_f3 RB_f4
  replace RB := Blk.alloc RB (.cells #[.bool b1, .slice A1 q1.length c1, .int .i64 x1] 35)
  clear NB_0 NB_1 NB_2 NB_3 NB_4 NB_f0 NB_f1 NB_f2 NB_f3 NB_f4
  replace NB := Blk.alloc NB (.cells #[.bool b1, .slice A1 q1.length c1, .int .i64 x1] 35)
  have DB := Blk.new w1 [.bool b1, .slice A1 q1.length c1, .int .i64 x1] 35
  try simp only [World.size_alloc] at DB
  have RB_0 := Blk.cell RB 0 rfl
  have RB_1 := Blk.cell RB 1 rfl
  have RB_2 := Blk.cell RB 2 rfl
  have RB_3 := Blk.cell RB 3 rfl
  have RB_4 := Blk.cell RB 4 rfl
  have RB_f0 := Blk.free RB 0
  have RB_f1 := Blk.free RB 1
  have RB_f2 := Blk.free RB 2
  have RB_f3 := Blk.free RB 3
  have RB_f4 := Blk.free RB 4
  have NB_0 := Blk.cell NB 0 rfl
  have NB_1 := Blk.cell NB 1 rfl
  have NB_2 := Blk.cell NB 2 rfl
  have NB_3 := Blk.cell NB 3 rfl
  have NB_4 := Blk.cell NB 4 rfl
  have NB_f0 := Blk.free NB 0
  have NB_f1 := Blk.free NB 1
  have NB_f2 := Blk.free NB 2
  have NB_f3 := Blk.free NB 3
  have NB_f4 := Blk.free NB 4
  have DB_0 := Blk.cell DB 0 rfl
  have DB_1 := Blk.cell DB 1 rfl
  have DB_2 := Blk.cell DB 2 rfl
  have DB_f0 := Blk.free DB 0
  have DB_f1 := Blk.free DB 1
  have DB_f2 := Blk.free DB 2
  go_wp2_with fail
  refine bodyPost_ret (v := nuV (1) s false none 0 0 0) (by simp [results, Tryz.results35, go_sem, RB_0, RB_1, RB_2, RB_3, RB_4, RB_f0, RB_f1, RB_f2, RB_f3, RB_f4, NB_0, NB_1, NB_2, NB_3, NB_4, NB_f0, NB_f1, NB_f2, NB_f3, NB_f4]) rfl ?_
  rw [HN.out]
  exact ⟨false, [], none, 0, 0, rfl, Dn.zero, lv_nil _, by go_grown⟩

set_option maxRecDepth 100000 in
set_option maxHeartbeats 4000000 in
theorem of_c (y : Nat) (hn : y ≤ 18446744073709551615) (hc : 3 < cls (y : Int)) (hT : Tab w) :
    Calls Tryz.prog 35 #[.float .f64 y] w (NuP (nuW y) w) := by
  have RB := Blk.new w [.int .i64 0, .bool false, .bool false, .slice none 0 0, .int .i64 0] 52
  have bw : Below w.heap.size w (w.alloc (.cells #[.int .i64 0, .bool false, .bool false, .slice none 0 0, .int .i64 0] 52)) := by go_grown
  have RB_0 := Blk.cell RB 0 rfl
  have RB_1 := Blk.cell RB 1 rfl
  have RB_2 := Blk.cell RB 2 rfl
  have RB_3 := Blk.cell RB 3 rfl
  have RB_4 := Blk.cell RB 4 rfl
  have RB_f0 := Blk.free RB 0
  have RB_f1 := Blk.free RB 1
  have RB_f2 := Blk.free RB 2
  have RB_f3 := Blk.free RB 3
  have RB_f4 := Blk.free RB 4
  have hp := pneg_one y hn
  obtain ⟨i0, i1⟩ := one_bd y hn
  have hco := class_one y hn
  have ho1 := ofBany y hn
  obtain ⟨s, hs⟩ : ∃ s, pneg (one (y : Int)) = s := ⟨_, rfl⟩
  obtain ⟨o, ho⟩ : ∃ o, one (y : Int) = o := ⟨_, rfl⟩
  rw [hs, ho] at hp
  rw [ho] at hco ho1 i0 i1
  have HN := Lib.hid (nu_c y hc hs)
  clear hs ho
  go_enter Tryz.func35, Tryz.ntmps35
  go_wp2_with fail
  with_reducible refine (ho1 _).mono ?_
  rintro e w0 ⟨rfl, rfl⟩
  go_wp2_with fail
  with_reducible refine (hco _).mono ?_
  rintro e w0 ⟨rfl, rfl⟩
  clear RB_0 RB_1 RB_2 RB_3 RB_4 RB_f0 RB_f1 RB_f2 RB_f3 RB_f4
  replace RB := Blk.alloc RB (.cells #[.int .i64 (cls (y : Int)), .bool (s), .bool false, .slice none 0 0, .int .i64 0] 52)
  have NB := Blk.new (w.alloc (.cells #[.int .i64 0, .bool false, .bool false, .slice none 0 0, .int .i64 0] 52)) [.int .i64 (cls (y : Int)), .bool (s), .bool false, .slice none 0 0, .int .i64 0] 52
  try simp only [World.size_alloc] at NB
  have RB_0 := Blk.cell RB 0 rfl
  have RB_1 := Blk.cell RB 1 rfl
  have RB_2 := Blk.cell RB 2 rfl
  have RB_3 := Blk.cell RB 3 rfl
  have RB_4 := Blk.cell RB 4 rfl
  have RB_f0 := Blk.free RB 0
  have RB_f1 := Blk.free RB 1
  have RB_f2 := Blk.free RB 2
  have RB_f3 := Blk.free RB 3
  have RB_f4 := Blk.free RB 4
  have NB_0 := Blk.cell NB 0 rfl
  have NB_1 := Blk.cell NB 1 rfl
  have NB_2 := Blk.cell NB 2 rfl
  have NB_3 := Blk.cell NB 3 rfl
  have NB_4 := Blk.cell NB 4 rfl
  have NB_f0 := Blk.free NB 0
  have NB_f1 := Blk.free NB 1
  have NB_f2 := Blk.free NB 2
  have NB_f3 := Blk.free NB 3
  have NB_f4 := Blk.free NB 4
  go_wp2_with fail
  with_reducible refine (dOf_no y hn hc _).mono ?_
  rintro e w1 ⟨b1, q1, A1, c1, x1, rfl, hd1, m1, hb⟩
  clear RB_0 RB_1 RB_2 RB_3 RB_4 RB_f0 RB_f1 RB_f2 RB_f3 RB_f4
  clear NB_0 NB_1 NB_2 NB_3 NB_4 NB_f0 NB_f1 NB_f2 NB_f3 NB_f4
  have hs1 := hb.size
  try simp only [World.size_alloc, World.size_setCell] at hs1
  replace bw : Below w.heap.size w w1 := dy_end (by go_grown) hb
  replace RB := Blk.on RB hb
  replace NB := Blk.on NB hb
  clear hb
  have RB_0 := Blk.cell RB 0 rfl
  have RB_1 := Blk.cell RB 1 rfl
  have RB_2 := Blk.cell RB 2 rfl
  have RB_3 := Blk.cell RB 3 rfl
  have RB_4 := Blk.cell RB 4 rfl
  have RB_f0 := Blk.free RB 0
  have RB_f1 := Blk.free RB 1
  have RB_f2 := Blk.free RB 2
  have RB_f3 := Blk.free RB 3
  have RB_f4 := Blk.free RB 4
  have NB_0 := Blk.cell NB 0 rfl
  have NB_1 := Blk.cell NB 1 rfl
  have NB_2 := Blk.cell NB 2 rfl
  have NB_3 := Blk.cell NB 3 rfl
  have NB_4 := Blk.cell NB 4 rfl
  have NB_f0 := Blk.free NB 0
  have NB_f1 := Blk.free NB 1
  have NB_f2 := Blk.free NB 2
  have NB_f3 := Blk.free NB 3
  have NB_f4 := Blk.free NB 4
  replace m1 := Lv.alloc m1 (.cells #[.bool b1, .slice A1 q1.length c1, .int .i64 x1] 35)
  clear RB_0 RB_1 RB_2 RB_3 RB_4 RB_f0 RB_f1 RB_f2 RB_f3 RB_f4
  replace RB := Blk.alloc RB (.cells #[.bool b1, .slice A1 q1.length c1, .int .i64 x1] 35)
  clear NB_0 NB_1 NB_2 NB_3 NB_4 NB_f0 NB_f1 NB_f2 NB_f3 NB_f4
  replace NB := Blk.alloc NB (.cells #[.bool b1, .slice A1 q1.length c1, .int .i64 x1] 35)
  have DB := Blk.new w1 [.bool b1, .slice A1 q1.length c1, .int .i64 x1] 35
  try simp only [World.size_alloc] at DB
  have RB_0 := Blk.cell RB 0 rfl
  have RB_1 := Blk.cell RB 1 rfl
  have RB_2 := Blk.cell RB 2 rfl
  have RB_3 := Blk.cell RB 3 rfl
  have RB_4 := Blk.cell RB 4 rfl
  have RB_f0 := Blk.free RB 0
  have RB_f1 := Blk.free RB 1
  have RB_f2 := Blk.free RB 2
  have RB_f3 := Blk.free RB 3
  have RB_f4 := Blk.free RB 4
  have NB_0 := Blk.cell NB 0 rfl
  have NB_1 := Blk.cell NB 1 rfl
  have NB_2 := Blk.cell NB 2 rfl
  have NB_3 := Blk.cell NB 3 rfl
  have NB_4 := Blk.cell NB 4 rfl
  have NB_f0 := Blk.free NB 0
  have NB_f1 := Blk.free NB 1
  have NB_f2 := Blk.free NB 2
  have NB_f3 := Blk.free NB 3
  have NB_f4 := Blk.free NB 4
  have DB_0 := Blk.cell DB 0 rfl
  have DB_1 := Blk.cell DB 1 rfl
  have DB_2 := Blk.cell DB 2 rfl
  have DB_f0 := Blk.free DB 0
  have DB_f1 := Blk.free DB 1
  have DB_f2 := Blk.free DB 2
  have c9 : (cls (y : Int) != 1) = true := by simp; omega
  go_wp2_with fail
  refine bodyPost_ret (v := nuV (cls (y : Int)) s false none 0 0 0) (by simp [results, Tryz.results35, go_sem, RB_0, RB_1, RB_2, RB_3, RB_4, RB_f0, RB_f1, RB_f2, RB_f3, RB_f4, NB_0, NB_1, NB_2, NB_3, NB_4, NB_f0, NB_f1, NB_f2, NB_f3, NB_f4]) rfl ?_
  rw [HN.out]
  exact ⟨false, [], none, 0, 0, rfl, Dn.zero, lv_nil _, by go_grown⟩

set_option maxRecDepth 100000 in
set_option maxHeartbeats 4000000 in
theorem of_a (y : Nat) (hn : y ≤ 18446744073709551615) (hc : cls (y : Int) ≤ 3) (hc1 : cls (y : Int) ≠ 1) (hT : Tab w) :
    Calls Tryz.prog 35 #[.float .f64 y] w (NuP (nuW y) w) := by
  have RB := Blk.new w [.int .i64 0, .bool false, .bool false, .slice none 0 0, .int .i64 0] 52
  have bw : Below w.heap.size w (w.alloc (.cells #[.int .i64 0, .bool false, .bool false, .slice none 0 0, .int .i64 0] 52)) := by go_grown
  have RB_0 := Blk.cell RB 0 rfl
  have RB_1 := Blk.cell RB 1 rfl
  have RB_2 := Blk.cell RB 2 rfl
  have RB_3 := Blk.cell RB 3 rfl
  have RB_4 := Blk.cell RB 4 rfl
  have RB_f0 := Blk.free RB 0
  have RB_f1 := Blk.free RB 1
  have RB_f2 := Blk.free RB 2
  have RB_f3 := Blk.free RB 3
  have RB_f4 := Blk.free RB 4
  have hp := pneg_one y hn
  obtain ⟨i0, i1⟩ := one_bd y hn
  have hco := class_one y hn
  have ho1 := ofBany y hn
  obtain ⟨s, hs⟩ : ∃ s, pneg (one (y : Int)) = s := ⟨_, rfl⟩
  obtain ⟨o, ho⟩ : ∃ o, one (y : Int) = o := ⟨_, rfl⟩
  rw [hs, ho] at hp
  rw [ho] at hco ho1 i0 i1
  have HN := Lib.hid (nu_a y hc hc1 hs)
  clear hs ho
  go_enter Tryz.func35, Tryz.ntmps35
  go_wp2_with fail
  with_reducible refine (ho1 _).mono ?_
  rintro e w0 ⟨rfl, rfl⟩
  go_wp2_with fail
  with_reducible refine (hco _).mono ?_
  rintro e w0 ⟨rfl, rfl⟩
  clear RB_0 RB_1 RB_2 RB_3 RB_4 RB_f0 RB_f1 RB_f2 RB_f3 RB_f4
  replace RB := Blk.alloc RB (.cells #[.int .i64 (cls (y : Int)), .bool (s), .bool false, .slice none 0 0, .int .i64 0] 52)
  have NB := Blk.new (w.alloc (.cells #[.int .i64 0, .bool false, .bool false, .slice none 0 0, .int .i64 0] 52)) [.int .i64 (cls (y : Int)), .bool (s), .bool false, .slice none 0 0, .int .i64 0] 52
  try simp only [World.size_alloc] at NB
  have RB_0 := Blk.cell RB 0 rfl
  have RB_1 := Blk.cell RB 1 rfl
  have RB_2 := Blk.cell RB 2 rfl
  have RB_3 := Blk.cell RB 3 rfl
  have RB_4 := Blk.cell RB 4 rfl
  have RB_f0 := Blk.free RB 0
  have RB_f1 := Blk.free RB 1
  have RB_f2 := Blk.free RB 2
  have RB_f3 := Blk.free RB 3
  have RB_f4 := Blk.free RB 4
  have NB_0 := Blk.cell NB 0 rfl
  have NB_1 := Blk.cell NB 1 rfl
  have NB_2 := Blk.cell NB 2 rfl
  have NB_3 := Blk.cell NB 3 rfl
  have NB_4 := Blk.cell NB 4 rfl
  have NB_f0 := Blk.free NB 0
  have NB_f1 := Blk.free NB 1
  have NB_f2 := Blk.free NB 2
  have NB_f3 := Blk.free NB 3
  have NB_f4 := Blk.free NB 4
  go_wp2_with fail
  with_reducible refine (dOf_yes y hn hc (hT.onD (by go_grown))).mono ?_
  rintro e w1 ⟨b1, q1, A1, c1, x1, rfl, hd1, m1, hb⟩
  clear RB_0 RB_1 RB_2 RB_3 RB_4 RB_f0 RB_f1 RB_f2 RB_f3 RB_f4
  clear NB_0 NB_1 NB_2 NB_3 NB_4 NB_f0 NB_f1 NB_f2 NB_f3 NB_f4
  have hs1 := hb.size
  try simp only [World.size_alloc, World.size_setCell] at hs1
  replace bw : Below w.heap.size w w1 := dy_end (by go_grown) hb
  replace RB := Blk.on RB hb
  replace NB := Blk.on NB hb
  clear hb
  have RB_0 := Blk.cell RB 0 rfl
  have RB_1 := Blk.cell RB 1 rfl
  have RB_2 := Blk.cell RB 2 rfl
  have RB_3 := Blk.cell RB 3 rfl
  have RB_4 := Blk.cell RB 4 rfl
  have RB_f0 := Blk.free RB 0
  have RB_f1 := Blk.free RB 1
  have RB_f2 := Blk.free RB 2
  have RB_f3 := Blk.free RB 3
  have RB_f4 := Blk.free RB 4
  have NB_0 := Blk.cell NB 0 rfl
  have NB_1 := Blk.cell NB 1 rfl
  have NB_2 := Blk.cell NB 2 rfl
  have NB_3 := Blk.cell NB 3 rfl
  have NB_4 := Blk.cell NB 4 rfl
  have NB_f0 := Blk.free NB 0
  have NB_f1 := Blk.free NB 1
  have NB_f2 := Blk.free NB 2
  have NB_f3 := Blk.free NB 3
  have NB_f4 := Blk.free NB 4
  replace m1 := Lv.alloc m1 (.cells #[.bool b1, .slice A1 q1.length c1, .int .i64 x1] 35)
  clear RB_0 RB_1 RB_2 RB_3 RB_4 RB_f0 RB_f1 RB_f2 RB_f3 RB_f4
  replace RB := Blk.alloc RB (.cells #[.bool b1, .slice A1 q1.length c1, .int .i64 x1] 35)
  clear NB_0 NB_1 NB_2 NB_3 NB_4 NB_f0 NB_f1 NB_f2 NB_f3 NB_f4
  replace NB := Blk.alloc NB (.cells #[.bool b1, .slice A1 q1.length c1, .int .i64 x1] 35)
  have DB := Blk.new w1 [.bool b1, .slice A1 q1.length c1, .int .i64 x1] 35
  try simp only [World.size_alloc] at DB
  have RB_0 := Blk.cell RB 0 rfl
  have RB_1 := Blk.cell RB 1 rfl
  have RB_2 := Blk.cell RB 2 rfl
  have RB_3 := Blk.cell RB 3 rfl
  have RB_4 := Blk.cell RB 4 rfl
  have RB_f0 := Blk.free RB 0
  have RB_f1 := Blk.free RB 1
  have RB_f2 := Blk.free RB 2
  have RB_f3 := Blk.free RB 3
  have RB_f4 := Blk.free RB 4
  have NB_0 := Blk.cell NB 0 rfl
  have NB_1 := Blk.cell NB 1 rfl
  have NB_2 := Blk.cell NB 2 rfl
  have NB_3 := Blk.cell NB 3 rfl
  have NB_4 := Blk.cell NB 4 rfl
  have NB_f0 := Blk.free NB 0
  have NB_f1 := Blk.free NB 1
  have NB_f2 := Blk.free NB 2
  have NB_f3 := Blk.free NB 3
  have NB_f4 := Blk.free NB 4
  have DB_0 := Blk.cell DB 0 rfl
  have DB_1 := Blk.cell DB 1 rfl
  have DB_2 := Blk.cell DB 2 rfl
  have DB_f0 := Blk.free DB 0
  have DB_f1 := Blk.free DB 1
  have DB_f2 := Blk.free DB 2
  have c9 : (cls (y : Int) != 1) = true := by simp; omega
  go_wp2_with fail
  go_region
  clear RB_0 RB_1 RB_2 RB_3 RB_4 RB_f0 RB_f1 RB_f2 RB_f3 RB_f4
  clear NB_0 NB_1 NB_2 NB_3 NB_4 NB_f0 NB_f1 NB_f2 NB_f3 NB_f4
  clear DB_0 DB_1 DB_2 DB_f0 DB_f1 DB_f2
  replace m1 := m1.ordA NB 3 b1 A1 q1.length c1 x1
  replace RB := Blk.ordA RB (g := w.heap.size + 1) (by omega) (.int .i64 3) (.bool b1) (.slice A1 q1.length c1) (.int .i64 x1)
  replace NB := Nbx.ordA NB 3 b1 A1 q1.length c1 x1
  replace m1 : Lv (World.drew (((((w1.alloc (.cells #[.bool b1, .slice A1 q1.length c1, .int .i64 x1] 35)).setCell ⟨w.heap.size + 1, 0, none⟩ (.int .i64 3)).setCell ⟨w.heap.size + 1, 2, none⟩ (.bool b1)).setCell ⟨w.heap.size + 1, 3, none⟩ (.slice A1 q1.length c1)).setCell ⟨w.heap.size + 1, 4, none⟩ (.int .i64 x1))) A1 q1.length c1 q1 := m1
  replace RB : Nbx (World.drew (((((w1.alloc (.cells #[.bool b1, .slice A1 q1.length c1, .int .i64 x1] 35)).setCell ⟨w.heap.size + 1, 0, none⟩ (.int .i64 3)).setCell ⟨w.heap.size + 1, 2, none⟩ (.bool b1)).setCell ⟨w.heap.size + 1, 3, none⟩ (.slice A1 q1.length c1)).setCell ⟨w.heap.size + 1, 4, none⟩ (.int .i64 x1))) w.heap.size 0 false false none 0 0 0 := RB
  replace NB : Nbx (World.drew (((((w1.alloc (.cells #[.bool b1, .slice A1 q1.length c1, .int .i64 x1] 35)).setCell ⟨w.heap.size + 1, 0, none⟩ (.int .i64 3)).setCell ⟨w.heap.size + 1, 2, none⟩ (.bool b1)).setCell ⟨w.heap.size + 1, 3, none⟩ (.slice A1 q1.length c1)).setCell ⟨w.heap.size + 1, 4, none⟩ (.int .i64 x1))) (w.heap.size + 1) 3 s b1 A1 q1.length c1 x1 := NB
  replace bw : Below w.heap.size w (World.drew (((((w1.alloc (.cells #[.bool b1, .slice A1 q1.length c1, .int .i64 x1] 35)).setCell ⟨w.heap.size + 1, 0, none⟩ (.int .i64 3)).setCell ⟨w.heap.size + 1, 2, none⟩ (.bool b1)).setCell ⟨w.heap.size + 1, 3, none⟩ (.slice A1 q1.length c1)).setCell ⟨w.heap.size + 1, 4, none⟩ (.int .i64 x1))) := by go_grown
  generalize World.drew (((((w1.alloc (.cells #[.bool b1, .slice A1 q1.length c1, .int .i64 x1] 35)).setCell ⟨w.heap.size + 1, 0, none⟩ (.int .i64 3)).setCell ⟨w.heap.size + 1, 2, none⟩ (.bool b1)).setCell ⟨w.heap.size + 1, 3, none⟩ (.slice A1 q1.length c1)).setCell ⟨w.heap.size + 1, 4, none⟩ (.int .i64 x1)) = w2 at m1 RB NB bw ⊢
  clear DB
  have RB_0 := Blk.cell RB 0 rfl
  have RB_1 := Blk.cell RB 1 rfl
  have RB_2 := Blk.cell RB 2 rfl
  have RB_3 := Blk.cell RB 3 rfl
  have RB_4 := Blk.cell RB 4 rfl
  have RB_f0 := Blk.free RB 0
  have RB_f1 := Blk.free RB 1
  have RB_f2 := Blk.free RB 2
  have RB_f3 := Blk.free RB 3
  have RB_f4 := Blk.free RB 4
  have NB_0 := Blk.cell NB 0 rfl
  have NB_1 := Blk.cell NB 1 rfl
  have NB_2 := Blk.cell NB 2 rfl
  have NB_3 := Blk.cell NB 3 rfl
  have NB_4 := Blk.cell NB 4 rfl
  have NB_f0 := Blk.free NB 0
  have NB_f1 := Blk.free NB 1
  have NB_f2 := Blk.free NB 2
  have NB_f3 := Blk.free NB 3
  have NB_f4 := Blk.free NB 4
  go_wp2_with fail
  refine bodyPost_ret (v := nuV 3 s b1 A1 q1.length c1 x1) (by simp [results, Tryz.results35, go_sem, RB_0, RB_1, RB_2, RB_3, RB_4, RB_f0, RB_f1, RB_f2, RB_f3, RB_f4, NB_0, NB_1, NB_2, NB_3, NB_4, NB_f0, NB_f1, NB_f2, NB_f3, NB_f4]) rfl ?_
  rw [HN.out]
  exact ⟨b1, q1, A1, c1, x1, rfl, hd1, m1.put5 RB _ _ _ _ _ _ _, by go_grown⟩

end
end Go.Proofs.YtfjellhbcjnjkaaGreatDoor
namespace Go.Proofs.YtfjellhbcjnjkaaGreatDoor
open Go.RowKit Go.Sort Go.Bw
set_option linter.unusedVariables false
set_option linter.unusedSimpArgs false

section
variable {b : Bool} {A : Option Addr} {n c : Nat} {x : Int} {l : List Int} {w : World} {d : Nf}
theorem nof_any (y : Nat) (hn : y ≤ 18446744073709551615) (hT : Tab w) : Calls Tryz.prog 35 #[.float .f64 y] w (NuP (nuW y) w) := by
  rcases Int.lt_or_le 3 (cls (y : Int)) with hc | hc
  · exact of_c y hn hc hT
  · by_cases h1 : cls (y : Int) = 1
    · exact of_b y hn hc h1 hT
    · exact of_a y hn hc h1 hT
theorem sgn_zero {d : Nf} (h : d.man = 0) : sgn d = 0 := by unfold sgn; rw [if_pos h]
theorem sgn_nz {d : Nf} (h : d.man ≠ 0) : (sgn d == 0) = false := by unfold sgn; rw [if_neg h]; split <;> decide
set_option maxRecDepth 100000 in
set_option maxHeartbeats 4000000 in
theorem exactly_z (hd : Dn b l x d) (h : Lv w A l.length c l) (hT : Tab w) (ho : okE x = true) (h0 : d.man = 0) :
    Calls Tryz.prog 71 #[dyV b A l.length c x] w (NuP (nuN d) w) := by
  have PB := Blk.new w [.bool b, .slice A l.length c, .int .i64 x] 35
  have RB := Blk.new (w.alloc (.cells #[.bool b, .slice A l.length c, .int .i64 x] 35)) [.int .i64 0, .bool false, .bool false, .slice none 0 0, .int .i64 0] 52
  simp only [World.size_alloc] at RB
  replace PB := Blk.alloc PB (.cells #[.int .i64 0, .bool false, .bool false, .slice none 0 0, .int .i64 0] 52)
  have bw : Below w.heap.size w ((w.alloc (.cells #[.bool b, .slice A l.length c, .int .i64 x] 35)).alloc (.cells #[.int .i64 0, .bool false, .bool false, .slice none 0 0, .int .i64 0] 52)) := by go_grown
  have PB_0 := Blk.cell PB 0 rfl
  have PB_1 := Blk.cell PB 1 rfl
  have PB_2 := Blk.cell PB 2 rfl
  have PB_f0 := Blk.free PB 0
  have PB_f1 := Blk.free PB 1
  have PB_f2 := Blk.free PB 2
  have RB_0 := Blk.cell RB 0 rfl
  have RB_1 := Blk.cell RB 1 rfl
  have RB_2 := Blk.cell RB 2 rfl
  have RB_3 := Blk.cell RB 3 rfl
  have RB_4 := Blk.cell RB 4 rfl
  have RB_f0 := Blk.free RB 0
  have RB_f1 := Blk.free RB 1
  have RB_f2 := Blk.free RB 2
  have RB_f3 := Blk.free RB 3
  have RB_f4 := Blk.free RB 4
  replace h := h.on bw
  have hz := sgn_zero h0
  have ps := fun W (hh : Lv W A l.length c l) (tt : Tab W) => dSign_dn (b := b) (x := x) hd hh tt ho
  rw [hz] at ps
  go_enter Tryz.func71, Tryz.ntmps71
  go_wp2_with fail
  with_reducible refine (ps _ h (hT.onD (by go_grown))).mono ?_
  rintro e w1 ⟨rfl, hb⟩
  clear PB_0 PB_1 PB_2 PB_f0 PB_f1 PB_f2
  clear RB_0 RB_1 RB_2 RB_3 RB_4 RB_f0 RB_f1 RB_f2 RB_f3 RB_f4
  have hs1 := hb.size
  try simp only [World.size_alloc, World.size_setCell] at hs1
  replace bw : Below w.heap.size w w1 := dy_end (by go_grown) hb
  replace h := Lv.on h hb
  replace PB := Blk.on PB hb
  replace RB := Blk.on RB hb
  clear hb
  have PB_0 := Blk.cell PB 0 rfl
  have PB_1 := Blk.cell PB 1 rfl
  have PB_2 := Blk.cell PB 2 rfl
  have PB_f0 := Blk.free PB 0
  have PB_f1 := Blk.free PB 1
  have PB_f2 := Blk.free PB 2
  have RB_0 := Blk.cell RB 0 rfl
  have RB_1 := Blk.cell RB 1 rfl
  have RB_2 := Blk.cell RB 2 rfl
  have RB_3 := Blk.cell RB 3 rfl
  have RB_4 := Blk.cell RB 4 rfl
  have RB_f0 := Blk.free RB 0
  have RB_f1 := Blk.free RB 1
  have RB_f2 := Blk.free RB 2
  have RB_f3 := Blk.free RB 3
  have RB_f4 := Blk.free RB 4
  go_wp2_with fail
  refine bodyPost_ret (v := nuV 1 false false none 0 0 0) (by simp [results, Tryz.results71, go_sem, PB_0, PB_1, PB_2, PB_f0, PB_f1, PB_f2, RB_0, RB_1, RB_2, RB_3, RB_4, RB_f0, RB_f1, RB_f2, RB_f3, RB_f4]) rfl ?_
  have e : nuN d = ⟨1, false, zeroN⟩ := by unfold nuN; rw [if_pos h0]
  rw [e]
  exact ⟨false, [], none, 0, 0, rfl, Dn.zero, lv_nil _, by go_grown⟩

set_option maxRecDepth 100000 in
set_option maxHeartbeats 4000000 in
theorem exactly_n (hd : Dn b l x d) (h : Lv w A l.length c l) (hT : Tab w) (ho : okE x = true) (h0 : d.man ≠ 0) :
    Calls Tryz.prog 71 #[dyV b A l.length c x] w (NuP (nuN d) w) := by
  have PB := Blk.new w [.bool b, .slice A l.length c, .int .i64 x] 35
  have RB := Blk.new (w.alloc (.cells #[.bool b, .slice A l.length c, .int .i64 x] 35)) [.int .i64 0, .bool false, .bool false, .slice none 0 0, .int .i64 0] 52
  simp only [World.size_alloc] at RB
  replace PB := Blk.alloc PB (.cells #[.int .i64 0, .bool false, .bool false, .slice none 0 0, .int .i64 0] 52)
  have bw : Below w.heap.size w ((w.alloc (.cells #[.bool b, .slice A l.length c, .int .i64 x] 35)).alloc (.cells #[.int .i64 0, .bool false, .bool false, .slice none 0 0, .int .i64 0] 52)) := by go_grown
  have PB_0 := Blk.cell PB 0 rfl
  have PB_1 := Blk.cell PB 1 rfl
  have PB_2 := Blk.cell PB 2 rfl
  have PB_f0 := Blk.free PB 0
  have PB_f1 := Blk.free PB 1
  have PB_f2 := Blk.free PB 2
  have RB_0 := Blk.cell RB 0 rfl
  have RB_1 := Blk.cell RB 1 rfl
  have RB_2 := Blk.cell RB 2 rfl
  have RB_3 := Blk.cell RB 3 rfl
  have RB_4 := Blk.cell RB 4 rfl
  have RB_f0 := Blk.free RB 0
  have RB_f1 := Blk.free RB 1
  have RB_f2 := Blk.free RB 2
  have RB_f3 := Blk.free RB 3
  have RB_f4 := Blk.free RB 4
  replace h := h.on bw
  have hz := sgn_nz h0
  have ps := fun W (hh : Lv W A l.length c l) (tt : Tab W) => dSign_dn (b := b) (x := x) hd hh tt ho
  generalize sgn d = z at hz ps
  go_enter Tryz.func71, Tryz.ntmps71
  go_wp2_with fail
  with_reducible refine (ps _ h (hT.onD (by go_grown))).mono ?_
  rintro e w1 ⟨rfl, hb⟩
  clear PB_0 PB_1 PB_2 PB_f0 PB_f1 PB_f2
  clear RB_0 RB_1 RB_2 RB_3 RB_4 RB_f0 RB_f1 RB_f2 RB_f3 RB_f4
  have hs1 := hb.size
  try simp only [World.size_alloc, World.size_setCell] at hs1
  replace bw : Below w.heap.size w w1 := dy_end (by go_grown) hb
  replace h := Lv.on h hb
  replace PB := Blk.on PB hb
  replace RB := Blk.on RB hb
  clear hb
  have PB_0 := Blk.cell PB 0 rfl
  have PB_1 := Blk.cell PB 1 rfl
  have PB_2 := Blk.cell PB 2 rfl
  have PB_f0 := Blk.free PB 0
  have PB_f1 := Blk.free PB 1
  have PB_f2 := Blk.free PB 2
  have RB_0 := Blk.cell RB 0 rfl
  have RB_1 := Blk.cell RB 1 rfl
  have RB_2 := Blk.cell RB 2 rfl
  have RB_3 := Blk.cell RB 3 rfl
  have RB_4 := Blk.cell RB 4 rfl
  have RB_f0 := Blk.free RB 0
  have RB_f1 := Blk.free RB 1
  have RB_f2 := Blk.free RB 2
  have RB_f3 := Blk.free RB 3
  have RB_f4 := Blk.free RB 4
  go_wp2_with fail
  refine bodyPost_ret (v := nuV 3 b b A l.length c x) (by simp [results, Tryz.results71, go_sem, PB_0, PB_1, PB_2, PB_f0, PB_f1, PB_f2, RB_0, RB_1, RB_2, RB_3, RB_4, RB_f0, RB_f1, RB_f2, RB_f3, RB_f4]) rfl ?_
  have e : nuN d = ⟨3, b, d⟩ := by unfold nuN; rw [if_neg h0, hd.neg]
  rw [e]
  exact ⟨b, l, A, c, x, rfl, hd, h.put5 RB _ _ _ _ _ _ _, by go_grown⟩

theorem exactly_any (hd : Dn b l x d) (h : Lv w A l.length c l) (hT : Tab w) (ho : okE x = true) : Calls Tryz.prog 71 #[dyV b A l.length c x] w (NuP (nuN d) w) := by
  by_cases h0 : d.man = 0
  · exact exactly_z hd h hT ho h0
  · exact exactly_n hd h hT ho h0
theorem neg_inf (w : World) : Calls Tryz.prog 40 #[.int .u64 9218868437227405312] w fun e w' => e = .returned (.int .u64 18442240474082181120) ∧ w = w' := negate_any 9218868437227405312 (by decide) (by decide) w
theorem neg_nan (w : World) : Calls Tryz.prog 40 #[.int .u64 9221120237041090560] w fun e w' => e = .returned (.int .u64 9221120237041090560) ∧ w = w' := negate_any 9221120237041090560 (by decide) (by decide) w
theorem neg_zero (w : World) : Calls Tryz.prog 40 #[.int .u64 0] w fun e w' => e = .returned (.int .u64 9223372036854775808) ∧ w = w' := negate_any 0 (by decide) (by decide) w
theorem float_lit (k : Nat) (w : World) : Calls Tryz.prog 39 #[.int .u64 (k : Int)] w fun e w' => e = .returned (.float .f64 k) ∧ w = w' := float_any (k : Int) w
set_option maxRecDepth 100000 in
set_option maxHeartbeats 4000000 in
theorem float_n {s : Bool} (hd : Dn b l x d) (h : Lv w A l.length c l) (hT : Tab w) (ho : okE x = true) :
    Calls Tryz.prog 36 #[nuV 3 s b A l.length c x] w fun e w' => e = .returned (.float .f64 (Nu.word ⟨3, s, d⟩)) ∧ Below w.heap.size w w' := by
  have PB := Blk.new w [.int .i64 (3), .bool (s), .bool b, .slice A l.length c, .int .i64 x] 52
  have bw : Below w.heap.size w (w.alloc (.cells #[.int .i64 (3), .bool (s), .bool b, .slice A l.length c, .int .i64 x] 52)) := by go_grown
  have PB_0 := Blk.cell PB 0 rfl
  have PB_1 := Blk.cell PB 1 rfl
  have PB_2 := Blk.cell PB 2 rfl
  have PB_3 := Blk.cell PB 3 rfl
  have PB_4 := Blk.cell PB 4 rfl
  have PB_f0 := Blk.free PB 0
  have PB_f1 := Blk.free PB 1
  have PB_f2 := Blk.free PB 2
  have PB_f3 := Blk.free PB 3
  have PB_f4 := Blk.free PB 4
  replace h := h.on bw
  have pf := fun W (hh : Lv W A l.length c l) (tt : Tab W) => dFloat_dn (b := b) (x := x) hd hh tt ho
  obtain ⟨F, hF⟩ : ∃ F, fw d = F := ⟨_, rfl⟩
  rw [hF] at pf
  go_enter Tryz.func36, Tryz.ntmps36
  go_wp2_with fail
  with_reducible refine (pf _ h (hT.onD (by go_grown))).mono ?_
  rintro e w1 ⟨rfl, hb⟩
  clear PB_0 PB_1 PB_2 PB_3 PB_4 PB_f0 PB_f1 PB_f2 PB_f3 PB_f4
  have hs1 := hb.size
  try simp only [World.size_alloc, World.size_setCell] at hs1
  replace bw : Below w.heap.size w w1 := dy_end (by go_grown) hb
  replace h := Lv.on h hb
  replace PB := Blk.on PB hb
  clear hb
  have PB_0 := Blk.cell PB 0 rfl
  have PB_1 := Blk.cell PB 1 rfl
  have PB_2 := Blk.cell PB 2 rfl
  have PB_3 := Blk.cell PB 3 rfl
  have PB_4 := Blk.cell PB 4 rfl
  have PB_f0 := Blk.free PB 0
  have PB_f1 := Blk.free PB 1
  have PB_f2 := Blk.free PB 2
  have PB_f3 := Blk.free PB 3
  have PB_f4 := Blk.free PB 4
  go_wp2_with fail
  go_ret
  exact ⟨by unfold Nu.word; simp [hF], by go_grown⟩

set_option maxRecDepth 100000 in
set_option maxHeartbeats 4000000 in
theorem float_it (hd : Dn b l x d) (h : Lv w A l.length c l) (hT : Tab w) (ho : okE x = true) :
    Calls Tryz.prog 36 #[nuV 4 true b A l.length c x] w fun e w' => e = .returned (.float .f64 (Nu.word ⟨4, true, d⟩)) ∧ Below w.heap.size w w' := by
  have PB := Blk.new w [.int .i64 (4), .bool (true), .bool b, .slice A l.length c, .int .i64 x] 52
  have bw : Below w.heap.size w (w.alloc (.cells #[.int .i64 (4), .bool (true), .bool b, .slice A l.length c, .int .i64 x] 52)) := by go_grown
  have PB_0 := Blk.cell PB 0 rfl
  have PB_1 := Blk.cell PB 1 rfl
  have PB_2 := Blk.cell PB 2 rfl
  have PB_3 := Blk.cell PB 3 rfl
  have PB_4 := Blk.cell PB 4 rfl
  have PB_f0 := Blk.free PB 0
  have PB_f1 := Blk.free PB 1
  have PB_f2 := Blk.free PB 2
  have PB_f3 := Blk.free PB 3
  have PB_f4 := Blk.free PB 4
  replace h := h.on bw
  have pf := fun W (hh : Lv W A l.length c l) (tt : Tab W) => dFloat_dn (b := b) (x := x) hd hh tt ho
  obtain ⟨F, hF⟩ : ∃ F, fw d = F := ⟨_, rfl⟩
  rw [hF] at pf
  go_enter Tryz.func36, Tryz.ntmps36
  go_wp2_with fail
  with_reducible refine (neg_inf _).mono ?_
  rintro e w0 ⟨rfl, rfl⟩
  go_wp2_with fail
  with_reducible refine (float_any 18442240474082181120 _).mono ?_
  rintro e w0 ⟨rfl, rfl⟩
  go_wp2_with fail
  go_ret
  exact ⟨rfl, by go_grown⟩

set_option maxRecDepth 100000 in
set_option maxHeartbeats 4000000 in
theorem float_if (hd : Dn b l x d) (h : Lv w A l.length c l) (hT : Tab w) (ho : okE x = true) :
    Calls Tryz.prog 36 #[nuV 4 false b A l.length c x] w fun e w' => e = .returned (.float .f64 (Nu.word ⟨4, false, d⟩)) ∧ Below w.heap.size w w' := by
  have PB := Blk.new w [.int .i64 (4), .bool (false), .bool b, .slice A l.length c, .int .i64 x] 52
  have bw : Below w.heap.size w (w.alloc (.cells #[.int .i64 (4), .bool (false), .bool b, .slice A l.length c, .int .i64 x] 52)) := by go_grown
  have PB_0 := Blk.cell PB 0 rfl
  have PB_1 := Blk.cell PB 1 rfl
  have PB_2 := Blk.cell PB 2 rfl
  have PB_3 := Blk.cell PB 3 rfl
  have PB_4 := Blk.cell PB 4 rfl
  have PB_f0 := Blk.free PB 0
  have PB_f1 := Blk.free PB 1
  have PB_f2 := Blk.free PB 2
  have PB_f3 := Blk.free PB 3
  have PB_f4 := Blk.free PB 4
  replace h := h.on bw
  have pf := fun W (hh : Lv W A l.length c l) (tt : Tab W) => dFloat_dn (b := b) (x := x) hd hh tt ho
  obtain ⟨F, hF⟩ : ∃ F, fw d = F := ⟨_, rfl⟩
  rw [hF] at pf
  go_enter Tryz.func36, Tryz.ntmps36
  go_wp2_with fail
  with_reducible refine (float_any 9218868437227405312 _).mono ?_
  rintro e w0 ⟨rfl, rfl⟩
  go_wp2_with fail
  go_ret
  exact ⟨rfl, by go_grown⟩

set_option maxRecDepth 100000 in
set_option maxHeartbeats 4000000 in
theorem float_nt (hd : Dn b l x d) (h : Lv w A l.length c l) (hT : Tab w) (ho : okE x = true) :
    Calls Tryz.prog 36 #[nuV 5 true b A l.length c x] w fun e w' => e = .returned (.float .f64 (Nu.word ⟨5, true, d⟩)) ∧ Below w.heap.size w w' := by
  have PB := Blk.new w [.int .i64 (5), .bool (true), .bool b, .slice A l.length c, .int .i64 x] 52
  have bw : Below w.heap.size w (w.alloc (.cells #[.int .i64 (5), .bool (true), .bool b, .slice A l.length c, .int .i64 x] 52)) := by go_grown
  have PB_0 := Blk.cell PB 0 rfl
  have PB_1 := Blk.cell PB 1 rfl
  have PB_2 := Blk.cell PB 2 rfl
  have PB_3 := Blk.cell PB 3 rfl
  have PB_4 := Blk.cell PB 4 rfl
  have PB_f0 := Blk.free PB 0
  have PB_f1 := Blk.free PB 1
  have PB_f2 := Blk.free PB 2
  have PB_f3 := Blk.free PB 3
  have PB_f4 := Blk.free PB 4
  replace h := h.on bw
  have pf := fun W (hh : Lv W A l.length c l) (tt : Tab W) => dFloat_dn (b := b) (x := x) hd hh tt ho
  obtain ⟨F, hF⟩ : ∃ F, fw d = F := ⟨_, rfl⟩
  rw [hF] at pf
  go_enter Tryz.func36, Tryz.ntmps36
  go_wp2_with fail
  with_reducible refine (neg_nan _).mono ?_
  rintro e w0 ⟨rfl, rfl⟩
  go_wp2_with fail
  with_reducible refine (float_any 9221120237041090560 _).mono ?_
  rintro e w0 ⟨rfl, rfl⟩
  go_wp2_with fail
  go_ret
  exact ⟨rfl, by go_grown⟩

set_option maxRecDepth 100000 in
set_option maxHeartbeats 4000000 in
theorem float_nf (hd : Dn b l x d) (h : Lv w A l.length c l) (hT : Tab w) (ho : okE x = true) :
    Calls Tryz.prog 36 #[nuV 5 false b A l.length c x] w fun e w' => e = .returned (.float .f64 (Nu.word ⟨5, false, d⟩)) ∧ Below w.heap.size w w' := by
  have PB := Blk.new w [.int .i64 (5), .bool (false), .bool b, .slice A l.length c, .int .i64 x] 52
  have bw : Below w.heap.size w (w.alloc (.cells #[.int .i64 (5), .bool (false), .bool b, .slice A l.length c, .int .i64 x] 52)) := by go_grown
  have PB_0 := Blk.cell PB 0 rfl
  have PB_1 := Blk.cell PB 1 rfl
  have PB_2 := Blk.cell PB 2 rfl
  have PB_3 := Blk.cell PB 3 rfl
  have PB_4 := Blk.cell PB 4 rfl
  have PB_f0 := Blk.free PB 0
  have PB_f1 := Blk.free PB 1
  have PB_f2 := Blk.free PB 2
  have PB_f3 := Blk.free PB 3
  have PB_f4 := Blk.free PB 4
  replace h := h.on bw
  have pf := fun W (hh : Lv W A l.length c l) (tt : Tab W) => dFloat_dn (b := b) (x := x) hd hh tt ho
  obtain ⟨F, hF⟩ : ∃ F, fw d = F := ⟨_, rfl⟩
  rw [hF] at pf
  go_enter Tryz.func36, Tryz.ntmps36
  go_wp2_with fail
  with_reducible refine (float_any 9221120237041090560 _).mono ?_
  rintro e w0 ⟨rfl, rfl⟩
  go_wp2_with fail
  go_ret
  exact ⟨rfl, by go_grown⟩

set_option maxRecDepth 100000 in
set_option maxHeartbeats 4000000 in
theorem float_zt (hd : Dn b l x d) (h : Lv w A l.length c l) (hT : Tab w) (ho : okE x = true) :
    Calls Tryz.prog 36 #[nuV 1 true b A l.length c x] w fun e w' => e = .returned (.float .f64 (Nu.word ⟨1, true, d⟩)) ∧ Below w.heap.size w w' := by
  have PB := Blk.new w [.int .i64 (1), .bool (true), .bool b, .slice A l.length c, .int .i64 x] 52
  have bw : Below w.heap.size w (w.alloc (.cells #[.int .i64 (1), .bool (true), .bool b, .slice A l.length c, .int .i64 x] 52)) := by go_grown
  have PB_0 := Blk.cell PB 0 rfl
  have PB_1 := Blk.cell PB 1 rfl
  have PB_2 := Blk.cell PB 2 rfl
  have PB_3 := Blk.cell PB 3 rfl
  have PB_4 := Blk.cell PB 4 rfl
  have PB_f0 := Blk.free PB 0
  have PB_f1 := Blk.free PB 1
  have PB_f2 := Blk.free PB 2
  have PB_f3 := Blk.free PB 3
  have PB_f4 := Blk.free PB 4
  replace h := h.on bw
  have pf := fun W (hh : Lv W A l.length c l) (tt : Tab W) => dFloat_dn (b := b) (x := x) hd hh tt ho
  obtain ⟨F, hF⟩ : ∃ F, fw d = F := ⟨_, rfl⟩
  rw [hF] at pf
  go_enter Tryz.func36, Tryz.ntmps36
  go_wp2_with fail
  with_reducible refine (neg_zero _).mono ?_
  rintro e w0 ⟨rfl, rfl⟩
  go_wp2_with fail
  with_reducible refine (float_any 9223372036854775808 _).mono ?_
  rintro e w0 ⟨rfl, rfl⟩
  go_wp2_with fail
  go_ret
  exact ⟨rfl, by go_grown⟩

set_option maxRecDepth 100000 in
set_option maxHeartbeats 4000000 in
theorem float_zf (hd : Dn b l x d) (h : Lv w A l.length c l) (hT : Tab w) (ho : okE x = true) :
    Calls Tryz.prog 36 #[nuV 1 false b A l.length c x] w fun e w' => e = .returned (.float .f64 (Nu.word ⟨1, false, d⟩)) ∧ Below w.heap.size w w' := by
  have PB := Blk.new w [.int .i64 (1), .bool (false), .bool b, .slice A l.length c, .int .i64 x] 52
  have bw : Below w.heap.size w (w.alloc (.cells #[.int .i64 (1), .bool (false), .bool b, .slice A l.length c, .int .i64 x] 52)) := by go_grown
  have PB_0 := Blk.cell PB 0 rfl
  have PB_1 := Blk.cell PB 1 rfl
  have PB_2 := Blk.cell PB 2 rfl
  have PB_3 := Blk.cell PB 3 rfl
  have PB_4 := Blk.cell PB 4 rfl
  have PB_f0 := Blk.free PB 0
  have PB_f1 := Blk.free PB 1
  have PB_f2 := Blk.free PB 2
  have PB_f3 := Blk.free PB 3
  have PB_f4 := Blk.free PB 4
  replace h := h.on bw
  have pf := fun W (hh : Lv W A l.length c l) (tt : Tab W) => dFloat_dn (b := b) (x := x) hd hh tt ho
  obtain ⟨F, hF⟩ : ∃ F, fw d = F := ⟨_, rfl⟩
  rw [hF] at pf
  go_enter Tryz.func36, Tryz.ntmps36
  go_wp2_with fail
  with_reducible refine (float_any 0 _).mono ?_
  rintro e w0 ⟨rfl, rfl⟩
  go_wp2_with fail
  go_ret
  exact ⟨rfl, by go_grown⟩


theorem nfloat_any {k : Int} {s : Bool} (hk : k = 1 ∨ k = 3 ∨ k = 4 ∨ k = 5) (hd : Dn b l x d) (h : Lv w A l.length c l) (hT : Tab w) (ho : okE x = true) :
    Calls Tryz.prog 36 #[nuV k s b A l.length c x] w fun e w' => e = .returned (.float .f64 (Nu.word ⟨k, s, d⟩)) ∧ Below w.heap.size w w' := by
  rcases hk with rfl | rfl | rfl | rfl
  · cases s
    · exact float_zf hd h hT ho
    · exact float_zt hd h hT ho
  · exact float_n hd h hT ho
  · cases s
    · exact float_if hd h hT ho
    · exact float_it hd h hT ho
  · cases s
    · exact float_nf hd h hT ho
    · exact float_nt hd h hT ho
end
end Go.Proofs.YtfjellhbcjnjkaaGreatDoor
