/-
  Layer 5, walks: Square and Any, by the program.
-/
import Derived.Test.YtfaemgdeoamijaaGuI
namespace Go.Proofs.Ytfaemgdeoamijaa
open Go.RowKit Go.Bw
set_option linter.unusedVariables false
set_option linter.unusedSimpArgs false

/-- the code of m by n words; B: they fit -/
def codeT (m n : Int) (l : List Int) (B : Bool) : Int := if szB m n && decide ((l.length : Int) = m * n) && l.all fin && B then (if l.all inr then 0 else 2) else 1
def TakeP (m n : Int) (l : List Int) (B : Bool) (w : World) (e : Ending) (w' : World) : Prop :=
  MatC (codeT m n l B) (if codeT m n l B = 0 then m else 0) (if codeT m n l B = 0 then n else 0) (if codeT m n l B = 0 then l else []) w e w'
theorem TakeP.one {m n : Int} {l : List Int} {B : Bool} {w : World} {e : Ending} {w' : World} (hc : codeT m n l B = 1) (h : MatC 1 0 0 [] w e w') : TakeP m n l B w e w' := by
  unfold TakeP; rw [hc]; exact h
theorem TakeP.two {m n : Int} {l : List Int} {B : Bool} {w : World} {e : Ending} {w' : World} (hc : codeT m n l B = 2) (h : MatC 2 0 0 [] w e w') : TakeP m n l B w e w' := by
  unfold TakeP; rw [hc]; exact h
theorem TakeP.ok {m n : Int} {l : List Int} {B : Bool} {w : World} {e : Ending} {w' : World} (hc : codeT m n l B = 0) (h : MatC 0 m n l w e w') : TakeP m n l B w e w' := by
  unfold TakeP; rw [hc]; exact h
section
variable {A : Option Addr} {len c : Nat} {m n : Int} {l : List Int} {w : World} {fv : Value} {B : Bool}
theorem take_any (h : UL w A len c l) (HE : szB m n = true → (len : Int) = m * n → l.all fin = true → Hid (∀ W, Below w.heap.size w W → Calls Try.prog 44 #[.int .i64 m, .int .i64 n, fv] W (AnsD W (.bool B)))) :
    Calls Try.prog 31 #[.int .i64 m, .int .i64 n, .slice A len c, fv] w (TakeP m n l B w) := by
  have hl := h.1
  cases hs : szB m n
  · exact (take_bad h (.inl hs)).mono fun e w' hm => TakeP.one (by unfold codeT; rw [hs]; rfl) hm
  · by_cases hlm : (len : Int) = m * n
    · cases hf : l.all fin
      · exact (take_bad h (.inr ⟨hs, .inr ⟨hlm, hf⟩⟩)).mono fun e w' hm => TakeP.one (by unfold codeT; rw [hs, hf]; simp) hm
      · have he := HE hs hlm hf
        cases B
        · exact (take_no h hs hlm hf he (.inl rfl)).mono fun e w' hm => TakeP.one (by unfold codeT; simp) hm
        · cases hi : l.all inr
          · exact (take_no h hs hlm hf he (.inr hi)).mono fun e w' hm => TakeP.two (by unfold codeT; rw [hs, hf, hi, hl, decide_eq_true hlm]; rfl) hm
          · exact (take_ok h hs hlm hf hi he).mono fun e w' hm => TakeP.ok (by unfold codeT; rw [hs, hf, hi, hl, decide_eq_true hlm]; rfl) hm
    · exact (take_bad h (.inr ⟨hs, .inl hlm⟩)).mono fun e w' hm => TakeP.one (by unfold codeT; rw [hl, decide_eq_false hlm]; simp) hm

set_option maxHeartbeats 4000000 in
theorem any_any (h : UL w A len c l) :
    Calls Try.prog 14 #[.int .i64 m, .int .i64 n, .slice A len c] w (TakeP m n l true w) := by
  have h2 := h.alloc (.cells #[.int .i64 0, .int .i64 0, .slice none 0 0] 26)
  have DB := Blk.new w [.int .i64 0, .int .i64 0, .slice none 0 0] 26
  have bw : Below w.heap.size w (w.alloc (.cells #[.int .i64 0, .int .i64 0, .slice none 0 0] 26)) := by go_grown
  have pt := take_any (m := m) (n := n) (fv := .func (.func 34) #[] #[]) (B := true) h2 (fun hs hlm hf => by
    obtain ⟨⟨m0, m1, n0, n1⟩, _, _⟩ := szB_bd hs
    obtain ⟨M, rfl⟩ := Int.eq_ofNat_of_zero_le m0
    obtain ⟨N, rfl⟩ := Int.eq_ofNat_of_zero_le n0
    exact Lib.hid fun W _ => (everywhere_all (M := M) (N := N) (by omega) (by omega)).mono fun e w' hh => ⟨hh.1, 0, hh.2.symm⟩)
  unfold TakeP at pt ⊢
  obtain ⟨K, hK⟩ : ∃ K, codeT m n l true = K := ⟨_, rfl⟩
  obtain ⟨r, hr⟩ : ∃ r, (if codeT m n l true = 0 then m else 0) = r := ⟨_, rfl⟩
  obtain ⟨s, hs⟩ : ∃ s, (if codeT m n l true = 0 then n else 0) = s := ⟨_, rfl⟩
  obtain ⟨q, hq⟩ : ∃ q, (if codeT m n l true = 0 then l else []) = q := ⟨_, rfl⟩
  rw [hr, hs, hq, hK] at pt ⊢
  clear hK hr hs hq
  go_enter Try.func14, Try.ntmps14
  go_wp2_with fail
  with_reducible refine pt.mono ?_
  rintro e w1 ⟨A2, c2, rfl, hfl, hb⟩
  have hsz := hb.size
  simp only [World.size_alloc] at hsz
  replace DB := Blk.on DB hb
  replace bw : Below w.heap.size w w1 := bw.trans (hb.mono (by simp))
  obtain ⟨DB_0, DB_1, DB_2, DB_f0, DB_f1, DB_f2⟩ := Mbx.cells DB
  go_wp2_with fail
  refine bodyPost_ret (v := .tuple #[mV r s A2 q.length c2, .int .i64 K]) (by simp [results, Try.results14, go_sem, DB_0, DB_1, DB_2, DB_f0, DB_f1, DB_f2]) rfl ?_
  exact ⟨A2, c2, rfl, hfl.put DB _ _ _ _ _, below_put bw (Nat.le_refl _) _ _ _⟩

set_option maxHeartbeats 4000000 in
theorem square_any (h : UL w A len c l) :
    Calls Try.prog 10 #[.int .i64 n, .slice A len c] w (TakeP n n l (symB l n.toNat) w) := by
  obtain ⟨w3, hw3⟩ : ∃ w3, ((w.alloc (.cells #[.int .i64 n] 3)).alloc (.cells #[.slice A len c] 22)).alloc (.cells #[.int .i64 0, .int .i64 0, .slice none 0 0] 26) = w3 := ⟨_, rfl⟩
  have DN := ((Blk.new w [.int .i64 n] 3).alloc (.cells #[.slice A len c] 22)).alloc (.cells #[.int .i64 0, .int .i64 0, .slice none 0 0] 26)
  have DW := (Blk.new (w.alloc (.cells #[.int .i64 n] 3)) [.slice A len c] 22).alloc (.cells #[.int .i64 0, .int .i64 0, .slice none 0 0] 26)
  have DB := Blk.new ((w.alloc (.cells #[.int .i64 n] 3)).alloc (.cells #[.slice A len c] 22)) [.int .i64 0, .int .i64 0, .slice none 0 0] 26
  have h2 := ((h.alloc (.cells #[.int .i64 n] 3)).alloc (.cells #[.slice A len c] 22)).alloc (.cells #[.int .i64 0, .int .i64 0, .slice none 0 0] 26)
  have bw : Below w.heap.size w (((w.alloc (.cells #[.int .i64 n] 3)).alloc (.cells #[.slice A len c] 22)).alloc (.cells #[.int .i64 0, .int .i64 0, .slice none 0 0] 26)) := by go_grown
  simp only [World.size_alloc] at DN DW DB
  have hs3 : (((w.alloc (.cells #[.int .i64 n] 3)).alloc (.cells #[.slice A len c] 22)).alloc (.cells #[.int .i64 0, .int .i64 0, .slice none 0 0] 26)).heap.size = w.heap.size + 3 := by simp
  have pt := take_any (m := n) (n := n) (fv := .func (.func 32) #[] #[.pointer (some ⟨w.heap.size + 1, 0, none⟩), .pointer (some ⟨w.heap.size, 0, none⟩)]) (B := symB l n.toNat) h2 (fun hs hlm hf => by
    obtain ⟨⟨m0, m1, n0, n1⟩, _, _⟩ := szB_bd hs
    obtain ⟨N, rfl⟩ := Int.eq_ofNat_of_zero_le m0
    have hN : N ≤ 512 := by omega
    have hl2 : len = N * N := by
      have : ((len : Nat) : Int) = ((N * N : Nat) : Int) := by rw [hlm]; push_cast; rfl
      exact Int.ofNat_inj.1 this
    rw [Int.toNat_natCast]
    exact Lib.hid fun W hb => everywhere_any hN (Lib.hid fun mm i k hi hk => sq1_any ((h2.on hb).drewN mm) (((DW.on hb).drewN mm)) (((DN.on hb).drewN mm)) hN hl2 hi hk))
  unfold TakeP at pt ⊢
  obtain ⟨K, hK⟩ : ∃ K, codeT n n l (symB l n.toNat) = K := ⟨_, rfl⟩
  obtain ⟨r, hr⟩ : ∃ r, (if codeT n n l (symB l n.toNat) = 0 then n else 0) = r := ⟨_, rfl⟩
  obtain ⟨q, hq⟩ : ∃ q, (if codeT n n l (symB l n.toNat) = 0 then l else []) = q := ⟨_, rfl⟩
  rw [hr, hq, hK] at pt ⊢
  have DN_0 := Blk.cell DN 0 rfl
  have DW_0 := Blk.cell DW 0 rfl
  clear hK hr hq hs3 hw3
  go_enter Try.func10, Try.ntmps10
  go_wp2_with fail
  with_reducible refine pt.mono ?_
  rintro e w1 ⟨A2, c2, rfl, hfl, hb⟩
  have hsz := hb.size
  simp only [World.size_alloc] at hsz
  replace DB := Blk.on DB hb
  replace bw : Below w.heap.size w w1 := bw.trans (hb.mono (by simp; omega))
  obtain ⟨DB_0, DB_1, DB_2, DB_f0, DB_f1, DB_f2⟩ := Mbx.cells DB
  clear DN_0 DW_0
  go_wp2_with fail
  refine bodyPost_ret (v := .tuple #[mV r r A2 q.length c2, .int .i64 K]) (by simp [results, Try.results10, go_sem, DB_0, DB_1, DB_2, DB_f0, DB_f1, DB_f2]) rfl ?_
  exact ⟨A2, c2, rfl, hfl.put DB _ _ _ _ _, below_put bw (by omega) _ _ _⟩
end
end Go.Proofs.Ytfaemgdeoamijaa
