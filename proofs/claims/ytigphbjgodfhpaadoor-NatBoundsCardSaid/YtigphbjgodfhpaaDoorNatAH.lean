/-
  Layer 2, walks, part twenty-seven: the digits are handed out.
-/
import Derived.Test.YtigphbjgodfhpaaDoorNatAG
namespace Go.Proofs.YtigphbjgodfhpaaDoor
open Go.RowKit Go.Shelf
set_option linter.unusedVariables false
attribute [local go_sem] Oper.semAt_some

def encd (d : Dgt) : Array Value := #[.int .u8 (48 + d.1)]

/-- the rounds that the loop grants -/
def Yields (l N : Nat) (J : List Dgt → World → Prop) (n : Nat) : Prop :=
  ∀ pre x W1, J pre W1 → pre.length < N → YieldAt Fence.wide n Tryd.prog l (encd x) W1 fun e W' => e = .returned (.bool true) ∧ J (pre ++ [x]) W' ∧ KeepsT 39 W1 W'

/-- between two blocks of digits -/
def OutRel (V : Int) (B : Nat) (J : List Dgt → World → Prop) (p : Value) (wr : World) : Prop :=
  ∃ (R : List Int) (A : Option Addr) (c : Nat) (ys : List Dgt), p = .slice A R.length c ∧ R.length ≤ 1000000 ∧ Mine B wr A c R ∧ Lim 18446744073709551616 R ∧ Normal R ∧ J ys wr ∧
    Hid (V = val 10 (dv ys) + val 18446744073709551616 R * 10 ^ ys.length ∧ (val 18446744073709551616 R = 0 → Normal (dv ys)))

/-- between two digits -/
def InRel (V cv : Int) (B : Nat) (J : List Dgt → World → Prop) (A : Option Addr) (c : Nat) (R : List Int) (i p : Value) (wr : World) : Prop :=
  ∃ (m : Nat) (b : Int) (ys : List Dgt), i = .int .i64 m ∧ p = .int .u64 b ∧ m ≤ 19 ∧ 0 ≤ b ∧ b < 10000000000000000000 ∧ Mine B wr A c R ∧ J ys wr ∧ Hid (St V cv m b ys)

theorem normal_pos {R : List Int} (hl : Lim 18446744073709551616 R) (hn : Normal R) (h : R ≠ []) : 0 < val 18446744073709551616 R := by
  have h0 := (val_bound (b := 18446744073709551616) (by omega) hl).1
  rcases Int.lt_or_le 0 (val 18446744073709551616 R) with h1 | h1
  · exact h1
  · exact absurd (normal_unique (b := 18446744073709551616) (by omega) hl (Lim.nil _) hn Normal.nil (by rw [val_nil]; omega)) h

/-- the number that a slice reads -/
def leftOf (w : World) (p : Value) : Nat := match p with
  | .slice (some ad) n _ => (val 18446744073709551616 ((List.range n).map fun k => match w.cell? (ad.add k) with | some (.int _ x) => x | _ => 0)).toNat
  | _ => 0

theorem left_eq {B c : Nat} {w : World} {A : Option Addr} {R : List Int} (h : Mine B w A c R) : leftOf w (.slice A R.length c) = (val 18446744073709551616 R).toNat := by
  by_cases hz : R = []
  · subst hz
    cases A <;> simp [leftOf, val_nil]
  · obtain ⟨g, rfl, _, hP⟩ := h.2.2 hz
    show (val 18446744073709551616 ((List.range R.length).map _)).toNat = _
    congr 2
    apply List.ext_getElem
    · simp
    · intro i h1 h2
      have := hP.cell (k := i) h2
      simp [add_at, this, D, h2]

theorem Pre.abides {g c B : Nat} {w w' : World} {R : List Int} {J : List Dgt → World → Prop} (h : Pre w g c R) (hJ : AbidesT B 39 J) (hB : B ≤ g) (hg : w.grownBy w' (some g)) {ys : List Dgt} (h0 : J ys w) : J ys w' := by
  obtain ⟨cur, h1, _⟩ := h
  exact hJ ys w w' (some g) h0 hg (fun r e => by cases e; exact ⟨hB, cur, _, h1⟩)

set_option maxRecDepth 100000 in
set_option maxHeartbeats 4000000 in
theorem digits1 (n : Nat) (hn : 1 ≤ n) (A : Option Addr) (c : Nat) (l : List Int) (Bn lp : Nat) (W : World) (hB : W.cell? ⟨Bn, 0, none⟩ = some (.slice A l.length c)) (h : Nums W W.heap.size A c l) (hl : Lim 18446744073709551616 l) (nl : Normal l) (hlen : l.length ≤ 4096)
    (J : List Dgt → World → Prop) (hJ : AbidesT W.heap.size 39 J) (hY : Yields lp (digs (val 18446744073709551616 l).toNat).length J (n - 1)) (h0 : J [] W) :
    CallsIn Fence.wide n Tryd.prog 87 #[.func (.yield lp) #[] #[], .pointer (some ⟨Bn, 0, none⟩)] W fun e W' => (∃ v, e = .returned v) ∧ ∃ ys, dv ys = digs (val 18446744073709551616 l).toNat ∧ J ys W' := by
  obtain ⟨V, hV⟩ : ∃ V, val 18446744073709551616 l = V := ⟨_, rfl⟩
  rw [hV] at hY ⊢
  refine callsIn_of_wp Tryd.func87 rfl trivial ?_ rfl
  simp only [Tryd.ntmps87, List.size_toArray, List.length_cons, List.length_nil, Nat.reduceAdd, Nat.reduceSub, Array.replicate_succ, Array.replicate_zero, List.push_toArray, List.append_toArray, List.nil_append, List.cons_append]
  gi_wp2_with (refine ⟨trivial, ?_⟩; gi_at_call 52; refine (callsIn_wide.2 (clone_grown A c l _ h (by omega))).mono ?_; rintro e w' ⟨A1, c1, rfl, hm1, hg1⟩)
  have hJ1 : J [] w' := hJ [] W w' none h0 hg1 (fun r e => by cases e)
  have hV1 := Lib.hid hV
  clear hV
  gi_loopw [3] (fun p wr => OutRel V W.heap.size J p wr) (fun p wr => leftOf wr p)
  case atStart => exact ⟨l, A1, c1, [], rfl, by omega, hm1, hl, nl, hJ1, by rw [dv_nil, val_nil, ← hV1.out]; simp, fun _ => by rw [dv_nil]; exact Normal.nil⟩
  case round =>
    obtain ⟨R, A2, c2, ys, rfl, hR1, hM, hRl, hRn, hJs, HV⟩ := hrel
    by_cases hz : R = []
    · subst hz
      gi_wp2
      go_end0
      exact ⟨⟨_, rfl⟩, ys, all_out (by have := HV.out.1; rwa [val_nil] at this) (HV.out.2 (val_nil _)), hJs⟩
    · have hlen2 : 0 < R.length := List.length_pos_iff.2 hz
      have hpos := Lib.hid (normal_pos hRl hRn hz)
      have HL := Lib.hid (left_eq hM)
      obtain ⟨g, rfl, hgB, hP⟩ := hM.2.2 hz
      have hM1 := hM.1
      have hM2 := hM.2.1
      clear hz
      gi_wp2_with (first
        | (refine ⟨trivial, ?_⟩; gi_at_call 88; refine (callsIn_wide.2 (quotients_same c2 R g 10000000000000000000 _ hP hRl hM1 hR1 (by omega) (by omega))).mono ?_; rintro e w2 ⟨C, r, rfl, r0, r1, hCl, hCL, hP2, hg2, HE⟩; have htr := trim_any (some ⟨g, 0, none⟩) c2 C w2 w2.heap.size (hP2.nums (by omega) hM2 hP2.lt) hCL; rw [hCl] at htr; have HT := Lib.hid htr; clear htr; have HC := Lib.hid hCl; clear hCl)
        | (refine ⟨trivial, ?_⟩; gi_at_call 72; refine (callsIn_wide.2 HT.out).mono ?_; rintro e w3 ⟨A3, c3, rfl, ht, rfl⟩))
      have hM3 := hP2.trimmed (by have := HC.out; omega) hM2 hgB ht
      have hJ2 := hP.abides hJ hgB hg2 hJs
      have hcl := norm_lim hCL
      have hcn := norm_normal C
      have hcv := norm_val 18446744073709551616 C
      have hcN := norm_length C
      have hE := HE.out
      rw [← hcv] at hE
      have hS := St.start HV.out.1 hE r0 r1 hpos.out
      obtain ⟨M, hMe⟩ : ∃ M, norm C = M := ⟨_, rfl⟩
      rw [hMe] at hM3 hcl hcn hE hS hcN ⊢
      have hM10 : M.length ≤ 1000000 := by have := HC.out; omega
      have HS0 := Lib.hid hS
      have HE2 := Lib.hid hE
      have hcv0 := (val_bound (b := 18446744073709551616) (by omega) hcl).1
      clear hS hE HE hMe hcv hcN HT HC ht hP hP2 hM HV hCL
      gi_loopw [15, 4] (fun i p wr => InRel V (val 18446744073709551616 M) W.heap.size J A3 c3 M i p wr) (fun i _ _ => 19 - (intOf i).toNat)
      case atStart => exact ⟨0, r, ys, rfl, rfl, by omega, r0, r1, hM3, hJ2, HS0⟩
      case round =>
        obtain ⟨m, b, zs, rfl, rfl, hm, b0, b1, hM4, hJ4, HS⟩ := hrel
        by_cases hm19 : m = 19
        · subst hm19
          gi_wp2
          go_roundw
          case rel =>
            have hov := HS.out.over
            exact ⟨M, A3, c3, zs, rfl, hM10, hM4, hcl, hcn, hJ4, hov⟩
          case measure =>
            rw [left_eq hM4, HL.out]
            have := HE2.out
            have := hpos.out
            omega
        · have hmlt : m < 19 := by omega
          have hmi : (m : Int) < 19 := by omega
          have hm0 : (0 : Int) ≤ m := by omega
          by_cases hz2 : M.length = 0
          · have hMn : M = [] := List.eq_nil_of_length_eq_zero hz2
            by_cases hb0 : b = 0
            · subst hb0
              gi_wp2
              refine bodyPost_ret (results_none rfl _ _ _) rfl ?_
              have hst := HS.out.2.2.2
              rw [hMn, val_nil, Int.zero_mul, Int.zero_add] at hst
              exact ⟨⟨_, rfl⟩, zs, all_out hst.1 (hst.2 ⟨rfl, rfl⟩), hJ4⟩
            · have hnz : ¬ (val 18446744073709551616 M = 0 ∧ b = 0) := fun h => hb0 h.2
              have hz3 : ((M.length : Int) == 0) = true := by rw [hz2]; rfl
              obtain ⟨fn, tmps, assign, body, hy, hR⟩ := hY zs ⟨b % 10, by omega, by omega⟩ _ hJ4 (HS.out.lt hnz hcv0)
              dsimp only [encd] at hy
              have HX := Lib.hid (HS.out.next hmlt hnz hcv0 ⟨b % 10, by omega, by omega⟩ rfl)
              have hd0 : 0 ≤ b % 10 := by omega
              have hd1 : b % 10 < 10 := by omega
              clear hz2 hMn hnz HS HE2 HL hpos HS0 hV1
              gi_wp2
              refine hR.mono ?_
              rintro e W3 ⟨rfl, hJ5, hk5⟩
              gi_wp2
              go_roundw
              case rel => exact ⟨m + 1, b / 10, zs ++ [⟨b % 10, by omega, by omega⟩], by go_num, rfl, by omega, by omega, by omega, hM4.keeps hk5, hJ5, HX⟩
              case measure => simp [intOf]; omega
          · have hnz : ¬ (val 18446744073709551616 M = 0 ∧ b = 0) := fun h => by
              have := normal_pos hcl hcn (fun e => hz2 (by rw [e]; rfl))
              omega
            have hml : 0 < M.length := by omega
            obtain ⟨fn, tmps, assign, body, hy, hR⟩ := hY zs ⟨b % 10, by omega, by omega⟩ _ hJ4 (HS.out.lt hnz hcv0)
            dsimp only [encd] at hy
            have HX := Lib.hid (HS.out.next hmlt hnz hcv0 ⟨b % 10, by omega, by omega⟩ rfl)
            have hd0 : 0 ≤ b % 10 := by omega
            have hd1 : b % 10 < 10 := by omega
            clear hnz HS HE2 HL hpos HS0 hV1
            gi_wp2
            refine hR.mono ?_
            rintro e W3 ⟨rfl, hJ5, hk5⟩
            gi_wp2
            go_roundw
            case rel => exact ⟨m + 1, b / 10, zs ++ [⟨b % 10, by omega, by omega⟩], by go_num, rfl, by omega, by omega, by omega, hM4.keeps hk5, hJ5, HX⟩
            case measure => simp [intOf]; omega
end Go.Proofs.YtigphbjgodfhpaaDoor
