/-
  Layer 2, walks, part twenty-four: a block of digits behind a number; texts that are read.
-/
import Derived.Test.YtigphbjgodfhpaaDoorNatAD
import Derived.RegionTactic
namespace Go.Proofs.YtigphbjgodfhpaaDoor
open Go.RowKit
set_option linter.unusedVariables false

/-- a step of a number times a block -/
def BlockStep (x c : Int) (b : Nat) (w : World) (e : Ending) (w' : World) : Prop :=
  ∃ z d : Int, e = .returned (.int .u64 z) ∧ 0 ≤ z ∧ z < 18446744073709551616 ∧ 0 ≤ d ∧ d < 18446744073709551616 ∧ Hid (x * 10000000000000000000 + c = z + d * 18446744073709551616) ∧ w.setCell ⟨b, 0, none⟩ (.int .u64 d) = w'

set_option maxHeartbeats 1000000 in
theorem blockstep_any (x c : Int) (b : Nat) (w : World) (h : Row w b [c]) (hx : 0 ≤ x) (hx1 : x < 18446744073709551616) (hc : 0 ≤ c) (hc1 : c < 18446744073709551616) :
    Calls Tryd.prog 89 #[.int .u64 x, .pointer (some ⟨b, 0, none⟩)] w (BlockStep x c b w) := by
  have h0 := h.cell (k := 0) (by simp)
  have hfz := h.frozen 0
  simp only [D_cons_zero] at h0
  obtain ⟨hi, lo, m0, m1, m2, m3, me, HM⟩ := mul_ex x 10000000000000000000 hx hx1 (by omega) (by omega)
  obtain ⟨z1, o1, z10, z11, o10, o11, e1, r1⟩ := run_add lo c 0 w m2 m3 hc hc1 (by omega) (by omega)
  have HE : Hid (x * 10000000000000000000 + c = z1 + (hi + o1) * 18446744073709551616) := by show _ = _; omega
  have hbd : hi + o1 ≤ 18446744073709551615 := by omega
  clear me e1
  go_enter Tryd.func89, Tryd.ntmps89
  go_wp2_with (go_at_call 90; ((with_reducible refine (HM _).mono ?_); rintro e w' ⟨rfl, rfl⟩))
  go_ret
  exact ⟨z1, hi + o1, rfl, z10, z11, by omega, by omega, HE, rfl⟩

/-- a number, with a block of digits behind it -/
def BlockPost (v : Int) (B : Nat) (w : World) (e : Ending) (w' : World) : Prop :=
  ∃ A c l, e = .returned (.slice A l.length c) ∧ Own w' B A c l ∧ Lim 18446744073709551616 l ∧ Normal l ∧ Hid (val 18446744073709551616 l = v) ∧ Below B w w'

theorem dval_take (s : ByteArray) (k : Nat) (hk : k < s.size) : dval (s.data.toList.take (k + 1)) = dval (s.data.toList.take k) * 10 + dig s[k] := by
  rw [List.take_succ_eq_append_getElem (by simpa using hk), dval_snoc, byte_at s k hk]

set_option maxHeartbeats 4000000 in
theorem appendBlock_any (A : Option Addr) (c : Nat) (l : List Int) (s : ByteArray) (B : Nat) (w : World) (hown : Own w B A c l) (hB : B ≤ w.heap.size) (hl : Lim 18446744073709551616 l) (nl : Normal l) (hlen : l.length ≤ 100000)
    (hs : s.size ≤ 19) (hd : ∀ k (hk : k < s.size), 48 ≤ s[k].toNat ∧ s[k].toNat ≤ 57) :
    Calls Tryd.prog 70 #[.slice A l.length c, .string s] w (BlockPost (val 18446744073709551616 l * 10000000000000000000 + dval s.data.toList) B w) := by
  have HD := Lib.hid hd
  clear hd
  go_enter Tryd.func70, Tryd.ntmps70
  go_wp2_with fail
  go_loopw [11] (fun i wr => ∃ (k : Nat) (x : Int), k ≤ s.size ∧ i = .int .i64 k ∧ Hid (x = dval (s.data.toList.take k)) ∧ 0 ≤ x ∧ x < 10 ^ k ∧ Row wr w.heap.size [x] ∧ Below w.heap.size w wr) (fun i _ => s.size - (intOf i).toNat)
  case atStart => exact ⟨0, 0, by omega, rfl, rfl, by omega, by simp, Row.one w 0, (Below.refl _ w).alloc (Nat.le_refl _) _⟩
  case round =>
    obtain ⟨k, x, hk, rfl, HX, x0, x1, hr, hb⟩ := hrel
    have h0 := hr.cell (k := 0) (by simp)
    have hfz := hr.frozen 0
    simp only [D_cons_zero] at h0
    have x1' := x1
    have hp19 := pow_le' (b := 10) (by omega) (show k ≤ 19 by omega)
    have e19 : (10 : Int) ^ 19 = 10000000000000000000 := by decide
    by_cases hlt : k < s.size
    · have hbt := HD.out k hlt
      have hp18 := pow_le' (b := 10) (by omega) (show k ≤ 18 by omega)
      have e18 : (10 : Int) ^ 18 = 1000000000000000000 := by decide
      have x2 : x ≤ 999999999999999999 := by omega
      have hdt := dval_take s k hlt
      have HT := Lib.hid hdt
      have X1 := Lib.hid x1
      have i0 : (0 : Int) ≤ k := by omega
      clear hdt x1 x1' hp18 hp19 e18 e19
      have hw1 : IntKind.u64.wrap (x * 10) = x * 10 := by rw [IntKind.wrap_u64]; omega
      have hw2 : IntKind.u8.wrap ((s[k].toNat : Int) - 48) = (s[k].toNat : Int) - 48 := IntWalk.u8_in _ (by omega)
      have hw3 : IntKind.u64.wrap ((s[k].toNat : Int) - 48) = (s[k].toNat : Int) - 48 := by rw [IntKind.wrap_u64]; omega
      have hw4 : IntKind.u64.wrap (x * 10 + ((s[k].toNat : Int) - 48)) = x * 10 + ((s[k].toNat : Int) - 48) := by rw [IntKind.wrap_u64]; omega
      go_wp2_with fail
      go_region
      all_goals
        go_wp2_with fail
        go_roundw
        case rel =>
          refine ⟨k + 1, x * 10 + ((s[k].toNat : Int) - 48), by omega, by go_num, ?_, by omega, ?_, (hr.set_ 0 _).drew, (hb.setCell (p := ⟨w.heap.size, 0, none⟩) (Nat.le_refl _) _).drew⟩
          · show _ = _
            rw [HT.out, ← HX.out]; rfl
          · have := X1.out
            rw [Int.pow_succ]; omega
        case measure => simp [intOf]; omega
    · obtain rfl : k = s.size := by omega
      have hall : s.data.toList.take s.size = s.data.toList := List.take_of_length_le (by simp)
      rw [hall] at HX
      have x3 : x < 10000000000000000000 := by omega
      have hsz := hb.size
      have X1 := Lib.hid x1
      clear x1 x1' hp19 e19 hall h0
      have hfm : ∀ g, A = some ⟨g, 0, none⟩ → 0 < l.length → B ≤ g ∧ g < w.heap.size := fun g hg hz => by
        obtain ⟨g', h1, h2, h3⟩ := hown.form hz
        rw [hg] at h1; injection h1 with h1; injection h1 with h1; subst h1; exact ⟨h2, h3⟩
      have HF := Lib.hid hfm
      have hown1 := hown.below hb
      have hm := hown1.nums.length
      clear hfm
      go_wp2_with fail
      go_loopw [26] (fun i wq => ∃ (k : Nat) (C : List Int) (d : Int), k ≤ l.length ∧ i = .int .i64 k ∧ Hid (C.length = l.length) ∧ Lim 18446744073709551616 C ∧ 0 ≤ d ∧ d < 18446744073709551616 ∧ Own wq B A c C ∧ Row wq w.heap.size [d] ∧ Below B w wq ∧
          Hid (∀ j, k ≤ j → D C j = D l j) ∧ Hid (S 18446744073709551616 (D C) k + d * 18446744073709551616 ^ k = S 18446744073709551616 (D l) k * 10000000000000000000 + x)) (fun i _ => l.length - (intOf i).toNat)
      case atStart => exact ⟨0, l, x, by omega, rfl, rfl, hl, x0, by omega, hown1, hr, hb.mono hB, fun _ _ => rfl, by show _ = _; simp [S]⟩
      case round =>
        obtain ⟨k, C, d, hk, rfl, HC, hCl, d0, d1, ho, hrow, hbw, HLO, HE⟩ := hrel
        have hsz2 := hbw.size
        by_cases hlt : k < l.length
        · obtain ⟨g, rfl, hg1, hg2⟩ := ho.form (by rw [HC.out]; omega)
          obtain ⟨hg3, hg4⟩ := HF.out g rfl (by omega)
          have c0 := ho.cellAt (k := k) (by rw [HC.out]; exact hlt)
          have f0 := ho.frozenAt k
          have hx := D_lim (b := 18446744073709551616) (by omega) hCl k
          have i0 : (0 : Int) ≤ k := by omega
          have i1 : (k : Int) < l.length := by omega
          have hne : ¬ g = w.heap.size := by omega
          go_wp2_with (go_at_call 89; ((with_reducible refine (blockstep_any (D C k) d _ _ hrow hx.1 hx.2 d0 d1).mono ?_); rintro e w' ⟨z, d', rfl, z0, z1, d0', d1', he, rfl⟩))
          go_roundw
          case rel =>
            refine ⟨k + 1, C.set k z, d', by omega, by go_num, by show _ = _; rw [List.length_set, HC.out], hCl.set k z0 z1, d0', d1', ?_, (hrow.set_ 0 d').far (by simp; omega) _, (hbw.setCell (p := ⟨w.heap.size, 0, none⟩) hB _).setCell (p := ⟨g, k, none⟩) hg3 _, fun j hj => ?_, ?_⟩
            · exact Own.set_ (ownsRow_setCell_other ho (by simp [Value.ownBlock]; omega) _) k z
            · rw [D_set z j (by rw [HC.out]; exact hlt), if_neg (by omega)]; exact HLO.out j (by omega)
            · show _ = _
              have h1 := HE.out
              have h2 := he.out
              have h3 := HLO.out k (Nat.le_refl _)
              rw [S_succ, S_succ, S_congr (g := D C) (fun i hi => by rw [D_set z i (by rw [HC.out]; exact hlt), if_neg (by omega)]), D_set z k (by rw [HC.out]; exact hlt), if_pos rfl, Int.pow_succ]
              rw [h3] at h2
              grind
          case measure => simp [intOf]; omega
        · obtain rfl : k = l.length := by omega
          have h0 := hrow.cell (k := 0) (by simp)
          simp only [D_cons_zero] at h0
          have hE := HE.out
          rw [S_val (by rw [HC.out]; omega), S_val (Nat.le_refl _)] at hE
          have HV := Lib.hid hE
          clear hE
          by_cases hd : d = 0
          · have hd' : (d != 0) = false := by simpa using hd
            have hv : val 18446744073709551616 C = val 18446744073709551616 l * 10000000000000000000 + dval s.data.toList := by
              have := HV.out; rw [hd] at this; rw [← HX.out]; omega
            have hn : Normal C := by
              rcases Nat.eq_zero_or_pos l.length with hz | hz
              · left; exact List.eq_nil_of_length_eq_zero (by rw [HC.out]; exact hz)
              · right
                intro h9
                have h1 := normal_ge (b := 18446744073709551616) (by omega) hl nl (List.length_pos_iff.1 hz)
                have h2 : val 18446744073709551616 C = S 18446744073709551616 (D C) (C.length - 1) := by
                  unfold val
                  rw [show C.length = C.length - 1 + 1 from by rw [HC.out]; omega, S_succ]
                  simp only [Nat.add_sub_cancel]
                  rw [h9]; omega
                have h3 := (S_of_bound (b := 18446744073709551616) (by omega) hCl (C.length - 1)).2
                rw [← h2, HC.out, hv, ← HX.out] at h3
                have h4 := (val_bound (b := 18446744073709551616) (by omega) hl).1
                omega
            have HV2 := Lib.hid hv
            have HD0 := Lib.hid hd
            clear hd hv
            go_wp2_with fail
            go_ret
            exact ⟨A, c, C, by rw [HC.out]; rfl, ho, hCl, hn, HV2.out, hbw⟩
          · have hd' : (d != 0) = true := by simpa using hd
            have hv : val 18446744073709551616 (C ++ [d]) = val 18446744073709551616 l * 10000000000000000000 + dval s.data.toList := by
              rw [val_append, val_cons, val_nil, HC.out, ← HX.out]
              have := HV.out
              grind
            have hn : Normal (C ++ [d]) := by
              right
              rw [List.length_append, List.length_singleton, Nat.add_sub_cancel, D_append, if_neg (by omega), Nat.sub_self, D_cons_zero]
              exact hd
            have HV2 := Lib.hid hv
            clear hv hd
            have hsrc := fun W => (Row.one W d).nums (B := W.heap.size + 1) (c := 1) 0 1 (by simp) (by omega) (by unfold maxLen; omega) (by omega)
            simp only [List.drop_zero, List.take_succ_cons, List.take_zero] at hsrc
            have hsz3 : B ≤ wr.heap.size := by omega
            have hCe : C.length ≤ l.length := by rw [HC.out]; omega
            go_wp2_with (at_builtin; refine wpList_app _ rfl _ _ rfl B A c C (by rw [HC.out]; rfl) (ho.alloc_ _) _ (some ⟨wr.heap.size, 0, none⟩) 1 [d] rfl (hsrc _) (by simp; omega) (by simp; omega) ?_; intro A4 c4 w4 hown4 hg hat)
            go_ret
            exact ⟨A4, c4, C ++ [d], by rw [List.length_append, HC.out]; rfl, hown4, hCl.snoc d0 d1, hn, HV2.out, below_app (hbw.alloc hsz3 _) (ho.alloc_ _) hg (by simp; omega)⟩

/-! ### texts that are read -/
theorem pow_base {a b : Int} (ha : 0 < a) (h : a ≤ b) (n : Nat) : a ^ n ≤ b ^ n := by
  induction n with
  | zero => simp
  | succ n ih =>
    rw [Int.pow_succ, Int.pow_succ]
    exact Int.mul_le_mul ih h (by omega) (Int.le_of_lt (pow_pos' (by omega) n))
theorem len_dec {l : List Int} {n : Nat} (hl : Lim 18446744073709551616 l) (nl : Normal l) (h : val 18446744073709551616 l < 10 ^ n) : l.length ≤ n :=
  length_le_of_lt (b := 18446744073709551616) (by omega) hl nl (Int.lt_of_lt_of_le h (pow_base (by omega) (by omega) n))

def strLen : Value → Nat | .string r => r.size | _ => 0
/-- what is read, so far -/
def ReadInv (s : ByteArray) (w0 : World) (rem : ByteArray) (sl : Value) (w : World) : Prop :=
  ∃ (p : Nat) (A : Option Addr) (c : Nat) (l : List Int), sl = .slice A l.length c ∧ rem.data.toList = s.data.toList.drop p ∧ rem.size + p = s.size ∧ (p = 0 ∨ rem.size % 19 = 0) ∧ Own w w0.heap.size A c l ∧ Lim 18446744073709551616 l ∧ Normal l ∧
    val 18446744073709551616 l = dval (s.data.toList.take p) ∧ Below w0.heap.size w0 w

theorem read_value {s rem : ByteArray} {p f : Nat} {v : Int} (h1 : rem.data.toList = s.data.toList.drop p) (h2 : rem.size + p = s.size) (hf : f ≤ rem.size) (hv : v = dval (s.data.toList.take p)) (h : p = 0 ∨ f = 19) :
    v * 10000000000000000000 + dval (rem.data.toList.take f) = dval (s.data.toList.take (p + f)) := by
  have e : s.data.toList.take (p + f) = s.data.toList.take p ++ rem.data.toList.take f := by rw [h1, List.take_add]
  have hl : (rem.data.toList.take f).length = f := by rw [List.length_take, Array.length_toList]; show min f rem.size = f; omega
  rw [e, dval_append, ← hv, hl]
  rcases h with h | h
  · subst h
    rw [List.take_zero, dval_nil] at hv
    subst hv; omega
  · subst h
    rw [show (10 : Int) ^ 19 = 10000000000000000000 from by decide]

set_option maxHeartbeats 4000000 in
theorem readLoop (s : ByteArray) (h : OkText s.data.toList) (w : World) (hm : s.size ≤ 78914) (Q : Ending → World → Prop)
    (hQ : ∀ (A : Option Addr) (c : Nat) (l : List Int) (w1 : World), Own w1 w.heap.size A c l → Lim 18446744073709551616 l → Normal l → val 18446744073709551616 l = dval s.data.toList → Below w.heap.size w w1 →
      Calls Tryd.prog 53 #[.slice A l.length c] w1 fun e w' => ∃ a b, e = .returned (.tuple #[a, b]) ∧ Q (.returned (.tuple #[a, b])) w') :
    Calls Tryd.prog 44 #[.string s] w Q := by
  have HQ := Lib.hid hQ
  have HO := Lib.hid h
  clear hQ h
  go_enter Tryd.func44, Tryd.ntmps44
  go_wp2_with (go_at_call 69; ((with_reducible refine (isText_yes s HO.out _).mono ?_); rintro e w' ⟨rfl, rfl⟩))
  go_loopw [0, 4] (fun a b wr => ∃ rem : ByteArray, a = .string rem ∧ ReadInv s w rem b wr) (fun a _ _ => strLen a)
  case atStart =>
    exact ⟨s, rfl, 0, none, 0, [], rfl, by simp, by omega, .inl rfl, Own.nil _ _, Lim.nil _, Normal.nil, by simp [val_nil, dval_nil], Below.refl _ _⟩
  case round =>
    obtain ⟨rem, rfl, p, A, c, l, rfl, hr1, hr2, hr3, ho, hl, nl, hv, hb⟩ := hrel
    have hbs := hb.size
    have hdall : ∀ c ∈ s.data.toList, IsDig c := HO.out.2.2.2
    have hll : l.length ≤ 78914 := by
      have h1 := dval_bd (s.data.toList.take p) (fun c hc => hdall c (List.mem_of_mem_take hc))
      rw [← hv] at h1
      have h2 := len_dec hl nl h1.2
      have h3 : (s.data.toList.take p).length ≤ s.size := by rw [List.length_take, Array.length_toList]; exact Nat.min_le_right _ _
      omega
    have R1 := Lib.hid hr1
    have R2 := Lib.hid hr2
    have R3 := Lib.hid hr3
    have HV := Lib.hid hv
    have hrs : rem.size ≤ 78914 := by omega
    by_cases h0 : 0 < rem.size
    · obtain ⟨f, hf⟩ : ∃ f, (rem.size - 1) % 19 + 1 = f := ⟨_, rfl⟩
      have hfi : ((rem.size : Int) - 1) % 19 + 1 = (f : Int) := by omega
      have f1 : f ≤ rem.size := by omega
      have f2 : f ≤ 19 := by omega
      have f0 : 1 ≤ f := by omega
      have f3 : (rem.size - f) % 19 = 0 := by omega
      have f4 : p = 0 ∨ f = 19 := by omega
      have F3 := Lib.hid f3
      have F4 := Lib.hid f4
      have hx : (rem.extract 0 f).data.toList = rem.data.toList.take f := by rw [Lib.extract_data]; simp
      have hxs : (rem.extract 0 f).size = f := by rw [ByteArray.size_extract]; omega
      have hy : (rem.extract f rem.size).data.toList = rem.data.toList.drop f := by
        rw [Lib.extract_data, List.take_of_length_le]
        rw [List.length_drop, Array.length_toList]; exact Nat.le_refl _
      have hys : (rem.extract f rem.size).size = rem.size - f := by rw [ByteArray.size_extract]; omega
      have hdig : ∀ k (hk : k < (rem.extract 0 f).size), 48 ≤ (rem.extract 0 f)[k].toNat ∧ (rem.extract 0 f)[k].toNat ≤ 57 := fun k hk => by
        have h1 := mem_at (rem.extract 0 f) k hk
        rw [hx] at h1
        have h2 := List.mem_of_mem_take h1
        rw [hr1] at h2
        exact hdall _ (List.mem_of_mem_drop h2)
      have hab := appendBlock_any A c l (rem.extract 0 f) w.heap.size wr ho hbs hl nl (by omega) (by omega) hdig
      rw [hx] at hab
      have HAB := Lib.hid hab
      have Y1 := Lib.hid hy
      have Y2 := Lib.hid hys
      have i0 : (0 : Int) ≤ f := by omega
      have i1 : (f : Int) ≤ rem.size := by omega
      clear hr1 hr2 hr3 hv hf f3 f4 hx hxs hy hys hdig hab hdall
      go_wp2_with (go_at_call 70; ((with_reducible refine HAB.out.mono ?_); rintro e w2 ⟨A2, c2, l2, rfl, ho2, hl2, nl2, hv2, hb2⟩))
      go_roundw
      case rel =>
        refine ⟨_, rfl, p + f, A2, c2, l2, rfl, ?_, ?_, ?_, ho2, hl2, nl2, ?_, hb.trans hb2⟩
        · rw [Y1.out, R1.out, List.drop_drop]
        · rw [Y2.out]; have := R2.out; omega
        · rw [Y2.out]; exact .inr F3.out
        · rw [hv2.out]; exact read_value R1.out R2.out f1 HV.out F4.out
      case measure => simp only [strLen]; rw [Y2.out]; omega
    · have hp : p = s.size := by omega
      have hfin : val 18446744073709551616 l = dval s.data.toList := by rw [hv, hp, List.take_of_length_le (by rw [Array.length_toList]; exact Nat.le_refl _)]
      have HA := Lib.hid (HQ.out A c l wr ho hl nl hfin hb)
      clear hr1 hr2 hr3 hv hfin hdall hp
      go_wp2_with (go_at_call 53; ((with_reducible refine HA.out.mono ?_); rintro e w2 ⟨a, b, rfl, hq⟩))
      exact hq

theorem Read_any (s : ByteArray) (h : OkText s.data.toList) (w : World) (hv : dval s.data.toList < 18446744073709551616 ^ 4096) :
    Calls Tryd.prog 44 #[.string s] w (Made2 (dval s.data.toList) w) := by
  refine readLoop s h w (by simpa using h.2.1) _ ?_
  intro A c l w1 ho hl nl hval hb
  refine (answered_any A c l w1 (length_le_of_lt (by omega) hl nl (by rw [hval]; exact hv))).mono ?_
  rintro e w' ⟨rfl, rfl⟩
  exact ⟨_, _, rfl, l, A, c, rfl, hl, nl, hval, ho, hb⟩

set_option maxHeartbeats 1000000 in
theorem Read_bad (s : ByteArray) (hm : s.size ≤ 9223372036854775807) (h : ¬ OkText s.data.toList) (w : World) :
    Calls Tryd.prog 44 #[.string s] w (Fails 2 w) := by
  have HO := Lib.hid h
  clear h
  go_enter Tryd.func44, Tryd.ntmps44
  go_wp2_with (go_at_call 69; ((with_reducible refine (isText_no s hm HO.out _).mono ?_); rintro e w' ⟨rfl, rfl⟩))
  go_ret2
  exact ⟨rfl, Below.refl _ _⟩
end Go.Proofs.YtigphbjgodfhpaaDoor
