/-
  Layer 3, the laws: sums of lists, by the program. (Written by a script of wip/tools.)
-/
import Derived.Test.YtknomchkfamajaaGreatDoorDyNE
import Derived.WalkMore
namespace Go.Proofs.YtknomchkfamajaaGreatDoor
open Go.RowKit Go.Sort Go.Bw
set_option linter.unusedVariables false
set_option linter.unusedSimpArgs false

section
variable {b : Bool} {A : Option Addr} {n c : Nat} {x : Int} {l : List Int} {w : World}
variable {b2 : Bool} {A2 : Option Addr} {n2 c2 : Nat} {x2 : Int} {l2 : List Int} {d d2 : Nf} {P Q P2 Q2 : Int}

/-- sums from the first on -/
def sumTo (f : Nat → Nf) : Nat → Nf
  | 0 => zeroN
  | k + 1 => sumN (sumTo f k) (f k)
theorem sumTo_ok (f : Nat → Nf) : ∀ k, (sumTo f k).Ok
  | 0 => zeroN_ok
  | k + 1 => sumN_ok _ _
theorem sumTo_in (f : Nat → Nf) (n : Nat) (hPQ : P ≤ Q) (ho : ∀ i, i < n → (f i).Ok) (hf : ∀ i, i < n → (f i).In P Q) : ∀ k, k ≤ n → (sumTo f k).In P (Q + k)
  | 0, _ => zeroN_in _ _
  | k + 1, h => by
    have h1 := sumTo_in f n hPQ ho hf k (by omega)
    have h2 := (hf k (by omega)).mono (Int.le_refl P) (show Q ≤ Q + (k : Int) by omega)
    have := sumN_in (sumTo_ok f k) (ho k (by omega)) h1 h2 (by omega)
    exact this.mono (Int.le_refl _) (by omega)
theorem sum_in (h : Lv w A l.length c l) (hd : Dn b l x d) (h2 : Lv w A2 l2.length c2 l2) (hd2 : Dn b2 l2 x2 d2) (hT : Tab w) (i1 : d.In P Q) (i2 : d2.In P Q) (hPQ : P ≤ Q) (hw : Q - P ≤ 262143) (hp : -262144 ≤ P) (hq : Q + 1 ≤ 262144) :
    Calls Tryz.prog 82 #[dyV b A l.length c x, dyV b2 A2 l2.length c2 x2] w (DyK (sumN d d2) 0 w) := by
  have o1 := (okE_iff _).1 (in_okE hd.2.2.2 i1 hp (by omega))
  have o2 := (okE_iff _).1 (in_okE hd2.2.2.2 i2 hp (by omega))
  rw [hd.exp] at o1
  rw [hd2.exp] at o2
  have := sum_dq (b := b) (b2 := b2) (x := x) (x2 := x2) h h2 hT (hd.dq h.lim) (hd2.dq h2.lim) (.inr ⟨P, Q, i1, i2, hPQ, hw⟩) (by omega) (by omega) (by omega) (by omega)
  rw [addR_near i1 i2 (by omega), doneR_near (sumN_ok _ _) (sumN_in hd.2.2.2 hd2.2.2.2 i1 i2 hPQ) hp hq] at this
  exact this
theorem mul_bound {u v : Int} (p1 : 0 ≤ u) (p2 : 0 ≤ v) (a1 : u < 2 ^ 131072) (a2 : v < 2 ^ 131072) : u * v < 18446744073709551616 ^ 4096 := by
  rw [pow64, show 64 * 4096 = 131072 + 131072 from rfl, Int.pow_add]
  have h0 : (0 : Int) < 2 ^ 131072 := Int.pow_pos (by omega)
  generalize (2 : Int) ^ 131072 = R at *
  calc u * v ≤ u * R := Int.mul_le_mul_of_nonneg_left (by omega) p1
    _ < R * R := Int.mul_lt_mul_of_pos_right a1 h0
theorem lv_short (h : Lv w A l.length c l) (hn : l.length ≤ 2048) : val 18446744073709551616 l < 2 ^ 131072 := by
  have := h.less (k := 2048) hn
  rw [pow64] at this
  exact this
theorem dMul_raw (h : Lv w A l.length c l) (h2 : Lv w A2 l2.length c2 l2) (hn : l.length ≤ 2048) (hn2 : l2.length ≤ 2048) (hT : Tab w) (ho : okE x = true) (ho2 : okE x2 = true) (hm : okE (mulN (nfl b (val 18446744073709551616 l) x) (nfl b2 (val 18446744073709551616 l2) x2)).exp = true) :
    Calls Tryz.prog 42 #[dyV b A l.length c x, dyV b2 A2 l2.length c2 x2] w (DyK (mulN (nfl b (val 18446744073709551616 l) x) (nfl b2 (val 18446744073709551616 l2) x2)) 0 w) := by
  have := dMul_any (b := b) (b2 := b2) (x := x) (x2 := x2) h (by omega) h2 (by omega) hT (fun _ => mul_bound (lim_val h.lim) (lim_val h2.lim) (lv_short h hn) (lv_short h2 hn2))
  have e : mulQ x x2 (nfl b (val 18446744073709551616 l) x) (nfl b2 (val 18446744073709551616 l2) x2) = (mulN (nfl b (val 18446744073709551616 l) x) (nfl b2 (val 18446744073709551616 l2) x2), 0) := by
    unfold mulQ may2 mulR
    rw [ho, ho2, if_pos (show (true && true) = true from rfl), doneR_yes hm]
  rw [e] at this
  exact this
/-- an element's number -/
def De.N (e : De) : Nf := nfl e.b (val 18446744073709551616 e.l) e.x
def at0 (es : List De) (i : Nat) : Nf := match es[i]? with | some e => e.N | none => zeroN
theorem at0_ok (es : List De) (i : Nat) : (at0 es i).Ok := by unfold at0; split; exact nfl_ok _ _ _; exact zeroN_ok
theorem at0_is {es : List De} {i : Nat} {e : De} (h : es[i]? = some e) : at0 es i = e.N := by unfold at0; rw [h]
set_option maxRecDepth 100000 in
set_option maxHeartbeats 8000000 in
theorem sumOne_any {g k : Nat} {es : List De} (h : Dl w A n c es) (hk : k < n) (hg : Blk w g [.slice A n c]) (hT : Tab w) (ho : ∀ e ∈ es, okE e.x = true) (hs : ∀ e ∈ es, e.l.length ≤ 4096) :
    Calls Tryz.prog 94 #[.int .i64 k, .pointer (some ⟨g, 0, none⟩)] w (DyK (at0 es k) 0 w) := by
  have hn2 := h.2.1
  obtain ⟨e, ad, ea, he, rfl, hE, hl, hc0, hc1, hc2, hv, x0, x1⟩ := h.at_ hk
  have hA := at0_is he
  have hO := ho e (List.mem_of_getElem? he)
  have hL := hs e (List.mem_of_getElem? he)
  rw [hA]
  clear hA he ho hs h
  obtain ⟨⟨b, A, c9, x, l⟩, he9⟩ : ∃ e9, e = e9 := ⟨_, rfl⟩
  subst he9
  unfold De.N
  dsimp only at *
  have GB_0 := Blk.cell hg 0 rfl
  have hgl := Blk.lt hg
  have DB := Blk.new w [.bool false, .slice none 0 0, .int .i64 0] 24
  have bw : Below w.heap.size w (w.alloc (.cells #[.bool false, .slice none 0 0, .int .i64 0] 24)) := by go_grown
  obtain ⟨DB_0, DB_1, DB_2, DB_f0, DB_f1, DB_f2⟩ := Dbx.cells DB
  have gb : ∀ p : Addr, p.block < w.heap.size → (w.alloc (.cells #[.bool false, .slice none 0 0, .int .i64 0] 24)).cell? p = w.cell? p := fun p hp => bw.cell hp
  have hc0' := (gb ea hl).trans hc0
  have hc1' := (gb ⟨ea.block, ea.off + 1, none⟩ hl).trans hc1
  have hc2' := (gb ⟨ea.block, ea.off + 2, none⟩ hl).trans hc2
  have GB_1 := (gb ⟨g, 0, none⟩ hgl).trans GB_0
  have hv9 := hv.on bw
  clear gb hc0 hc1 hc2 GB_0
  go_enter Tryz.func94, Tryz.ntmps94
  go_wp2_with fail
  with_reducible refine (dyTaken_yes (b := b) (x := x) hv9 hL (hT.onD (by go_grown)) hO).mono ?_
  rintro e w1 ⟨b2, q2, A2, c2, x2, rfl, hd2, m2, hb⟩
  clear DB_0 DB_1 DB_2 DB_f0 DB_f1 DB_f2
  have hs1 := hb.size
  try simp only [World.size_alloc, World.size_setCell] at hs1
  replace bw : Below w.heap.size w w1 := dy_end (by go_grown) hb
  replace DB := Blk.on DB hb
  clear hb
  obtain ⟨DB_0, DB_1, DB_2, DB_f0, DB_f1, DB_f2⟩ := Dbx.cells DB
  go_wp2_with fail
  refine bodyPost_ret (v := .tuple #[dyV b2 A2 q2.length c2 x2, .int .i64 0]) (by simp [results, Tryz.results94, go_sem, DB_0, DB_1, DB_2, DB_f0, DB_f1, DB_f2]) rfl ?_
  exact ⟨b2, q2, A2, c2, x2, rfl, hd2, m2.put DB _ _ _ _ _, by go_grown⟩


/-- the state of a sum of the first k -/
def SumR (w : World) (f : Nat → Nf) (n : Nat) (wr : World) (k : Nat) : Prop :=
  k ≤ n ∧ ∃ b A c x l, Dn b l x (sumTo f k) ∧ Lv wr A l.length c l ∧ Dbx wr w.heap.size b A l.length c x ∧ Below w.heap.size w wr
set_option maxRecDepth 100000 in
set_option maxHeartbeats 8000000 in
theorem summedS (g : Nat) (f : Nat → Nf) (n : Nat) (hn : n ≤ 9223372036854775807) (hT : Tab w) (HC : Hid (∀ W, Below w.heap.size w W → ∀ k, k < n → Calls Tryz.prog 94 #[.int .i64 k, .pointer (some ⟨g, 0, none⟩)] W (DyK (f k) 0 W)))
    (HI : Hid (∀ k, k ≤ n → (sumTo f k).In P Q)) (HF : Hid (∀ k, k < n → (f k).In P Q)) (hPQ : P ≤ Q) (hw : Q - P ≤ 262143) (hp : -262144 ≤ P) (hq : Q + 1 ≤ 262144) :
    Calls Tryz.prog 93 #[.int .i64 n, .func (.func 94) #[] #[.pointer (some ⟨g, 0, none⟩)]] w (DyK (sumTo f n) 0 w) := by
  have DB := Blk.new w [.bool false, .slice none 0 0, .int .i64 0] 24
  have bw : Below w.heap.size w (w.alloc (.cells #[.bool false, .slice none 0 0, .int .i64 0] 24)) := by go_grown
  obtain ⟨DB_0, DB_1, DB_2, DB_f0, DB_f1, DB_f2⟩ := Dbx.cells DB
  go_enter Tryz.func93, Tryz.ntmps93
  go_wp2_with fail
  go_step3
  go_wp2_with fail
  go_step3
  go_wp2_with fail
  go_loopw [5, 10] (fun er i wr => ∃ k : Nat, er = .int .i64 0 ∧ i = .int .i64 k ∧ SumR w f n wr k) (fun _ i _ => n - (intOf i).toNat)
  case atStart => exact ⟨0, rfl, rfl, Nat.zero_le _, false, none, 0, 0, [], Dn.zero, lv_nil _, DB, bw⟩
  case round =>
    clear DB_0 DB_1 DB_2 DB_f0 DB_f1 DB_f2
    clear DB bw
    obtain ⟨k, rfl, rfl, hk, b1, A1, c1, x1, q1, hd1, m1, DB, bw⟩ := hrel
    have hsz := bw.size
    have hdl := Blk.lt DB
    obtain ⟨DB_0, DB_1, DB_2, DB_f0, DB_f1, DB_f2⟩ := Dbx.cells DB
    by_cases hlt : k < n
    · have pc := HC.out wr bw k hlt
      have i1 := HI.out k (by omega)
      have i2 := HF.out k hlt
      go_wp2_with fail
      with_reducible refine (pc).mono ?_
      rintro e w1 ⟨b2, q2, A2, c2, x2, rfl, hd2, m2, hb⟩
      clear DB_0 DB_1 DB_2 DB_f0 DB_f1 DB_f2
      have hs1 := hb.size
      try simp only [World.size_alloc, World.size_setCell] at hs1
      replace bw : Below w.heap.size w w1 := dy_end (by go_grown) hb
      replace m1 := Lv.on m1 hb
      replace DB := Blk.on DB hb
      clear hb
      obtain ⟨DB_0, DB_1, DB_2, DB_f0, DB_f1, DB_f2⟩ := Dbx.cells DB
      replace m1 := Lv.alloc m1 (.cells #[.bool b2, .slice A2 q2.length c2, .int .i64 x2] 24)
      replace m2 := Lv.alloc m2 (.cells #[.bool b2, .slice A2 q2.length c2, .int .i64 x2] 24)
      replace DB := Blk.alloc DB (.cells #[.bool b2, .slice A2 q2.length c2, .int .i64 x2] 24)
      have HB := Blk.new w1 [.bool b2, .slice A2 q2.length c2, .int .i64 x2] 24
      obtain ⟨DB_v0_0, DB_v0_1, DB_v0_2, DB_v0_f0, DB_v0_f1, DB_v0_f2⟩ := Dbx.cells DB
      obtain ⟨HB_0, HB_1, HB_2, HB_f0, HB_f1, HB_f2⟩ := Dbx.cells HB
      go_wp2_with fail
      with_reducible refine (sum_in m1 hd1 m2 hd2 (hT.onD (by go_grown)) i1 i2 (by omega) (by omega) (by omega) (by omega)).mono ?_
      rintro e w2 ⟨b3, q3, A3, c3, x3, rfl, hd3, m3, hb⟩
      clear DB_0 DB_1 DB_2 DB_f0 DB_f1 DB_f2 DB_v0_0 DB_v0_1 DB_v0_2 DB_v0_f0 DB_v0_f1 DB_v0_f2
      clear HB_0 HB_1 HB_2 HB_f0 HB_f1 HB_f2
      have hs2 := hb.size
      try simp only [World.size_alloc, World.size_setCell] at hs2
      replace bw : Below w.heap.size w w2 := dy_end (by go_grown) hb
      replace m1 := Lv.on m1 hb
      replace m2 := Lv.on m2 hb
      replace DB := Blk.on DB hb
      replace HB := Blk.on HB hb
      clear hb
      obtain ⟨DB_0, DB_1, DB_2, DB_f0, DB_f1, DB_f2⟩ := Dbx.cells DB
      obtain ⟨HB_0, HB_1, HB_2, HB_f0, HB_f1, HB_f2⟩ := Dbx.cells HB
      replace m1 := Lv.put m1 DB (b3) (A3) (q3.length) (c3) (x3)
      replace m2 := Lv.put m2 DB (b3) (A3) (q3.length) (c3) (x3)
      replace m3 := Lv.put m3 DB (b3) (A3) (q3.length) (c3) (x3)
      replace HB := Blk.putO HB (g := w.heap.size) (by omega) (.bool (b3)) (.slice (A3) (q3.length) (c3)) (.int .i64 (x3))
      replace DB := Dbx.put DB (b3) (A3) (q3.length) (c3) (x3)
      go_wp2_with fail
      go_roundw
      case rel => exact ⟨k + 1, rfl, by go_num, by omega, b3, A3, c3, x3, q3, hd3, m3, DB, by go_grown⟩
      case measure => simp [intOf]; omega
    · obtain rfl : k = n := by omega
      go_wp2_with fail
      refine bodyPost_ret (v := .tuple #[dyV b1 A1 q1.length c1 x1, .int .i64 0]) (by simp [results, Tryz.results93, go_sem, DB_0, DB_1, DB_2, DB_f0, DB_f1, DB_f2]) rfl ?_
      exact ⟨b1, q1, A1, c1, x1, rfl, hd1, m1.put DB _ _ _ _ _, by go_grown⟩

set_option maxRecDepth 100000 in
set_option maxHeartbeats 8000000 in
theorem summedD (g g2 : Nat) (f : Nat → Nf) (n : Nat) (hn : n ≤ 9223372036854775807) (hT : Tab w) (HC : Hid (∀ W, Below w.heap.size w W → ∀ k, k < n → Calls Tryz.prog 96 #[.int .i64 k, .pointer (some ⟨g, 0, none⟩), .pointer (some ⟨g2, 0, none⟩)] W (DyK (f k) 0 W)))
    (HI : Hid (∀ k, k ≤ n → (sumTo f k).In P Q)) (HF : Hid (∀ k, k < n → (f k).In P Q)) (hPQ : P ≤ Q) (hw : Q - P ≤ 262143) (hp : -262144 ≤ P) (hq : Q + 1 ≤ 262144) :
    Calls Tryz.prog 93 #[.int .i64 n, .func (.func 96) #[] #[.pointer (some ⟨g, 0, none⟩), .pointer (some ⟨g2, 0, none⟩)]] w (DyK (sumTo f n) 0 w) := by
  have DB := Blk.new w [.bool false, .slice none 0 0, .int .i64 0] 24
  have bw : Below w.heap.size w (w.alloc (.cells #[.bool false, .slice none 0 0, .int .i64 0] 24)) := by go_grown
  obtain ⟨DB_0, DB_1, DB_2, DB_f0, DB_f1, DB_f2⟩ := Dbx.cells DB
  go_enter Tryz.func93, Tryz.ntmps93
  go_wp2_with fail
  go_step3
  go_wp2_with fail
  go_step3
  go_wp2_with fail
  go_loopw [5, 10] (fun er i wr => ∃ k : Nat, er = .int .i64 0 ∧ i = .int .i64 k ∧ SumR w f n wr k) (fun _ i _ => n - (intOf i).toNat)
  case atStart => exact ⟨0, rfl, rfl, Nat.zero_le _, false, none, 0, 0, [], Dn.zero, lv_nil _, DB, bw⟩
  case round =>
    clear DB_0 DB_1 DB_2 DB_f0 DB_f1 DB_f2
    clear DB bw
    obtain ⟨k, rfl, rfl, hk, b1, A1, c1, x1, q1, hd1, m1, DB, bw⟩ := hrel
    have hsz := bw.size
    have hdl := Blk.lt DB
    obtain ⟨DB_0, DB_1, DB_2, DB_f0, DB_f1, DB_f2⟩ := Dbx.cells DB
    by_cases hlt : k < n
    · have pc := HC.out wr bw k hlt
      have i1 := HI.out k (by omega)
      have i2 := HF.out k hlt
      go_wp2_with fail
      with_reducible refine (pc).mono ?_
      rintro e w1 ⟨b2, q2, A2, c2, x2, rfl, hd2, m2, hb⟩
      clear DB_0 DB_1 DB_2 DB_f0 DB_f1 DB_f2
      have hs1 := hb.size
      try simp only [World.size_alloc, World.size_setCell] at hs1
      replace bw : Below w.heap.size w w1 := dy_end (by go_grown) hb
      replace m1 := Lv.on m1 hb
      replace DB := Blk.on DB hb
      clear hb
      obtain ⟨DB_0, DB_1, DB_2, DB_f0, DB_f1, DB_f2⟩ := Dbx.cells DB
      replace m1 := Lv.alloc m1 (.cells #[.bool b2, .slice A2 q2.length c2, .int .i64 x2] 24)
      replace m2 := Lv.alloc m2 (.cells #[.bool b2, .slice A2 q2.length c2, .int .i64 x2] 24)
      replace DB := Blk.alloc DB (.cells #[.bool b2, .slice A2 q2.length c2, .int .i64 x2] 24)
      have HB := Blk.new w1 [.bool b2, .slice A2 q2.length c2, .int .i64 x2] 24
      obtain ⟨DB_v0_0, DB_v0_1, DB_v0_2, DB_v0_f0, DB_v0_f1, DB_v0_f2⟩ := Dbx.cells DB
      obtain ⟨HB_0, HB_1, HB_2, HB_f0, HB_f1, HB_f2⟩ := Dbx.cells HB
      go_wp2_with fail
      with_reducible refine (sum_in m1 hd1 m2 hd2 (hT.onD (by go_grown)) i1 i2 (by omega) (by omega) (by omega) (by omega)).mono ?_
      rintro e w2 ⟨b3, q3, A3, c3, x3, rfl, hd3, m3, hb⟩
      clear DB_0 DB_1 DB_2 DB_f0 DB_f1 DB_f2 DB_v0_0 DB_v0_1 DB_v0_2 DB_v0_f0 DB_v0_f1 DB_v0_f2
      clear HB_0 HB_1 HB_2 HB_f0 HB_f1 HB_f2
      have hs2 := hb.size
      try simp only [World.size_alloc, World.size_setCell] at hs2
      replace bw : Below w.heap.size w w2 := dy_end (by go_grown) hb
      replace m1 := Lv.on m1 hb
      replace m2 := Lv.on m2 hb
      replace DB := Blk.on DB hb
      replace HB := Blk.on HB hb
      clear hb
      obtain ⟨DB_0, DB_1, DB_2, DB_f0, DB_f1, DB_f2⟩ := Dbx.cells DB
      obtain ⟨HB_0, HB_1, HB_2, HB_f0, HB_f1, HB_f2⟩ := Dbx.cells HB
      replace m1 := Lv.put m1 DB (b3) (A3) (q3.length) (c3) (x3)
      replace m2 := Lv.put m2 DB (b3) (A3) (q3.length) (c3) (x3)
      replace m3 := Lv.put m3 DB (b3) (A3) (q3.length) (c3) (x3)
      replace HB := Blk.putO HB (g := w.heap.size) (by omega) (.bool (b3)) (.slice (A3) (q3.length) (c3)) (.int .i64 (x3))
      replace DB := Dbx.put DB (b3) (A3) (q3.length) (c3) (x3)
      go_wp2_with fail
      go_roundw
      case rel => exact ⟨k + 1, rfl, by go_num, by omega, b3, A3, c3, x3, q3, hd3, m3, DB, by go_grown⟩
      case measure => simp [intOf]; omega
    · obtain rfl : k = n := by omega
      go_wp2_with fail
      refine bodyPost_ret (v := .tuple #[dyV b1 A1 q1.length c1 x1, .int .i64 0]) (by simp [results, Tryz.results93, go_sem, DB_0, DB_1, DB_2, DB_f0, DB_f1, DB_f2]) rfl ?_
      exact ⟨b1, q1, A1, c1, x1, rfl, hd1, m1.put DB _ _ _ _ _, by go_grown⟩

end
end Go.Proofs.YtknomchkfamajaaGreatDoor
