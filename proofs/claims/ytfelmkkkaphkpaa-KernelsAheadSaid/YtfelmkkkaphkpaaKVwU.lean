/-
  Layer 7, walks: do two views share a place? (Written by wip/tools/gen_vwu.py.)
-/
import Derived.Test.YtfelmkkkaphkpaaKVwT
import Derived.LaidEql
namespace Go.Proofs.Ytfelmkkkaphkpaa
open Go.RowKit Go.Bw Go.Sort Go.Shelf
set_option linter.unusedVariables false
set_option linter.unusedSimpArgs false
attribute [local go_sem] Oper.semAt_some run_store_float

/-! ### two pointers of stores -/
theorem infoStore : (Try.prog.info? 123).map (fun i => i.size) = some 2 := by kernel_rfl
/-- a pointer of a store that is there -/
def PS (W : World) (p : Option Addr) : Prop := ∀ a, p = some a → ∃ s vs, a = ⟨s, 0, none⟩ ∧ Blk W s vs
theorem PS.on {W W' : World} {p : Option Addr} (h : PS W p) (hb : Below W.heap.size W W') : PS W' p := fun a e => by
  obtain ⟨s, vs, e1, h1⟩ := h a e
  exact ⟨s, vs, e1, h1.on hb⟩
theorem run_eqIn_ptr {P : Program} {t e : TypeId} (d : Nat) {W : World} {p q : Option Addr} (hp : PS W p) (hq : PS W q) {i : TypeInfo} (hu : P.underlying t = some (.pointer e)) (hi : P.info? e = some i) (hsz : i.size = 2) :
    (Op.equalIn (d + 1) t (.pointer p) (.pointer q)).run P W = .ok (p == q) W := by
  rcases p with _ | a
  · rcases q with _ | b
    · simp [Op.equalIn, run_underlying hu]
    · simp [Op.equalIn, run_underlying hu]
  · rcases q with _ | b
    · simp [Op.equalIn, run_underlying hu]
    · by_cases hab : a = b
      · subst hab
        simp [Op.equalIn, run_underlying hu, sizeOf, typeInfo, hi, hsz, run_sameAddr_same]
      · obtain ⟨s, vs, ea, T, ha⟩ := hp a rfl
        obtain ⟨s', vs', eb, T', hb⟩ := hq b rfl
        have hne : (some a == some b) = false := by simp [hab]
        rw [hne]
        simp [Op.equalIn, run_underlying hu, sizeOf, typeInfo, hi, hsz, run_sameAddr_other W hab (by rw [ea]; exact ha) (by rw [eb]; exact hb)]
theorem run_neq_ptr {W : World} {p q : Option Addr} (hp : PS W p) (hq : PS W q) : (binOp .neq 27 (.pointer p) (.pointer q)).run Try.prog W = .ok (.bool (p != q)) W := by
  have hu : Try.prog.underlying 27 = some (.pointer 123) := Try.underlying27
  obtain ⟨i, hi, hsz⟩ : ∃ i, Try.prog.info? 123 = some i ∧ i.size = 2 := by
    have := infoStore
    cases h : Try.prog.info? 123 with
    | none => rw [h] at this; cases this
    | some i => rw [h] at this; exact ⟨i, rfl, by simpa using this⟩
  have hr := run_eqIn_ptr (P := Try.prog) 9999 hp hq hu hi hsz
  simp only [binOp]
  simp [Op.equal, Op.maxDepth, hr]
  cases hpq : (p == q) <;> simp [bne, hpq]
/-- where the place k lies in the store -/
def Vu.pl (v : Vu) (k : Nat) : Int × Int := (v.p0 (v.ei k) (v.ej k), v.p1 (v.ei k) (v.ej k))
/-- how often a place has come -/
def Vu.cnt (v : Vu) (k : Nat) (x y : Int) : Int := (((List.range k).filter (fun j => decide (v.pl j = (x, y)))).length : Int)
theorem cnt_zero (v : Vu) : v.cnt 0 = fun _ _ => 0 := by funext x y; rfl
theorem cnt_succ (v : Vu) (k : Nat) : v.cnt (k + 1) = incr (v.cnt k) (v.pl k).1 (v.pl k).2 := by
  funext x y
  unfold Vu.cnt incr
  rw [List.range_succ, List.filter_append, List.length_append]
  by_cases h : x = (v.pl k).1 ∧ y = (v.pl k).2
  · obtain ⟨rfl, rfl⟩ := h
    simp
  · rw [if_neg h]
    have : ¬ (v.pl k = (x, y)) := fun e => h (by rw [e]; exact ⟨rfl, rfl⟩)
    simp [this]
theorem cnt_pos (v : Vu) (k : Nat) (x y : Int) : 0 < v.cnt k x y ↔ ∃ j, j < k ∧ v.pl j = (x, y) := by
  unfold Vu.cnt
  constructor
  · intro h
    obtain ⟨a, ha⟩ := List.exists_mem_of_length_pos (by exact_mod_cast h)
    rw [List.mem_filter, List.mem_range, decide_eq_true_iff] at ha
    exact ⟨a, ha⟩
  · rintro ⟨j, hj, e⟩
    have : j ∈ (List.range k).filter (fun j => decide (v.pl j = (x, y))) := by
      rw [List.mem_filter, List.mem_range, decide_eq_true_iff]; exact ⟨hj, e⟩
    exact_mod_cast List.length_pos_of_mem this
/-- do both show a place of one store? -/
def shB (v u : Vu) : Bool := (v.p == u.p) && decide (∃ m, m < (u.R * u.C).toNat ∧ ∃ k, k < (v.R * v.C).toNat ∧ v.pl k = u.pl m)
theorem pl_rg {v : Vu} {K : Int} (hb : Bd v K) {k : Nat} (hk : k < (v.R * v.C).toNat) : rg (v.pl k).1 ∧ rg (v.pl k).2 := by
  obtain ⟨⟨i0, i1⟩, j0, j1⟩ := has_bd hb (ei_bd hb hk)
  obtain ⟨⟨a, b⟩, c, d⟩ := hb.p i0 i1 j0 j1
  have := hb.K
  unfold rg Vu.pl
  omega

theorem shared_iff {v u : Vu} (N : Nat) (hR : 0 ≤ u.R) (hC : 0 ≤ u.C) : (∃ m, m < (u.R * u.C).toNat ∧ ∃ k, k < N ∧ v.pl k = u.pl m) ↔ ∃ a b : Nat, a < u.R.toNat ∧ b < u.C.toNat ∧ 0 < v.cnt N (u.p0 a b) (u.p1 a b) := by
  rw [Int.toNat_mul hR hC]
  constructor
  · rintro ⟨m, hm, k, hk, e⟩
    have hc : 0 < u.C.toNat := by
      rcases Nat.eq_zero_or_pos u.C.toNat with h | h
      · rw [h] at hm; omega
      · exact h
    refine ⟨m / u.C.toNat, m % u.C.toNat, (Nat.div_lt_iff_lt_mul hc).2 hm, Nat.mod_lt _ hc, (cnt_pos _ _ _ _).2 ⟨k, hk, ?_⟩⟩
    rw [e]; rfl
  · rintro ⟨a, b, ha, hb, hp⟩
    obtain ⟨k, hk, e⟩ := (cnt_pos _ _ _ _).1 hp
    have hlt : a * u.C.toNat + b < u.R.toNat * u.C.toNat := by
      have := Nat.mul_le_mul_right u.C.toNat (Nat.succ_le_of_lt ha)
      rw [Nat.succ_mul] at this
      omega
    refine ⟨a * u.C.toNat + b, hlt, k, hk, ?_⟩
    have h1 : u.ei (a * u.C.toNat + b) = (a : Int) := by
      unfold Vu.ei
      rw [Nat.mul_comm, Nat.mul_add_div (by omega), Nat.div_eq_of_lt hb, Nat.add_zero]
    have h2 : u.ej (a * u.C.toNat + b) = (b : Int) := by
      unfold Vu.ej
      rw [Nat.mul_comm, Nat.mul_add_mod, Nat.mod_eq_of_lt hb]
    rw [e]
    unfold Vu.pl
    rw [h1, h2]
/-- the world of the search -/
def ShM (w : World) (u : Vu) (M N D : Nat) (f : Int → Int → Int) (W : World) : Prop :=
  Vbx W (w.heap.size + 1) u ∧ Blk W (M + 1) [.map (some M)] ∧ Mq W M N f ∧ Below w.heap.size w W ∧ W.heap[D]? = some (.deferred (some []))
theorem ShM.on {w : World} {u : Vu} {M N D : Nat} {f : Int → Int → Int} {W W' : World} (h : ShM w u M N D f W) (hb : Below W.heap.size W W') : ShM w u M N D f W' := by
  obtain ⟨h1, h2, h3, h4, h5⟩ := h
  exact ⟨h1.on hb, h2.on hb, h3.on hb, h4.trans (hb.mono h4.size), (hb.block _ (lt_of_block h5)).trans h5⟩
theorem cnt_bd {v : Vu} {K : Int} (hb : Bd v K) (x y : Int) : 0 ≤ v.cnt (v.R * v.C).toNat x y ∧ v.cnt (v.R * v.C).toNat x y ≤ 262144 := by
  have hp := prod_bd hb.R.1 hb.R.2 hb.C.1 hb.C.2
  have h9 : ((List.range (v.R * v.C).toNat).filter (fun j => decide (v.pl j = (x, y)))).length ≤ (v.R * v.C).toNat := Nat.le_trans (List.length_filter_le _ _) (by simp)
  unfold Vu.cnt
  omega

section
variable {w : World} {v u : Vu} {K K2 : Int} {B s g cap c n : Nat} {l : List Int}
set_option maxHeartbeats 1000000 in
theorem Shares_no (hp : (v.p != u.p) = true) (w : World) (hpv : PS w v.p) (hpu : PS w u.p) : Calls Try.prog 75 #[v.V, u.V] w (Ans w (.bool false)) := by
  have bw := ((Below.refl _ w).alloc (Nat.le_refl _) (.cells v.L.toArray 30)).alloc (by simp) (.cells u.L.toArray 30)
  have hq := run_neq_ptr (hpv.on bw) (hpu.on bw)
  rw [hp] at hq
  obtain ⟨p, f0, f1, d0, d1, r0, r1, R, C⟩ := v
  obtain ⟨p', f0', f1', d0', d1', r0', r1', R', C'⟩ := u
  clear hp hpv hpu
  go_enter Try.func75, Try.ntmps75
  go_wp2_with fail
  apply wp_scope_straight
  go_wp2_with fail
  try rw [Exit.noGoto_ret]
  go_ret
  exact ⟨rfl, by go_grown⟩

/-- between two rounds -/
def ShI (w : World) (v u : Vu) (B s g cap c n : Nat) (l : List Int) (M Bn : Nat) (k : Nat) (lx : List Int) (W : World) : Prop :=
  lx = l ∧ Rd v B s g cap c n Bn l W ∧ Vbx W w.heap.size v ∧ Vbx W (w.heap.size + 1) u ∧ Blk W (M + 1) [.map (some M)] ∧ Mq W M k (v.cnt k) ∧ Below w.heap.size w W
theorem ShI.ownV {M BB Bn k : Nat} {lx : List Int} (hB : w.heap.size ≤ BB) (hM : M < BB) : OwnV BB (ShI w v u B s g cap c n l M Bn k lx) := by
  rintro W W' row ⟨e, h1, h2, h3, h4, h5, h6⟩ hg hr
  exact ⟨e, ⟨h1.1.ownV hg hr, fun hp => ⟨(h1.2 hp).1.ownV hg hr, (h1.2 hp).2⟩⟩, h2.ownV hg hr, h3.ownV hg hr, h4.ownV hg hr, h5.kept hg (fun e => by have := (hr M e.symm).1; omega), below_ownV h6 hg hr hB⟩
theorem ShI.on {M Bn k : Nat} {lx : List Int} {W W' : World} (h : ShI w v u B s g cap c n l M Bn k lx W) (hb : Below W.heap.size W W') : ShI w v u B s g cap c n l M Bn k lx W' := by
  obtain ⟨e, h1, h2, h3, h4, h5, h6⟩ := h
  exact ⟨e, h1.on hb, h2.on hb, h3.on hb, h4.on hb, h5.on hb, h6.trans (hb.mono h6.size)⟩
/-- within one -/
def ShX (w : World) (v u : Vu) (B s g cap c n : Nat) (l : List Int) (M Bn : Nat) (k : Nat) (lx : List Int) (a' : Act) (W : World) : Prop :=
  ShI w v u B s g cap c n l M Bn k lx W ∧ ∃ (bx : Nat) (X0 X1 X4 X7 X8 X9 X10 X11 X12 X13 X14 X15 X16 X17 X18 X19 X20 X21 X22 X23 X24 X25 X26 X27 X28 X29 X30 X31 X32 X33 X34 X35 X36 X37 X38 X39 X40 X41 X42 X43 X44 X45 X46 X47 X48 X49 X50 X51 : Value), Blk W bx [.int .i64 (v.ei k), .int .i64 (v.ej k)] ∧ M < bx ∧ a' = { tmps := #[X0, X1, .pointer (some ⟨w.heap.size, 0, none⟩), .pointer (some ⟨w.heap.size + 1, 0, none⟩), X4, .pointer (some ⟨M + 1, 0, none⟩), .pointer (some ⟨bx, 0, none⟩), X7, X8, X9, X10, X11, X12, X13, X14, X15, X16, X17, X18, X19, X20, X21, X22, X23, X24, X25, X26, X27, X28, X29, X30, X31, X32, X33, X34, X35, X36, X37, X38, X39, X40, X41, X42, X43, X44, X45, X46, X47, X48, X49, X50, X51], defers := [] }
theorem ShX.ownV {M BB Bn k : Nat} {lx : List Int} {a' : Act} (hB : w.heap.size ≤ BB) (hM : M < BB) : OwnV BB (ShX w v u B s g cap c n l M Bn k lx a') := by
  rintro W W' row ⟨hI, bx, X0, X1, X4, X7, X8, X9, X10, X11, X12, X13, X14, X15, X16, X17, X18, X19, X20, X21, X22, X23, X24, X25, X26, X27, X28, X29, X30, X31, X32, X33, X34, X35, X36, X37, X38, X39, X40, X41, X42, X43, X44, X45, X46, X47, X48, X49, X50, X51, hb, hn, e⟩ hg hr
  exact ⟨ShI.ownV hB hM W W' row hI hg hr, bx, X0, X1, X4, X7, X8, X9, X10, X11, X12, X13, X14, X15, X16, X17, X18, X19, X20, X21, X22, X23, X24, X25, X26, X27, X28, X29, X30, X31, X32, X33, X34, X35, X36, X37, X38, X39, X40, X41, X42, X43, X44, X45, X46, X47, X48, X49, X50, X51, hb.ownV hg hr, hn, e⟩

set_option maxRecDepth 100000 in
set_option maxHeartbeats 4000000 in
theorem Shares_yes (hv : Vk v s c n K) (hs : v.p ≠ none → St w B s g cap c l ∧ l.length = n) (hu : Bd u K2) (hp : (v.p != u.p) = false) (hpv : PS w v.p) (hpu : PS w u.p) : Calls Try.prog 75 #[v.V, u.V] w (Ans w (.bool (decide (∃ m, m < (u.R * u.C).toNat ∧ ∃ k, k < (v.R * v.C).toNat ∧ v.pl k = u.pl m)))) := by
  have pall := All_any v
  have DV := (Blk.new w v.L 30).alloc (.cells u.L.toArray 30)
  have DU := Blk.new (w.alloc (.cells v.L.toArray 30)) u.L 30
  rw [World.size_alloc] at DU
  have bw := ((Below.refl _ w).alloc (Nat.le_refl _) (.cells v.L.toArray 30)).alloc (by simp) (.cells u.L.toArray 30)
  have hsz : ((w.alloc (.cells v.L.toArray 30)).alloc (.cells u.L.toArray 30)).heap.size = w.heap.size + 2 := by simp
  have hmm := @run_makeMap Try.prog
  have hsw : Hid (v.p ≠ none → s < w.heap.size ∧ g < w.heap.size) := Lib.hid (fun hp => ⟨(hs hp).1.lt, (hs hp).1.gt.2⟩)
  replace hs : v.p ≠ none → St _ B s g cap c l ∧ l.length = n := fun hp => ⟨(hs hp).1.on bw, (hs hp).2⟩
  have hq := run_neq_ptr (hpv.on bw) (hpu.on bw)
  rw [hp] at hq
  clear hp hpv hpu
  obtain ⟨V, hV⟩ : ∃ V, v = V := ⟨_, rfl⟩
  obtain ⟨U, hU⟩ : ∃ U, u = U := ⟨_, rfl⟩
  have HhV := Lib.hid hV
  have HhU := Lib.hid hU
  rw [hV] at hv hsw
  rw [hU] at hu
  obtain ⟨RES, hRES⟩ : ∃ R, decide (∃ m, m < (u.R * u.C).toNat ∧ ∃ k, k < (v.R * v.C).toNat ∧ v.pl k = u.pl m) = R := ⟨_, rfl⟩
  rw [hRES]
  rw [hV, hU] at hRES
  have HRES := Lib.hid hRES
  clear hRES
  have HV := Lib.hid hv
  have HUB := Lib.hid hu
  clear hV hU hv hu
  refine (callsIn_wide (n := 5)).1 ?_
  refine callsIn_of_wp_marks Try.func75 rfl trivial ?_ rfl
  simp only [Try.ntmps75, List.size_toArray, List.length_cons, List.length_nil, Nat.reduceAdd, Nat.reduceSub, Array.replicate_succ, Array.replicate_zero, List.push_toArray, List.append_toArray, List.nil_append, List.cons_append]
  obtain ⟨p, f0, f1, d0, d1, r0, r1, R, C⟩ := v
  obtain ⟨p', f0', f1', d0', d1', r0', r1', R', C'⟩ := u
  gi_wp2
  refine wpIn_wide.2 ?_
  apply wp_scope_straight
  go_wp2_with fail
  with_reducible refine (pall _).mono ?_
  rintro e w4 ⟨rfl, rfl⟩
  go_wp2_with fail
  refine (wpIn_wide (n := 5)).1 ?_
  replace hs := fun (hp : V.p ≠ none) => hs (fun e => hp (by rw [← HhV.out]; exact e))
  simp only [HhV.out, HhU.out] at DV DU bw hsz hs ⊢
  obtain ⟨M, hM⟩ : ∃ M, w.heap.size + 2 = M := ⟨_, rfl⟩
  have b1 := (Below.refl _ ((w.alloc (.cells V.L.toArray 30)).alloc (.cells U.L.toArray 30))).alloc (Nat.le_refl _) (.map #[] 0)
  have q1 := Mq.made ((w.alloc (.cells V.L.toArray 30)).alloc (.cells U.L.toArray 30))
  rw [hsz, hM] at q1
  have s1 : (((w.alloc (.cells V.L.toArray 30)).alloc (.cells U.L.toArray 30)).alloc (.map #[] 0)).heap.size = M + 1 := by rw [World.size_alloc, hsz, hM]
  replace DV := DV.on b1
  replace DU := DU.on b1
  replace hs : V.p ≠ none → St _ B s g cap c l ∧ l.length = n := fun hp => ⟨(hs hp).1.on b1, (hs hp).2⟩
  replace bw := bw.trans (b1.mono (by omega))
  generalize ((w.alloc (.cells V.L.toArray 30)).alloc (.cells U.L.toArray 30)).alloc (.map #[] 0) = W1 at DV DU bw q1 s1 hs ⊢
  clear b1 hsz
  rw [hM]
  have b2 := (Below.refl _ W1).alloc (Nat.le_refl _) (.cells #[.map (some M)] 116)
  have DM := Blk.new W1 [.map (some M)] 116
  rw [s1] at DM
  have s2 : (W1.alloc (.cells #[.map (some M)] 116)).heap.size = M + 2 := by rw [World.size_alloc, s1]
  replace DV := DV.on b2
  replace DU := DU.on b2
  replace hs : V.p ≠ none → St _ B s g cap c l ∧ l.length = n := fun hp => ⟨(hs hp).1.on b2, (hs hp).2⟩
  replace q1 := q1.on b2
  replace bw := bw.trans (b2.mono (by omega))
  generalize W1.alloc (.cells #[.map (some M)] 116) = W2 at DV DU bw q1 DM s2 hs ⊢
  clear b2
  have b3 := (Below.refl _ W2).alloc (Nat.le_refl _) (.cells V.L.toArray 30)
  have DB := Blk.new W2 V.L 30
  rw [s2] at DB
  have s3 : (W2.alloc (.cells V.L.toArray 30)).heap.size = M + 3 := by rw [World.size_alloc, s2]
  replace DV := DV.on b3
  replace DU := DU.on b3
  replace hs : V.p ≠ none → St _ B s g cap c l ∧ l.length = n := fun hp => ⟨(hs hp).1.on b3, (hs hp).2⟩
  replace q1 := q1.on b3
  replace DM := DM.on b3
  replace bw := bw.trans (b3.mono (by omega))
  rw [show M + 1 + 1 = M + 2 from rfl]
  generalize W2.alloc (.cells V.L.toArray 30) = W0 at DV DU bw q1 DM DB s3 hs ⊢
  clear b3 s1 s2 pall
  have hBB : w.heap.size ≤ W0.heap.size := by omega
  have hMM : M < W0.heap.size := by omega
  have h0 : ShI w V U B s g cap c n l M (M + 2) 0 l W0 := ⟨rfl, ⟨DB, hs⟩, DV, DU, DM, by rw [cnt_zero]; exact q1, bw⟩
  clear DB DV DU DM q1 bw hs
  refine rangeFunc_V (by omega) (gf := 109) (lb := #[.pointer (some ⟨M + 2, 0, none⟩)]) rfl (enters_of Try.func109 (by kernel_rfl) rfl)
    (all_seq (v := V) (B := B) (s := s) (g := g) (cap := cap) (c := c) (N0 := n) (Bn := M + 2) (by omega) HV.out) (fun _ _ => rfl)
    (ShI w V U B s g cap c n l M (M + 2)) (fun _ => False) (fun k lx W h => by rw [h.1]; exact h.2.1) (fun _ _ => ShI.ownV hBB hMM) (fun _ _ _ h _ _ => h) h0
    (ShX w V U B s g cap c n l M (M + 2)) (fun _ _ _ => ShX.ownV hBB hMM) ?assign ?body ?done ?stop
  case assign =>
    intro lp k lx W K hI hK
    unfold enc
    gi_wp2
    have hI2 := hI.on ((Below.refl _ W).alloc (Nat.le_refl _) (.cells #[.int .i64 (V.ei k), .int .i64 (V.ej k)] 28))
    have hml := hI.2.2.2.2.1.lt
    exact hK _ _ (keepsFrom_below ((Below.refl _ W).alloc (Nat.le_refl _) _)) ⟨hI2, W.heap.size, _, _, _, _, _, _, _, _, _, _, _, _, _, _, _, _, _, _, _, _, _, _, _, _, _, _, _, _, _, _, _, _, _, _, _, _, _, _, _, _, _, _, _, _, _, _, _, _, Blk.new W [.int .i64 _, .int .i64 _] _, by omega, rfl⟩
  case body =>
    rintro lp k lx a' W hlp ⟨⟨rfl, h1, h2, h3, h4, h5, h6⟩, bx, X0, X1, X4, X7, X8, X9, X10, X11, X12, X13, X14, X15, X16, X17, X18, X19, X20, X21, X22, X23, X24, X25, X26, X27, X28, X29, X30, X31, X32, X33, X34, X35, X36, X37, X38, X39, X40, X41, X42, X43, X44, X45, X46, X47, X48, X49, X50, X51, hbx, hbn, rfl⟩ hk
    obtain ⟨⟨i0, i1⟩, j0, j1⟩ := has_bd HV.out.bd (ei_bd HV.out.bd hk)
    have pp := place_any HV.out.bd i0 i1 j0 j1
    obtain ⟨hrx, hry⟩ := pl_rg HV.out.bd hk
    have hcs := cnt_succ V k
    have hpl : V.pl k = (V.p0 (V.ei k) (V.ej k), V.p1 (V.ei k) (V.ej k)) := rfl
    rw [hpl] at hrx hry hcs
    obtain ⟨P0, hP0⟩ : ∃ P, V.p0 (V.ei k) (V.ej k) = P := ⟨_, rfl⟩
    obtain ⟨P1, hP1⟩ : ∃ P, V.p1 (V.ei k) (V.ej k) = P := ⟨_, rfl⟩
    rw [hP0, hP1] at pp hcs
    rw [hP0] at hrx
    rw [hP1] at hry
    simp only at hrx hry hcs
    obtain ⟨I, hI⟩ : ∃ I, V.ei k = I := ⟨_, rfl⟩
    obtain ⟨J, hJ⟩ : ∃ J, V.ej k = J := ⟨_, rfl⟩
    rw [hI, hJ] at pp hbx
    have hcb : 0 ≤ V.cnt k P0 P1 ∧ V.cnt k P0 P1 ≤ 262144 := by
      have hp := prod_bd HV.out.bd.R.1 HV.out.bd.R.2 HV.out.bd.C.1 HV.out.bd.C.2
      have h9 : ((List.range k).filter (fun j => decide (V.pl j = (P0, P1)))).length ≤ k := Nat.le_trans (List.length_filter_le _ _) (by simp)
      unfold Vu.cnt
      omega
    obtain ⟨F, hFv⟩ : ∃ F, V.cnt k P0 P1 = F := ⟨_, rfl⟩
    have hFb : 0 ≤ F ∧ F ≤ 262144 := by rw [← hFv]; exact hcb
    have hwF : IntKind.i64.wrap (F + 1) = F + 1 := (IntWalk.i64_left _).trans (IntWalk.wrap64_in _ (by omega))
    have HCS := Lib.hid hcs
    clear hI hJ i0 i1 j0 j1 hP0 hP1 hpl hcb hcs
    have hbl := hbx.lt
    have h3l := h3.lt
    have h4l := h4.lt
    gi_wp2
    refine wpIn_region_S (S := fun w9 : World => Blk w9 (M + 1) [.map (some M)] ∧ Vbx w9 w.heap.size V ∧ Blk w9 bx [.int .i64 I, .int .i64 J]) (by kernel_rfl) (by kernel_rfl) ⟨h4.drew, h2.drew, hbx.drew⟩ (fun hS => ?_)
    refine wpAnyS_take (i := 0) (v := ?v0_1) rfl (by kernel_rfl) (by kernel_rfl) (by kernel_rfl) (fun _ _ _ h => h) (Or.inl ⟨by rfl, ?hy0_1⟩) (by assumption) ?rest0_1
    case hy0_1 => (intro w9 hSw; obtain ⟨m0, m1, m2⟩ := hSw; have c0 := Blk.cell m0 0 rfl; go_simp; try with_reducible rfl)
    try simp only [Act.put, List.setIfInBounds_toArray, List.set_cons_zero, List.set_cons_succ, List.getElem_toArray, List.getElem_cons_zero, List.getElem_cons_succ]
    refine wpAnyS_take (i := 1) (v := ?v1_2) rfl (by kernel_rfl) (by kernel_rfl) (by kernel_rfl) (fun _ _ _ h => h) (Or.inl ⟨by rfl, ?hy1_2⟩) (by assumption) ?rest1_2
    case hy1_2 => (intro w9 hSw; obtain ⟨m0, m1, m2⟩ := hSw; obtain ⟨c0, c1, c2, c3, c4, c5, c6, c7, c8⟩ := Vbx.cells m1; go_simp; try with_reducible rfl)
    try simp only [Act.put, List.setIfInBounds_toArray, List.set_cons_zero, List.set_cons_succ, List.getElem_toArray, List.getElem_cons_zero, List.getElem_cons_succ]
    refine wpAnyS_take (i := 2) (v := ?v2_3) rfl (by kernel_rfl) (by kernel_rfl) (by kernel_rfl) (fun _ _ _ h => h) (Or.inl ⟨by rfl, ?hy2_3⟩) (by assumption) ?rest2_3
    case hy2_3 => (intro w9 hSw; clear hSw; go_simp; try with_reducible rfl)
    try simp only [Act.put, List.setIfInBounds_toArray, List.set_cons_zero, List.set_cons_succ, List.getElem_toArray, List.getElem_cons_zero, List.getElem_cons_succ]
    refine wpAnyS_take (i := 3) (v := ?v3_4) rfl (by kernel_rfl) (by kernel_rfl) (by kernel_rfl) (fun _ _ _ h => h) (Or.inl ⟨by rfl, ?hy3_4⟩) (by assumption) ?rest3_4
    case hy3_4 => (intro w9 hSw; obtain ⟨m0, m1, m2⟩ := hSw; have c0 := Blk.cell m2 0 rfl; go_simp; try with_reducible rfl)
    try simp only [Act.put, List.setIfInBounds_toArray, List.set_cons_zero, List.set_cons_succ, List.getElem_toArray, List.getElem_cons_zero, List.getElem_cons_succ]
    refine wpAnyS_take (i := 4) (v := ?v4_5) rfl (by kernel_rfl) (by kernel_rfl) (by kernel_rfl) (fun _ _ _ h => h) (Or.inl ⟨by rfl, ?hy4_5⟩) (by assumption) ?rest4_5
    case hy4_5 => (intro w9 hSw; clear hSw; go_simp; try with_reducible rfl)
    try simp only [Act.put, List.setIfInBounds_toArray, List.set_cons_zero, List.set_cons_succ, List.getElem_toArray, List.getElem_cons_zero, List.getElem_cons_succ]
    refine wpAnyS_take (i := 5) (v := ?v5_6) rfl (by kernel_rfl) (by kernel_rfl) (by kernel_rfl) (fun _ _ _ h => h) (Or.inl ⟨by rfl, ?hy5_6⟩) (by assumption) ?rest5_6
    case hy5_6 => (intro w9 hSw; obtain ⟨m0, m1, m2⟩ := hSw; have c0 := Blk.cell m2 1 rfl; go_simp; try with_reducible rfl)
    try simp only [Act.put, List.setIfInBounds_toArray, List.set_cons_zero, List.set_cons_succ, List.getElem_toArray, List.getElem_cons_zero, List.getElem_cons_succ]
    refine wpAnyS_ready (rs := [6]) (by kernel_rfl) (by simp) ?_
    refine AllReadyS.cons rfl (fun K hK => ?_) AllReadyS.nil
    go_simp
    with_reducible refine (pp _).mono ?_
    rintro e w2 ⟨rfl, hb⟩
    have hS2 := And.intro (h4.drew.on hb) (And.intro (h2.drew.on hb) (hbx.drew.on hb))
    have h52 : Mq w2 M k (V.cnt k) := Mq.on h5.drew hb
    have hlk := h52.look hrx hry
    obtain ⟨vv, st, W4, hme, hg4, hlk4, W5, hes, hM5, hg5⟩ := h52.count hrx hry
    rw [hFv] at hlk hlk4 hes
    have hS4 : Blk W4 (M + 1) [.map (some M)] ∧ Vbx W4 w.heap.size V ∧ Blk W4 bx [.int .i64 I, .int .i64 J] := ⟨hS2.1.grown hg4 (by simp), hS2.2.1.grown hg4 (by simp; omega), hS2.2.2.grown hg4 (by simp; omega)⟩
    have hS5 : Blk W5 (M + 1) [.map (some M)] ∧ Vbx W5 w.heap.size V ∧ Blk W5 bx [.int .i64 I, .int .i64 J] := ⟨hS4.1.grown hg5 (by simp), hS4.2.1.grown hg5 (by simp; omega), hS4.2.2.grown hg5 (by simp; omega)⟩
    refine hK.out _ _ hS2 (fun hH => ?_)
    clear hK K hS
    have hS := hH
    clear hH
    try simp only [Act.put, List.setIfInBounds_toArray, List.set_cons_zero, List.set_cons_succ, List.getElem_toArray, List.getElem_cons_zero, List.getElem_cons_succ]
    refine wpAnyS_ready (rs := [7, 9]) (by kernel_rfl) (by simp) ?_
    refine AllReadyS.cons rfl (fun K hK => ?_) (AllReadyS.cons rfl (fun K hK => ?_) AllReadyS.nil)
    · go_simp
      refine hK.out _ _ hS2 (fun hH => ?_)
      clear hK K hS
      have hS := hH
      clear hH
      try simp only [Act.put, List.setIfInBounds_toArray, List.set_cons_zero, List.set_cons_succ, List.getElem_toArray, List.getElem_cons_zero, List.getElem_cons_succ]
      refine wpAnyS_take (i := 8) (v := ?v8_7) rfl (by kernel_rfl) (by kernel_rfl) (by kernel_rfl) (fun _ _ _ h => h) (Or.inl ⟨by rfl, ?hy8_7⟩) (by assumption) ?rest8_7
      case hy8_7 => (intro w9 hSw; clear hSw; go_simp; try with_reducible rfl)
      try simp only [Act.put, List.setIfInBounds_toArray, List.set_cons_zero, List.set_cons_succ, List.getElem_toArray, List.getElem_cons_zero, List.getElem_cons_succ]
      refine wpAnyS_ready (rs := [9]) (by kernel_rfl) (by simp) ?_
      refine AllReadyS.cons rfl (fun K hK => ?_) AllReadyS.nil
      go_simp
      refine hK.out _ _ hS4 (fun hH => ?_)
      clear hK K hS
      have hS := hH
      clear hH
      try simp only [Act.put, List.setIfInBounds_toArray, List.set_cons_zero, List.set_cons_succ, List.getElem_toArray, List.getElem_cons_zero, List.getElem_cons_succ]
      refine wpAnyS_take (i := 10) (v := ?v10_8) rfl (by kernel_rfl) (by kernel_rfl) (by kernel_rfl) (fun _ _ _ h => h) (Or.inl ⟨by rfl, ?hy10_8⟩) (by assumption) ?rest10_8
      case hy10_8 => (intro w9 hSw; clear hSw; go_simp; try with_reducible rfl)
      try simp only [Act.put, List.setIfInBounds_toArray, List.set_cons_zero, List.set_cons_succ, List.getElem_toArray, List.getElem_cons_zero, List.getElem_cons_succ]
      refine wpAnyS_ready (rs := [11]) (by kernel_rfl) (by simp) ?_
      refine AllReadyS.cons rfl (fun K hK => ?_) AllReadyS.nil
      go_simp
      try simp only [hwF, hes, Result.andThen]
      refine hK.out _ _ hS5 (fun hH => ?_)
      clear hK K hS
      have hS := hH
      clear hH
      try simp only [Act.put, List.setIfInBounds_toArray, List.set_cons_zero, List.set_cons_succ, List.getElem_toArray, List.getElem_cons_zero, List.getElem_cons_succ]
      refine wpAnyS_done (by kernel_rfl) ?_ _
      have gg : w2.grownBy W5 (some M) := ⟨hg5.os.trans hg4.os, hg5.tape.trans hg4.tape, hg5.output.trans hg4.output, Nat.le_trans hg4.size hg5.size, fun j hj hne => (hg5.block j (Nat.lt_of_lt_of_le hj hg4.size) hne).trans (hg4.block j hj hne)⟩
      have hMq5 : Mq W5 M (k + 1) (V.cnt (k + 1)) := by rw [HCS.out]; exact hM5
      have hbw5 : Below w.heap.size w W5 := (h6.trans ((Below.refl _ W).drew.trans (hb.mono (Nat.le_refl _)) |>.mono h6.size)).grown gg (by have := h6.size; have := hb.size; simp at this; omega) (fun j e => by cases e; omega)
      have hRd5 : Rd V B s g cap c n (M + 2) lx W5 := ⟨(h1.1.drew.on hb).grown gg (by simp), fun hp => ⟨((h1.2 hp).1.on ((Below.refl _ W).drew.trans (hb.mono (Nat.le_refl _)))).grown gg (by have := (hsw.out hp).1; omega) (by have := (hsw.out hp).2; omega), (h1.2 hp).2⟩⟩
      have hU5 : Vbx W5 (w.heap.size + 1) U := (h3.drew.on hb).grown gg (by simp; omega)
      exact ⟨(keepsFrom_below ((Below.refl _ W).drew)).trans ((keepsFrom_below hb).trans ((KeepsFrom.of_grownBy hg4 (fun j e => by cases e; omega)).trans (KeepsFrom.of_grownBy hg5 (fun j e => by cases e; omega)))), lx, rfl, hRd5, hS5.2.1, hU5, hS5.1, hMq5, hbw5⟩
    · go_simp
      refine hK.out _ _ hS4 (fun hH => ?_)
      clear hK K hS
      have hS := hH
      clear hH
      try simp only [Act.put, List.setIfInBounds_toArray, List.set_cons_zero, List.set_cons_succ, List.getElem_toArray, List.getElem_cons_zero, List.getElem_cons_succ]
      refine wpAnyS_take (i := 10) (v := ?v10_9) rfl (by kernel_rfl) (by kernel_rfl) (by kernel_rfl) (fun _ _ _ h => h) (Or.inl ⟨by rfl, ?hy10_9⟩) (by assumption) ?rest10_9
      case hy10_9 => (intro w9 hSw; clear hSw; go_simp; try with_reducible rfl)
      try simp only [Act.put, List.setIfInBounds_toArray, List.set_cons_zero, List.set_cons_succ, List.getElem_toArray, List.getElem_cons_zero, List.getElem_cons_succ]
      refine wpAnyS_ready (rs := [7]) (by kernel_rfl) (by simp) ?_
      refine AllReadyS.cons rfl (fun K hK => ?_) AllReadyS.nil
      go_simp
      refine hK.out _ _ hS4 (fun hH => ?_)
      clear hK K hS
      have hS := hH
      clear hH
      try simp only [Act.put, List.setIfInBounds_toArray, List.set_cons_zero, List.set_cons_succ, List.getElem_toArray, List.getElem_cons_zero, List.getElem_cons_succ]
      refine wpAnyS_take (i := 8) (v := ?v8_10) rfl (by kernel_rfl) (by kernel_rfl) (by kernel_rfl) (fun _ _ _ h => h) (Or.inl ⟨by rfl, ?hy8_10⟩) (by assumption) ?rest8_10
      case hy8_10 => (intro w9 hSw; clear hSw; go_simp; try with_reducible rfl)
      try simp only [Act.put, List.setIfInBounds_toArray, List.set_cons_zero, List.set_cons_succ, List.getElem_toArray, List.getElem_cons_zero, List.getElem_cons_succ]
      refine wpAnyS_ready (rs := [11]) (by kernel_rfl) (by simp) ?_
      refine AllReadyS.cons rfl (fun K hK => ?_) AllReadyS.nil
      go_simp
      try simp only [hwF, hes, Result.andThen]
      refine hK.out _ _ hS5 (fun hH => ?_)
      clear hK K hS
      have hS := hH
      clear hH
      try simp only [Act.put, List.setIfInBounds_toArray, List.set_cons_zero, List.set_cons_succ, List.getElem_toArray, List.getElem_cons_zero, List.getElem_cons_succ]
      refine wpAnyS_done (by kernel_rfl) ?_ _
      have gg : w2.grownBy W5 (some M) := ⟨hg5.os.trans hg4.os, hg5.tape.trans hg4.tape, hg5.output.trans hg4.output, Nat.le_trans hg4.size hg5.size, fun j hj hne => (hg5.block j (Nat.lt_of_lt_of_le hj hg4.size) hne).trans (hg4.block j hj hne)⟩
      have hMq5 : Mq W5 M (k + 1) (V.cnt (k + 1)) := by rw [HCS.out]; exact hM5
      have hbw5 : Below w.heap.size w W5 := (h6.trans ((Below.refl _ W).drew.trans (hb.mono (Nat.le_refl _)) |>.mono h6.size)).grown gg (by have := h6.size; have := hb.size; simp at this; omega) (fun j e => by cases e; omega)
      have hRd5 : Rd V B s g cap c n (M + 2) lx W5 := ⟨(h1.1.drew.on hb).grown gg (by simp), fun hp => ⟨((h1.2 hp).1.on ((Below.refl _ W).drew.trans (hb.mono (Nat.le_refl _)))).grown gg (by have := (hsw.out hp).1; omega) (by have := (hsw.out hp).2; omega), (h1.2 hp).2⟩⟩
      have hU5 : Vbx W5 (w.heap.size + 1) U := (h3.drew.on hb).grown gg (by simp; omega)
      exact ⟨(keepsFrom_below ((Below.refl _ W).drew)).trans ((keepsFrom_below hb).trans ((KeepsFrom.of_grownBy hg4 (fun j e => by cases e; omega)).trans (KeepsFrom.of_grownBy hg5 (fun j e => by cases e; omega)))), lx, rfl, hRd5, hS5.2.1, hU5, hS5.1, hMq5, hbw5⟩
  case done =>
    rintro D lx W hD ⟨rfl, h1, h2, h3, h4, h5, h6⟩ hK
    have hM0 : ShM w U M (V.R * V.C).toNat D (V.cnt (V.R * V.C).toNat) W := ⟨h3, h4, h5, h6, hK⟩
    have HCB := Lib.hid (cnt_bd HV.out.bd)
    have HSI := Lib.hid (shared_iff (v := V) (u := U) (V.R * V.C).toNat HUB.out.R.1 HUB.out.C.1)
    clear h1 h2 h4 h5 h6 hK
    obtain ⟨⟨uR0, uR1⟩, uC0, uC1⟩ := And.intro HUB.out.R HUB.out.C
    obtain ⟨N, hN⟩ : ∃ N, (V.R * V.C).toNat = N := ⟨_, rfl⟩
    obtain ⟨ur, hur⟩ : ∃ n : Nat, U.R = (n : Int) := ⟨U.R.toNat, by omega⟩
    obtain ⟨uc, huc⟩ : ∃ n : Nat, U.C = (n : Int) := ⟨U.C.toNat, by omega⟩
    rw [hN] at hM0 HCB HSI HRES
    have hsd : Hid (∀ B : Bool, (B = true ↔ ∃ a b : Nat, a < ur ∧ b < uc ∧ 0 < V.cnt N (U.p0 a b) (U.p1 a b)) → RES = B) := Lib.hid (fun B h => by
      have := HSI.out
      have h9 := HRES.out
      rw [hur, huc, Int.toNat_natCast, Int.toNat_natCast] at this
      rw [← h9, Bool.eq_iff_iff, decide_eq_true_iff, h, ← this, hur, huc])
    clear HSI
    have u512 : ur ≤ 512 ∧ uc ≤ 512 := by omega
    have Hur := Lib.hid hur
    have Huc := Lib.hid huc
    clear hur huc uR0 uR1 uC0 uC1
    go_wp2_with fail
    apply wp_label
    obtain ⟨c0, c1, c2, c3, c4, c5, c6, c7, c8⟩ := Vbx.cells h3
    rw [Hur.out] at c7
    go_wp2_with fail
    clear c0 c1 c2 c3 c4 c5 c6 c7 c8 h3
    go_loopw [7, 33] (fun r i wr => ∃ a : Nat, a ≤ ur ∧ r = .bool false ∧ i = .int .i64 a ∧ ShM w U M N D (V.cnt N) wr ∧ Hid (∀ a' b : Nat, a' < a → b < uc → V.cnt N (U.p0 a' b) (U.p1 a' b) ≤ 0)) (fun _ i _ => ur - (intOf i).toNat)
    case atStart => exact ⟨0, Nat.zero_le _, rfl, rfl, hM0, Lib.hid (fun a' b h => by omega)⟩
    case round =>
      clear hM0
      obtain ⟨a, ha, rfl, rfl, hM, HA⟩ := hrel
      by_cases hlt : a < ur
      · obtain ⟨c0, c1, c2, c3, c4, c5, c6, c7, c8⟩ := Vbx.cells hM.1
        rw [Huc.out] at c8
        go_wp2_with fail
        clear c0 c1 c2 c3 c4 c5 c6 c7 c8
        go_loopw [7, 38] (fun r j wr => ∃ b : Nat, b ≤ uc ∧ r = .bool false ∧ j = .int .i64 b ∧ ShM w U M N D (V.cnt N) wr ∧ Hid (∀ b' : Nat, b' < b → V.cnt N (U.p0 a b') (U.p1 a b') ≤ 0)) (fun _ j _ => uc - (intOf j).toNat)
        case atStart => exact ⟨0, Nat.zero_le _, rfl, rfl, hM, Lib.hid (fun b h => by omega)⟩
        case round =>
          clear hM
          obtain ⟨b, hb, rfl, rfl, hM, HB⟩ := hrel
          by_cases hlt2 : b < uc
          · have pp := place_any HUB.out (i := (a : Int)) (j := (b : Int)) (by omega) (by omega) (by omega) (by omega)
            have hrg : rg (U.p0 a b) ∧ rg (U.p1 a b) := by
              obtain ⟨⟨x0, x1⟩, y0, y1⟩ := HUB.out.p (i := (a : Int)) (j := (b : Int)) (by omega) (by omega) (by omega) (by omega)
              have := HUB.out.K
              unfold rg
              omega
            obtain ⟨hrx, hry⟩ := hrg
            have hcb := HCB.out (U.p0 a b) (U.p1 a b)
            obtain ⟨P0, hP0⟩ : ∃ P, U.p0 a b = P := ⟨_, rfl⟩
            obtain ⟨P1, hP1⟩ : ∃ P, U.p1 a b = P := ⟨_, rfl⟩
            rw [hP0, hP1] at pp hcb
            rw [hP0] at hrx
            rw [hP1] at hry
            obtain ⟨F, hF⟩ : ∃ F, V.cnt N P0 P1 = F := ⟨_, rfl⟩
            rw [hF] at hcb
            obtain ⟨m1, m2, m3, m4, m5⟩ := hM
            go_wp2_with fail
            refine wp_only ?_
            refine wp_region_held_drew (S := fun w9 : World => Blk w9 (M + 1) [.map (some M)] ∧ Vbx w9 (w.heap.size + 1) U) (by kernel_rfl) ⟨m2.drew, m1.drew⟩ (fun hS => ?_)
            refine wpAnyH_take (i := 0) (v := ?v0_101) rfl (by kernel_rfl) (by kernel_rfl) (by kernel_rfl) (fun _ _ _ h => h) (Or.inl ⟨by rfl, ?hy0_101⟩) (by assumption) ?rest0_101
            case hy0_101 => (intro w9 hSw; obtain ⟨n0, n1⟩ := hSw; have c0 := Blk.cell n0 0 rfl; go_simp; try with_reducible rfl)
            try simp only [Act.put, List.setIfInBounds_toArray, List.set_cons_zero, List.set_cons_succ, List.getElem_toArray, List.getElem_cons_zero, List.getElem_cons_succ]
            refine wpAnyH_take (i := 1) (v := ?v1_102) rfl (by kernel_rfl) (by kernel_rfl) (by kernel_rfl) (fun _ _ _ h => h) (Or.inl ⟨by rfl, ?hy1_102⟩) (by assumption) ?rest1_102
            case hy1_102 => (intro w9 hSw; obtain ⟨n0, n1⟩ := hSw; obtain ⟨c0, c1, c2, c3, c4, c5, c6, c7, c8⟩ := Vbx.cells n1; go_simp; try with_reducible rfl)
            try simp only [Act.put, List.setIfInBounds_toArray, List.set_cons_zero, List.set_cons_succ, List.getElem_toArray, List.getElem_cons_zero, List.getElem_cons_succ]
            refine wpAnyH_take (i := 2) (v := ?v2_103) rfl (by kernel_rfl) (by kernel_rfl) (by kernel_rfl) (fun _ _ _ h => h) (Or.inl ⟨by rfl, ?hy2_103⟩) (by assumption) ?rest2_103
            case hy2_103 => (intro w9 hSw; clear hSw; go_simp; try with_reducible rfl)
            try simp only [Act.put, List.setIfInBounds_toArray, List.set_cons_zero, List.set_cons_succ, List.getElem_toArray, List.getElem_cons_zero, List.getElem_cons_succ]
            refine wpAnyH_take (i := 3) (v := ?v3_104) rfl (by kernel_rfl) (by kernel_rfl) (by kernel_rfl) (fun _ _ _ h => h) (Or.inl ⟨by rfl, ?hy3_104⟩) (by assumption) ?rest3_104
            case hy3_104 => (intro w9 hSw; clear hSw; go_simp; try with_reducible rfl)
            try simp only [Act.put, List.setIfInBounds_toArray, List.set_cons_zero, List.set_cons_succ, List.getElem_toArray, List.getElem_cons_zero, List.getElem_cons_succ]
            refine wpAnyH_ready (rs := [4]) (by kernel_rfl) (by simp) ?_
            refine AllReadyH.cons rfl (fun K hK => ?_) AllReadyH.nil
            go_simp
            with_reducible refine (pp _).mono ?_
            rintro e w2 ⟨rfl, hb⟩
            have hS2 := And.intro (m2.drew.on hb) (m1.drew.on hb)
            have hlk := (Mq.on m3.drew hb).look hrx hry
            rw [hF] at hlk
            refine hK.out _ _ hS2 (fun hH => ?_)
            clear hK K hS
            have hS := hH
            clear hH
            try simp only [Act.put, List.setIfInBounds_toArray, List.set_cons_zero, List.set_cons_succ, List.getElem_toArray, List.getElem_cons_zero, List.getElem_cons_succ]
            refine wpAnyH_ready (rs := [5]) (by kernel_rfl) (by simp) ?_
            refine AllReadyH.cons rfl (fun K hK => ?_) AllReadyH.nil
            go_simp
            refine hK.out _ _ hS2 (fun hH => ?_)
            clear hK K hS
            have hS := hH
            clear hH
            try simp only [Act.put, List.setIfInBounds_toArray, List.set_cons_zero, List.set_cons_succ, List.getElem_toArray, List.getElem_cons_zero, List.getElem_cons_succ]
            refine wpAnyH_take (i := 6) (v := ?v6_105) rfl (by kernel_rfl) (by kernel_rfl) (by kernel_rfl) (fun _ _ _ h => h) (Or.inl ⟨by rfl, ?hy6_105⟩) (by assumption) ?rest6_105
            case hy6_105 => (intro w9 hSw; clear hSw; go_simp; try with_reducible rfl)
            try simp only [Act.put, List.setIfInBounds_toArray, List.set_cons_zero, List.set_cons_succ, List.getElem_toArray, List.getElem_cons_zero, List.getElem_cons_succ]
            refine wpAnyH_ready (rs := [7]) (by kernel_rfl) (by simp) ?_
            refine AllReadyH.cons rfl (fun K hK => ?_) AllReadyH.nil
            go_simp
            refine hK.out _ _ hS2 (fun hH => ?_)
            clear hK K hS
            have hS := hH
            clear hH
            try simp only [Act.put, List.setIfInBounds_toArray, List.set_cons_zero, List.set_cons_succ, List.getElem_toArray, List.getElem_cons_zero, List.getElem_cons_succ]
            refine wpAnyH_done (by kernel_rfl) ?_ _
            have hM2 : ShM w U M N D (V.cnt N) w2 := ShM.on (ShM.on ⟨m1, m2, m3, m4, m5⟩ (Below.refl _ wr).drew) hb
            clear m1 m2 m3 m4 m5 hlk hS2 hS
            by_cases hF0 : 0 < F
            · have hd : decide (0 < F) = true := decide_eq_true hF0
              rw [hd]
              have hRE := hsd.out true ⟨fun _ => ⟨a, b, hlt, hlt2, by rw [hP0, hP1, hF]; exact hF0⟩, fun _ => rfl⟩
              simp only [onlyN]
              go_wp2_with fail
              refine ⟨by simp, .inl ⟨_, _, rfl, run_takeDeferred hM2.2.2.2.2, ?_⟩⟩
              exact ⟨_, results_tmp rfl _ _ _, by first | rfl | (rw [hRE]; rfl), below_ownV hM2.2.2.2.1 (grownBy_putObj' _ D (.deferred none)) (noCells_put hM2.2.2.2.2 rfl) (by omega)⟩
            · have hd : decide (0 < F) = false := decide_eq_false hF0
              rw [hd]
              have HB2 := Lib.hid (show ∀ b' : Nat, b' < b + 1 → V.cnt N (U.p0 a b') (U.p1 a b') ≤ 0 from fun b' h => by
                rcases Nat.lt_or_ge b' b with g | g
                · exact HB.out b' g
                · obtain rfl : b' = b := by omega
                  rw [hP0, hP1, hF]; omega)
              simp only [onlyN]
              go_wp2_with fail
              go_roundw
              case rel => exact ⟨b + 1, by omega, rfl, by go_num, hM2, HB2⟩
              case measure => simp [intOf]; omega
          · obtain rfl : b = uc := by omega
            have HA2 := Lib.hid (show ∀ a' b' : Nat, a' < a + 1 → b' < b → V.cnt N (U.p0 a' b') (U.p1 a' b') ≤ 0 from fun a' b' h g => by
              rcases Nat.lt_or_ge a' a with q | q
              · exact HA.out a' b' q g
              · obtain rfl : a' = a := by omega
                exact HB.out b' g)
            go_wp2_with fail
            go_roundw
            case rel => exact ⟨a + 1, by omega, rfl, by go_num, hM, HA2⟩
            case measure => simp [intOf]; omega
      · obtain rfl : a = ur := by omega
        have hRE := hsd.out false ⟨fun h => by simp at h, fun ⟨a', b, g1, g2, g3⟩ => absurd g3 (by have := HA.out a' b g1 g2; omega)⟩
        go_wp2_with fail
        refine ⟨by simp, .inl ⟨_, _, rfl, run_takeDeferred hM.2.2.2.2, ?_⟩⟩
        exact ⟨_, results_tmp rfl _ _ _, by first | rfl | (rw [hRE]; rfl), below_ownV hM.2.2.2.1 (grownBy_putObj' _ D (.deferred none)) (noCells_put hM.2.2.2.2 rfl) (by omega)⟩
  case stop => exact fun D W _ h _ => h.elim

theorem Shares_any (hv : Vk v s c n K) (hs : v.p ≠ none → St w B s g cap c l ∧ l.length = n) (hu : Bd u K2) (hpv : PS w v.p) (hpu : PS w u.p) : Calls Try.prog 75 #[v.V, u.V] w (Ans w (.bool (shB v u))) := by
  unfold shB
  cases hp : (v.p == u.p)
  · exact Shares_no (by simp [bne, hp]) w hpv hpu
  · exact Shares_yes hv hs hu (by simp [bne, hp]) hpv hpu
end
end Go.Proofs.Ytfelmkkkaphkpaa
