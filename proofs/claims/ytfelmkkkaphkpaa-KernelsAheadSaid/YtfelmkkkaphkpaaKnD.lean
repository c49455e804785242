/-
  Layer 8, walks: the program's rows, refused. (Written by wip/tools/gen_knd.py.)
-/
import Derived.Test.YtfelmkkkaphkpaaKnC
import Derived.Test.YtfelmkkkaphkpaaKnR
namespace Go.Proofs.Ytfelmkkkaphkpaa
open Go.RowKit Go.Bw Go.Sort Go.Shelf
set_option linter.unusedVariables false
set_option linter.unusedSimpArgs false

/-- a row of a matrix's floats -/
def rowV (G : Option Addr) (cG q i : Nat) : Value := .slice (if cG = i * q then G else G.map (·.add (i * q))) q (cG - i * q)
/-- the first k rows of m -/
def rowsV (G : Option Addr) (cG q m k : Nat) : List Value := (List.range m).map fun t => if t < k then rowV G cG q t else .slice none 0 0
theorem rowsV_len (G : Option Addr) (cG q m k : Nat) : (rowsV G cG q m k).length = m := by simp [rowsV]
theorem rowsV_get {G : Option Addr} {cG q m k t : Nat} (ht : t < m) : (rowsV G cG q m k)[t]? = some (if t < k then rowV G cG q t else .slice none 0 0) := by simp [rowsV, ht]
theorem rowsV_next {G : Option Addr} {cG q m k : Nat} (hk : k < m) : (rowsV G cG q m k).set k (rowV G cG q k) = rowsV G cG q m (k + 1) := by
  apply List.ext_getElem?
  intro t
  by_cases ht : t < m
  · rw [rowsV_get ht]
    by_cases e : k = t
    · subst e
      rw [List.getElem?_set_self (by rw [rowsV_len]; exact hk), if_pos (by omega)]
    · rw [List.getElem?_set_ne e, rowsV_get ht]
      congr 1
      by_cases h : t < k
      · rw [if_pos h, if_pos (by omega)]
      · rw [if_neg h, if_neg (by omega)]
  · rw [List.getElem?_eq_none (by rw [List.length_set, rowsV_len]; omega), List.getElem?_eq_none (by rw [rowsV_len]; omega)]
theorem rowsV_zero (G : Option Addr) (cG q m : Nat) : rowsV G cG q m 0 = List.replicate m (.slice none 0 0) := by
  apply List.ext_getElem?
  intro t
  by_cases ht : t < m
  · rw [rowsV_get ht, if_neg (by omega)]; simp [ht]
  · rw [List.getElem?_eq_none (by rw [rowsV_len]; omega), List.getElem?_eq_none (by simp; omega)]
/-- the rows of a matrix l of m rows and q columns: the list in the block o, the floats in G, all from B on -/
structure Rws (w : World) (B o : Nat) (G : Option Addr) (cG m q : Nat) (l : List Int) : Prop where
  own : OwnF w B G cG l
  len : l.length = m * q
  wd : Wd l
  blk : Blk w o (rowsV G cG q m m)
  ne : ∀ a, G = some a → a.block ≠ o
  hB : B ≤ o
section
variable {w w' : World} {B o : Nat} {G : Option Addr} {cG m q : Nat} {l : List Int}
theorem Rws.on (h : Rws w B o G cG m q l) (hb : Below w.heap.size w w') : Rws w' B o G cG m q l := ⟨h.own.on_ hb, h.len, h.wd, h.blk.on hb, h.ne, h.hB⟩
theorem Rws.grown {row : Option Nat} (h : Rws w B o G cG m q l) (hg : w.grownBy w' row) (hr : ∀ k, row = some k → k < B) : Rws w' B o G cG m q l :=
  ⟨h.own.grown_ hg (fun a e e2 => by have := (h.own.gt e).1; have := hr _ e2.symm; omega), h.len, h.wd, h.blk.grown hg (fun e => by have := hr _ e.symm; have := h.hB; omega), h.ne, h.hB⟩
/-- the row i -/
theorem Rws.row (h : Rws w B o G cG m q l) {i : Nat} (hi : i < m) : ∃ A5 c5, w.cell? ⟨o, i, none⟩ = some (.slice A5 q c5) ∧ FL w A5 q c5 ((l.drop (i * q)).take q) := by
  have hc := Blk.cell h.blk i (rowsV_get hi)
  rw [if_pos hi] at hc
  have hk : (i + 1) * q ≤ m * q := Nat.mul_le_mul_right q hi
  rw [Nat.add_mul, Nat.one_mul, ← h.len] at hk
  exact ⟨_, _, hc, FL.cut (show FL w G l.length cG l from ⟨rfl, h.own.nums, h.wd⟩) hk⟩
end
/-- what rows answers -/
def RowsA (w : World) (m q : Nat) (l : List Int) (e : Ending) (w' : World) : Prop := ∃ o G cG, e = .returned (.slice (some ⟨o, 0, none⟩) m m) ∧ Rws w' w.heap.size o G cG m q l ∧ Below w.heap.size w w'
theorem info22 : (Try.prog.info? 22).map (fun i => (i.zero, i.size, i.bytes)) = some (some (.slice none 0 0), 1, 24) := by kernel_rfl
theorem made_R (n : Nat) : madeCells #[Value.slice none 0 0] n = (List.replicate n (Value.slice none 0 0)).toArray := by
  apply Array.ext'
  rw [toList_madeCells_one]
theorem run_makeR (n : Nat) (hn : n ≤ 512) (w : World) :
    (Instr.makeSlice 91 (.int .i64 (n : Int)) (.int .i64 (n : Int))).run Try.prog w = .ok (.slice (some ⟨w.heap.size, 0, none⟩) n n) (w.alloc (.cells (List.replicate n (.slice none 0 0)).toArray 22)) := by
  obtain ⟨i, hi, hz0, hz1, hz2⟩ := info_parts info22
  have hr := Go.run_make (P := Try.prog) w 91 22 i (.slice none 0 0) Try.underlying91 hi hz0 .i64 .i64 n n (by omega) (by omega) (by rw [hz2]; omega) (by omega)
  simp only [Int.toNat_natCast, hz1, Nat.mul_one] at hr
  rw [show (Value.slice none 0 0).cells = #[Value.slice none 0 0] from rfl, made_R] at hr
  exact hr
section
variable {w : World} {x : Vu} {X : List Int}
set_option maxRecDepth 100000 in
set_option maxHeartbeats 8000000 in
theorem rows_is (hx : Sv w x X) {m q : Nat} (hm : x.R = m) (hq : x.C = q) : Calls Try.prog 80 #[x.V] w (RowsA w m q X) := by
  have pm := fun W (h : Sv W x X) => svMat h
  have hR := hx.R
  have hC := hx.C
  have hln := hx.len
  have hwd := hx.wd
  rw [hm] at hR
  rw [hq] at hC
  rw [hm, hq] at hln
  simp only [hm, hq] at pm
  have hln2 : X.length = m * q := by exact_mod_cast hln
  have hN4 : X.length ≤ 512 * 512 := by rw [hln2]; exact Nat.mul_le_mul (by omega) (by omega)
  obtain ⟨N, hN⟩ : ∃ N, X.length = N := ⟨_, rfl⟩
  have HXN := Lib.hid hN
  have HN := Lib.hid (hN.symm.trans hln2)
  have DB := Blk.new w x.L 30
  have hx1 := hx.on ((Below.refl _ w).alloc (Nat.le_refl _) (.cells x.L.toArray 30))
  simp only [hN] at hN4
  clear hx hm hq hln hln2 hN
  obtain ⟨c0, c1, c2, c3, c4, c5, c6, c7, c8⟩ := Vbx.cells DB
  go_enter Try.func80, Try.ntmps80
  go_wp2_with fail
  with_reducible refine (pm _ hx1).mono ?_
  rintro e w1 ⟨G, cG, rfl, ho, _, hb⟩
  clear c0 c1 c2 c3 c4 c5 c6 c7 c8 DB pm hx1
  rw [HXN.out]
  have bw := below_step hb
  have hs1 := bw.size
  replace ho := ho.less (B' := w.heap.size) (by simp)
  have hcm := ho.nums
  have hnc := hcm.1
  have hcx := hcm.max'
  rw [HXN.out] at hnc
  have hG : ∀ a, G = some a → a.block < w1.heap.size := fun a e => (ho.gt e).2
  have er := run_makeR m (by omega) (w1.alloc (.cells #[.int .i64 m, .int .i64 q, .slice G N cG] 24))
  have DM := (Blk.new w1 [.int .i64 m, .int .i64 q, .slice G N cG] 24).alloc (.cells (List.replicate m (.slice none 0 0)).toArray 22)
  have DR := Blk.new (w1.alloc (.cells #[.int .i64 m, .int .i64 q, .slice G N cG] 24)) (List.replicate m (.slice none 0 0)) 22
  rw [World.size_alloc] at DR
  replace DR : Blk ((w1.alloc (.cells #[.int .i64 m, .int .i64 q, .slice G N cG] 24)).alloc (.cells (List.replicate m (.slice none 0 0)).toArray 22)) (w1.heap.size + 1) (rowsV G cG q m 0) := by rw [rowsV_zero]; exact DR
  replace ho := (ho.alloc_ (.cells #[.int .i64 m, .int .i64 q, .slice G N cG] 24)).alloc_ (.cells (List.replicate m (.slice none 0 0)).toArray 22)
  replace bw := (bw.alloc bw.size (.cells #[.int .i64 m, .int .i64 q, .slice G N cG] 24)).alloc (by simp; omega) (.cells (List.replicate m (.slice none 0 0)).toArray 22)
  have DM1 := Blk.new w1 [.int .i64 m, .int .i64 q, .slice G N cG] 24
  obtain ⟨c0, c1, c2, f0, f1, f2⟩ := Mbx.cells DM1
  clear hcm hb DM1
  go_wp2_with fail
  clear c0 c1 c2 f0 f1 f2 er
  obtain ⟨H, hH⟩ : ∃ H, w1.heap.size = H := ⟨_, rfl⟩
  have HH := Lib.hid hH
  simp only [hH, World.size_alloc] at DM DR hG hs1 ⊢
  clear hH
  go_loopw [13] (fun i wr => ∃ (k : Nat), k ≤ m ∧ i = .int .i64 k ∧ OwnF wr w.heap.size G cG X ∧ Mbx wr H m q G N cG ∧ Blk wr (H + 1) (rowsV G cG q m k) ∧ Below w.heap.size w wr) (fun i _ => m - (intOf i).toNat)
  case atStart => exact ⟨0, Nat.zero_le _, rfl, ho, DM, DR, bw⟩
  case round =>
    clear ho DM DR bw
    obtain ⟨k, hk, rfl, ho, DM, DR, bw⟩ := hrel
    by_cases hlt : k < m
    · have hX2 : k * q ≤ 512 * 512 := Nat.mul_le_mul (by omega) (by omega)
      have hY2 : (k + 1) * q ≤ m * q := Nat.mul_le_mul_right q hlt
      rw [← HN.out] at hY2
      have hnx := Lib.hid (rowsV_next (G := G) (cG := cG) (q := q) hlt)
      have hrv := Lib.hid (show rowV G cG q k = .slice (if cG = k * q then G else G.map (·.add (k * q))) q (cG - k * q) from rfl)
      obtain ⟨Y, hY⟩ : ∃ Y, (k + 1) * q = Y := ⟨_, rfl⟩
      have hYi : ((k : Int) + 1) * (q : Int) = (Y : Int) := by exact_mod_cast hY
      rw [Nat.add_mul, Nat.one_mul] at hY
      obtain ⟨X5, hX5⟩ : ∃ X5, k * q = X5 := ⟨_, rfl⟩
      have hXi : (k : Int) * (q : Int) = (X5 : Int) := by exact_mod_cast hX5
      rw [hX5] at hX2 hrv hY
      have eY : Y - X5 = q := by omega
      have hY3 : Y ≤ N := by rw [Nat.add_mul, Nat.one_mul, hX5, hY] at hY2; exact hY2
      have x0 : (0 : Int) ≤ X5 := by omega
      have x1 : (X5 : Int) ≤ Y := by omega
      have x2 : (Y : Int) ≤ cG := by omega
      have k0 : (0 : Int) ≤ k := by omega
      have k1 : (k : Int) < m := by omega
      have v1 : IntKind.i64.wrap (X5 : Int) = X5 := by rw [IntKind.wrap_i64]; omega
      have v2 : IntKind.i64.wrap (Y : Int) = Y := by rw [IntKind.wrap_i64]; omega
      have v3 : IntKind.i64.wrap ((k : Int) + 1) = (k : Int) + 1 := by rw [IntKind.wrap_i64]; omega
      have hc := Blk.cell DR k (rowsV_get hlt)
      rw [if_neg (Nat.lt_irrefl k)] at hc
      have hf := Blk.free DR k
      obtain ⟨c0, c1, c2, f0, f1, f2⟩ := Mbx.cells DM
      have HP := Lib.hid (show ∀ u, Mbx (wr.setCell ⟨H + 1, k, none⟩ u) H m q G N cG ∧ OwnF (wr.setCell ⟨H + 1, k, none⟩ u) w.heap.size G cG X ∧ Below w.heap.size w (wr.setCell ⟨H + 1, k, none⟩ u) ∧ (u = rowV G cG q k → Blk (wr.setCell ⟨H + 1, k, none⟩ u) (H + 1) (rowsV G cG q m (k + 1))) from fun u =>
        ⟨DM.far (p := ⟨H + 1, k, none⟩) (by simp) _, ho.farB (b := H + 1) (fun a e => by have := hG a e; omega) k u, bw.setCell (p := ⟨H + 1, k, none⟩) (by simp; omega) _, fun e => by
          subst e
          have := DR.set_ k (rowV G cG q k)
          rwa [hnx.out] at this⟩)
      clear DM DR ho bw hX5 hY hY2 hX2 hnx
      by_cases hcX : cG = X5
      · have hv : rowV G cG q k = .slice G q 0 := by rw [hrv.out, if_pos hcX, hcX, Nat.sub_self]
        have Hv := Lib.hid hv
        subst hcX
        clear hv
        go_wp2_with fail
        go_roundw
        case rel => exact ⟨k + 1, by omega, by go_num, (HP.out _).2.1, (HP.out _).1, (HP.out _).2.2.2 (by rw [Hv.out]), (HP.out _).2.2.1⟩
        case measure => simp [intOf]; omega
      · have Hv : Hid (rowV G cG q k = .slice (G.map (·.add X5)) q (cG - X5)) := Lib.hid (by rw [hrv.out, if_neg hcX])
        go_wp2_with fail
        go_roundw
        case rel => exact ⟨k + 1, by omega, by go_num, (HP.out _).2.1, (HP.out _).1, (HP.out _).2.2.2 (by rw [Hv.out]), (HP.out _).2.2.1⟩
        case measure => simp [intOf]; omega
    · obtain rfl : k = m := by omega
      go_wp2_with fail
      go_ret
      exact ⟨H + 1, G, cG, rfl, ⟨ho, by rw [HXN.out]; exact HN.out, hwd, DR, fun a e => by have := hG a e; omega, by omega⟩, bw⟩
end

/-- views in a row of memory, from the place ad on -/
def VLs (w : World) (ad : Addr) (vs : List Vu) : Prop := ad.block < w.heap.size ∧ ∀ (k : Nat) (v : Vu), vs[k]? = some v → ∃ ea : Addr, ad.add (k * 9) = ea ∧ ea.block = ad.block ∧ w.cell? ea = some (.pointer v.p) ∧ w.cell? ⟨ea.block, ea.off + 1, none⟩ = some (.int .i64 v.f0) ∧ w.cell? ⟨ea.block, ea.off + 2, none⟩ = some (.int .i64 v.f1) ∧ w.cell? ⟨ea.block, ea.off + 3, none⟩ = some (.int .i64 v.d0) ∧ w.cell? ⟨ea.block, ea.off + 4, none⟩ = some (.int .i64 v.d1) ∧ w.cell? ⟨ea.block, ea.off + 5, none⟩ = some (.int .i64 v.r0) ∧ w.cell? ⟨ea.block, ea.off + 6, none⟩ = some (.int .i64 v.r1) ∧ w.cell? ⟨ea.block, ea.off + 7, none⟩ = some (.int .i64 v.R) ∧ w.cell? ⟨ea.block, ea.off + 8, none⟩ = some (.int .i64 v.C)
theorem VLs.on {w w' : World} {ad : Addr} {vs : List Vu} (h : VLs w ad vs) (hb : Below w.heap.size w w') : VLs w' ad vs := by
  refine ⟨Nat.lt_of_lt_of_le h.1 hb.size, fun k v hv => ?_⟩
  obtain ⟨ea, e1, e2, c⟩ := h.2 k v hv
  have hl := h.1
  refine ⟨ea, e1, e2, ?_⟩
  have hk : ∀ p : Addr, p.block = ea.block → w'.cell? p = w.cell? p := fun p hp => hb.cell (by rw [hp, e2]; exact hl)
  rw [hk ea rfl, hk ⟨ea.block, ea.off + 1, none⟩ rfl, hk ⟨ea.block, ea.off + 2, none⟩ rfl, hk ⟨ea.block, ea.off + 3, none⟩ rfl, hk ⟨ea.block, ea.off + 4, none⟩ rfl, hk ⟨ea.block, ea.off + 5, none⟩ rfl, hk ⟨ea.block, ea.off + 6, none⟩ rfl, hk ⟨ea.block, ea.off + 7, none⟩ rfl, hk ⟨ea.block, ea.off + 8, none⟩ rfl]
  exact c
theorem flat_get : ∀ (vs : List Vu) (k j : Nat) (v : Vu), vs[k]? = some v → j < 9 → (vs.flatMap Vu.L)[k * 9 + j]? = (Vu.L v)[j]?
  | [], k, j, v, h, _ => by simp at h
  | u :: vs, 0, j, v, h, hj => by
    simp at h
    subst h
    rw [List.flatMap_cons, Nat.zero_mul, Nat.zero_add, List.getElem?_append_left (by simpa using hj)]
  | u :: vs, k + 1, j, v, h, hj => by
    rw [List.flatMap_cons, List.getElem?_append_right (by simp; omega), show (k + 1) * 9 + j - (Vu.L u).length = k * 9 + j by simp; omega]
    exact flat_get vs k j v (by simpa using h) hj
theorem VLs.of {w : World} {b : Nat} {vs : List Vu} (h : Blk w b (vs.flatMap Vu.L)) : VLs w ⟨b, 0, none⟩ vs := by
  refine ⟨h.lt, fun k v hv => ⟨_, add_at b 0 (k * 9), rfl, ?_⟩⟩
  rw [Nat.zero_add]
  have g := fun j hj u (hu : (Vu.L v)[j]? = some u) => Blk.cell h (k * 9 + j) ((flat_get vs k j v hv hj).trans hu)
  exact ⟨g 0 (by omega) _ rfl, g 1 (by omega) _ rfl, g 2 (by omega) _ rfl, g 3 (by omega) _ rfl, g 4 (by omega) _ rfl, g 5 (by omega) _ rfl, g 6 (by omega) _ rfl, g 7 (by omega) _ rfl, g 8 (by omega) _ rfl⟩
/-- why a call is refused -/
def refE (fit : Bool) (vs : List Vu) : Int := if vs.any (fun v => v.p == none) = true then 1 else if fit = true then 0 else 8
theorem any_yes {vs : List Vu} {k : Nat} {v : Vu} (h : vs[k]? = some v) (hp : (v.p == none) = true) (fit : Bool) : refE fit vs = 1 := by
  unfold refE
  rw [if_pos (List.any_eq_true.2 ⟨v, List.mem_of_getElem? h, hp⟩)]
theorem any_no {vs : List Vu} {n : Nat} (hn : vs.length = n) (h : ∀ k v, k < n → vs[k]? = some v → (v.p == none) = false) (fit : Bool) : refE fit vs = if fit = true then 0 else 8 := by
  unfold refE
  rw [if_neg]
  intro e
  obtain ⟨v, hm, hp⟩ := List.any_eq_true.1 e
  obtain ⟨k, hk⟩ := List.getElem?_of_mem hm
  have := h k v (by rw [← hn]; rcases Nat.lt_or_ge k vs.length with h1 | h1; exact h1; rw [List.getElem?_eq_none h1] at hk; cases hk) hk
  rw [hp] at this
  cases this
section
variable {w : World} {vs : List Vu} {ad : Addr} {n c : Nat}
set_option maxRecDepth 100000 in
set_option maxHeartbeats 8000000 in
theorem refused_false (hn : vs.length = n) (h8 : n ≤ 100) (hV : VLs w ad vs) (hS : ∀ v ∈ vs, ∃ F, Sv w v F) : Calls Try.prog 61 #[.bool false, .slice (some ad) n c] w (Ans w (.int .i64 (refE false vs))) := by
  have HV := Lib.hid hV
  have HS := Lib.hid (show ∀ k v, vs[k]? = some v → ∃ F, Sv w v F from fun k v h => hS v (List.mem_of_getElem? h))
  have HY := Lib.hid (show ∀ (k : Nat) (v : Vu), vs[k]? = some v → (v.p == none) = true → refE false vs = 1 from fun k v h hp => any_yes h hp false)
  have HNo := Lib.hid (fun h => any_no hn h false)
  have HG := Lib.hid (show ∀ k, k < n → ∃ v, vs[k]? = some v from fun k hk => ⟨vs[k]'(by omega), List.getElem?_eq_getElem (by omega)⟩)
  obtain ⟨E, hE⟩ : ∃ E, refE false vs = E := ⟨_, rfl⟩
  rw [hE] at HY HNo ⊢
  clear hV hS hE hn
  go_enter Try.func61, Try.ntmps61
  go_wp2_with fail
  go_loopw [9] (fun i wr => ∃ (k : Nat), k ≤ n ∧ i = .int .i64 k ∧ Hid (∀ t v, t < k → vs[t]? = some v → (v.p == none) = false) ∧ Below w.heap.size w wr) (fun i _ => n - (intOf i).toNat)
  case atStart => exact ⟨0, Nat.zero_le _, rfl, Lib.hid (fun t v ht => by omega), Below.refl _ _⟩
  case round =>
    obtain ⟨k, hk, rfl, HN, bw⟩ := hrel
    by_cases hlt : k < n
    · obtain ⟨v, hv⟩ := HG.out k hlt
      obtain ⟨F, hF⟩ := HS.out k v hv
      obtain ⟨ea, e1, e2, c0, c1, c2, c3, c4, c5, c6, c7, c8⟩ := (HV.out.on bw).2 k v hv
      clear e2
      have ps := fun W (h : Sv W v F) => svSame h
      have k0 : (0 : Int) ≤ k := by omega
      have k1 : (k : Int) < n := by omega
      have hF1 := (hF.on bw).on ((Below.refl _ wr).alloc (Nat.le_refl _) (.cells v.L.toArray 30))
      have DB := Blk.new wr v.L 30
      have bz := bw.alloc bw.size (.cells v.L.toArray 30)
      have Hv := Lib.hid hv
      cases hp : (v.p == none)
      · simp only [hp] at ps
        have HK : Hid (∀ t v, t < k + 1 → vs[t]? = some v → (v.p == none) = false) := Lib.hid (fun t u ht hu => by
          rcases Nat.lt_or_ge t k with h | h
          · exact HN.out t u h hu
          · rw [show t = k by omega, hv] at hu
            injection hu with hu
            rw [← hu]; exact hp)
        clear hv hp hF HN
        obtain ⟨d0, d1, d2, d3, d4, d5, d6, d7, d8⟩ := Vbx.cells DB
        clear DB
        go_wp2_with fail
        with_reducible refine (ps _ hF1).mono ?_
        rintro e w1 ⟨rfl, hb⟩
        go_wp2_with fail
        go_roundw
        case rel => exact ⟨k + 1, by omega, by go_num, HK, bz.trans (hb.mono bz.size)⟩
        case measure => simp [intOf]; omega
      · simp only [hp] at ps
        have HE := Lib.hid (HY.out k v hv hp)
        clear hv hp hF HN
        obtain ⟨d0, d1, d2, d3, d4, d5, d6, d7, d8⟩ := Vbx.cells DB
        clear DB
        go_wp2_with fail
        with_reducible refine (ps _ hF1).mono ?_
        rintro e w1 ⟨rfl, hb⟩
        go_wp2_with fail
        go_ret
        exact ⟨by rw [HE.out]; rfl, bz.trans (hb.mono bz.size)⟩
    · obtain rfl : k = n := by omega
      have HE := Lib.hid (HNo.out HN.out)
      go_wp2_with fail
      go_ret
      exact ⟨by rw [HE.out]; rfl, bw⟩
set_option maxRecDepth 100000 in
set_option maxHeartbeats 8000000 in
theorem refused_true (hn : vs.length = n) (h8 : n ≤ 100) (hV : VLs w ad vs) (hS : ∀ v ∈ vs, ∃ F, Sv w v F) : Calls Try.prog 61 #[.bool true, .slice (some ad) n c] w (Ans w (.int .i64 (refE true vs))) := by
  have HV := Lib.hid hV
  have HS := Lib.hid (show ∀ k v, vs[k]? = some v → ∃ F, Sv w v F from fun k v h => hS v (List.mem_of_getElem? h))
  have HY := Lib.hid (show ∀ (k : Nat) (v : Vu), vs[k]? = some v → (v.p == none) = true → refE true vs = 1 from fun k v h hp => any_yes h hp true)
  have HNo := Lib.hid (fun h => any_no hn h true)
  have HG := Lib.hid (show ∀ k, k < n → ∃ v, vs[k]? = some v from fun k hk => ⟨vs[k]'(by omega), List.getElem?_eq_getElem (by omega)⟩)
  obtain ⟨E, hE⟩ : ∃ E, refE true vs = E := ⟨_, rfl⟩
  rw [hE] at HY HNo ⊢
  clear hV hS hE hn
  go_enter Try.func61, Try.ntmps61
  go_wp2_with fail
  go_loopw [9] (fun i wr => ∃ (k : Nat), k ≤ n ∧ i = .int .i64 k ∧ Hid (∀ t v, t < k → vs[t]? = some v → (v.p == none) = false) ∧ Below w.heap.size w wr) (fun i _ => n - (intOf i).toNat)
  case atStart => exact ⟨0, Nat.zero_le _, rfl, Lib.hid (fun t v ht => by omega), Below.refl _ _⟩
  case round =>
    obtain ⟨k, hk, rfl, HN, bw⟩ := hrel
    by_cases hlt : k < n
    · obtain ⟨v, hv⟩ := HG.out k hlt
      obtain ⟨F, hF⟩ := HS.out k v hv
      obtain ⟨ea, e1, e2, c0, c1, c2, c3, c4, c5, c6, c7, c8⟩ := (HV.out.on bw).2 k v hv
      clear e2
      have ps := fun W (h : Sv W v F) => svSame h
      have k0 : (0 : Int) ≤ k := by omega
      have k1 : (k : Int) < n := by omega
      have hF1 := (hF.on bw).on ((Below.refl _ wr).alloc (Nat.le_refl _) (.cells v.L.toArray 30))
      have DB := Blk.new wr v.L 30
      have bz := bw.alloc bw.size (.cells v.L.toArray 30)
      have Hv := Lib.hid hv
      cases hp : (v.p == none)
      · simp only [hp] at ps
        have HK : Hid (∀ t v, t < k + 1 → vs[t]? = some v → (v.p == none) = false) := Lib.hid (fun t u ht hu => by
          rcases Nat.lt_or_ge t k with h | h
          · exact HN.out t u h hu
          · rw [show t = k by omega, hv] at hu
            injection hu with hu
            rw [← hu]; exact hp)
        clear hv hp hF HN
        obtain ⟨d0, d1, d2, d3, d4, d5, d6, d7, d8⟩ := Vbx.cells DB
        clear DB
        go_wp2_with fail
        with_reducible refine (ps _ hF1).mono ?_
        rintro e w1 ⟨rfl, hb⟩
        go_wp2_with fail
        go_roundw
        case rel => exact ⟨k + 1, by omega, by go_num, HK, bz.trans (hb.mono bz.size)⟩
        case measure => simp [intOf]; omega
      · simp only [hp] at ps
        have HE := Lib.hid (HY.out k v hv hp)
        clear hv hp hF HN
        obtain ⟨d0, d1, d2, d3, d4, d5, d6, d7, d8⟩ := Vbx.cells DB
        clear DB
        go_wp2_with fail
        with_reducible refine (ps _ hF1).mono ?_
        rintro e w1 ⟨rfl, hb⟩
        go_wp2_with fail
        go_ret
        exact ⟨by rw [HE.out]; rfl, bz.trans (hb.mono bz.size)⟩
    · obtain rfl : k = n := by omega
      have HE := Lib.hid (HNo.out HN.out)
      go_wp2_with fail
      go_ret
      exact ⟨by rw [HE.out]; rfl, bw⟩
theorem refused_is (fit : Bool) (hn : vs.length = n) (h8 : n ≤ 100) (hV : VLs w ad vs) (hS : ∀ v ∈ vs, ∃ F, Sv w v F) : Calls Try.prog 61 #[.bool fit, .slice (some ad) n c] w (Ans w (.int .i64 (refE fit vs))) := by
  cases fit
  · exact refused_false hn h8 hV hS
  · exact refused_true hn h8 hV hS
end
end Go.Proofs.Ytfelmkkkaphkpaa
