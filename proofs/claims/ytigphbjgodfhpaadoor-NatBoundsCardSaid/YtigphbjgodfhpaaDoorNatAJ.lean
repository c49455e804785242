/-
  Layer 2, walks, part twenty-nine: Text.
-/
import Derived.Laws.IdiomStrings
import Derived.Lib.OwnBridge
import Derived.Test.YtigphbjgodfhpaaDoorNatAI
namespace Go.Proofs.YtigphbjgodfhpaaDoor
open Go.RowKit Go.Shelf Go.Sort
set_option linter.unusedVariables false
attribute [local go_sem] Oper.semAt_some

theorem digits_stops (n : Nat) (hn : 1 ≤ n) (A : Option Addr) (c : Nat) (l : List Int) (Bn : Nat) (w : World) (hBn : Bn < w.heap.size) (hB : w.cell? ⟨Bn, 0, none⟩ = some (.slice A l.length c)) (h : Nums w w.heap.size A c l) (hl : Lim 18446744073709551616 l) (nl : Normal l) (hlen : l.length ≤ 4096) :
    StopsT Fence.wide n Tryd.prog 87 #[.pointer (some ⟨Bn, 0, none⟩)] encd 39 (fun ys => dv ys = digs (val 18446744073709551616 l).toNat) (digs (val 18446744073709551616 l).toNat).length w :=
  fun lp J W hW hJ hY h0 => digits1 n hn A c l Bn lp W ((hW.cell (p := ⟨Bn, 0, none⟩) hBn).trans hB) ((h.below hW).more hW.size) hl nl hlen J hJ hY h0

def TextPost (v : Int) (w : World) (e : Ending) (w' : World) : Prop :=
  e = .returned (.tuple #[.string ⟨(txt v.toNat).toArray⟩, .int .i64 0]) ∧ Below w.heap.size w w'

set_option maxHeartbeats 1000000 in
theorem Text_long (A : Option Addr) (c : Nat) (l : List Int) (w : World) (h : Nums w w.heap.size A c l) (hl : Lim 18446744073709551616 l) (hlen : 4096 < (norm l).length) :
    Calls Tryd.prog 43 #[.slice A l.length c] w fun e w' => e = .returned (.tuple #[.string ⟨#[]⟩, .int .i64 2]) ∧ w = w' := by
  go_enter Tryd.func43, Tryd.ntmps43
  go_wp2_with (go_at_call 51; ((with_reducible refine (taken_long A c l _ _ h hl hlen).mono ?_); rintro e w' ⟨rfl, rfl⟩))
  go_ret2
  exact ⟨rfl, rfl⟩

set_option maxHeartbeats 1000000 in
theorem Text_zero (A : Option Addr) (c : Nat) (l : List Int) (w : World) (h : Nums w w.heap.size A c l) (hl : Lim 18446744073709551616 l) (hz : norm l = []) :
    Calls Tryd.prog 43 #[.slice A l.length c] w (TextPost (val 18446744073709551616 l) w) := by
  have hv : val 18446744073709551616 l = 0 := by rw [← norm_val, hz, val_nil]
  rw [hv]
  have hk := taken_any A c l w _ h hl (by rw [hz]; simp)
  have hk2 : Calls Tryd.prog 51 #[.slice A l.length c] w fun e w' => ∃ A' c', e = .returned (.tuple #[.slice A' 0 c', .int .i64 0]) ∧ w = w' := by
    refine hk.mono ?_
    rintro e w' ⟨A', c', rfl, ht, rfl⟩
    exact ⟨A', c', by rw [hz]; rfl, rfl⟩
  clear hk hz
  go_enter Tryd.func43, Tryd.ntmps43
  go_wp2_with (go_at_call 51; ((with_reducible refine hk2.mono ?_); rintro e w' ⟨A', c', rfl, rfl⟩))
  go_ret2
  exact ⟨rfl, Below.refl _ _⟩

def encb (d : Dgt) : Value := .int .u8 (48 + d.1)

/-- what has been gathered -/
def Gath (B : Nat) (w : World) (pre : List Dgt) (W : World) : Prop :=
  (∃ v, Boxed W B 66 v ∧ W.ownsRow B 5 1 v pre.length (pre.map encb)) ∧ Below B w W

theorem gath_own (B : Nat) (w : World) (hB : w.heap.size = B) : OwnT (B + 2) 39 (Gath B w) := by
  rintro s X Y row ⟨⟨v, hv, hr⟩, hb⟩ hg hrow
  have hne : ∀ g c t z, t ≠ 39 → X.heap[g]? = some (.cells c t z) → some g ≠ row := fun g c t z ht hk e => by
    obtain ⟨_, o, h1, h2⟩ := hrow g e.symm
    rw [hk] at h1
    cases h1
    rcases h2 with h2 | ⟨c', z', h2⟩
    · cases h2
    · cases h2
      exact ht rfl
  refine ⟨⟨v, hv.kept hg (hne _ _ _ _ (by decide) hv), hr.kept hg ?_⟩, hb.grown hg (by have := hb.size; omega) (fun k e => by have := (hrow k e).1; omega)⟩
  rcases hr.2 with ⟨rfl, _⟩ | ⟨g, cap, cur, rfl, _, hgb, _⟩
  · exact .inl rfl
  · exact .inr (fun e => hne _ _ _ _ (by decide) hgb e)

theorem info_byte : (Tryd.prog.info? 5).map (fun i => (i.zero, i.size, i.bytes)) = some (some (.int .u8 0), 1, 1) := by kernel_rfl

theorem gath_keeps {W w1 : World} {B k b : Nat} {v v' u : Value} {xs : List Value} {tmp : Obj} (hrow : W.ownsRow B 5 1 v k xs) (hgrow : (W.alloc tmp).grownBy w1 v.ownBlock) (hv : Boxed w1 b 66 u) : KeepsT 39 W (w1.setCell ⟨b, 0, none⟩ v') := by
  refine ((KeepsT.grown (World.grownBy_alloc W tmp none) (fun r e => by cases e)).trans (KeepsT.grown hgrow (fun r e c z hk => ?_))).trans (KeepsT.grown (grownBy_setCell' w1 b v') (fun r e c z hk => ?_))
  · rcases (hrow.alloc tmp).2 with ⟨rfl, _⟩ | ⟨g, cap, cur, rfl, _, hgb, _⟩
    · simp [Value.ownBlock] at e
    · obtain rfl : g = r := by simpa [Value.ownBlock] using e
      rw [hgb] at hk
      injection hk with hk
      injection hk with _ hk
      exact absurd hk (by decide)
  · cases e
    have := (show w1.heap[b]? = _ from hv).symm.trans hk
    injection this with hk
    injection hk with _ hk
    exact absurd hk (by decide)

theorem digs_len78 {l : List Int} (hl : Lim 18446744073709551616 l) (hlen : l.length ≤ 4096) : (digs (val 18446744073709551616 l).toNat).length ≤ 81920 := by
  obtain ⟨h0, h1⟩ := val_bound (b := 18446744073709551616) (by omega) hl
  have h2 : 18446744073709551616 ^ l.length ≤ (10 ^ 20) ^ l.length := Nat.pow_le_pow_left (by decide) _
  rw [← Nat.pow_mul] at h2
  have h3 : ((18446744073709551616 ^ l.length : Nat) : Int) = 18446744073709551616 ^ l.length := Int.natCast_pow _ _
  have h4 := digs_len (v := (val 18446744073709551616 l).toNat) (n := 20 * l.length) (by rw [← h3] at h1; omega)
  omega

/-- the bytes of a text, and the digits that were gathered -/
theorem txt_bytes {V : Int} {ys : List Dgt} (h : dv ys = digs V.toNat) (hp : ys ≠ []) : (ys.map fun d => 48 + d.1).reverse = (txt V.toNat).map fun b => (b.toNat : Int) := by
  have hne : V.toNat ≠ 0 := fun e => by
    rw [e, digs_zero] at h
    exact hp (List.map_eq_nil_iff.1 h)
  unfold txt
  rw [if_neg hne, ← h, List.map_reverse]
  congr 1
  unfold dv
  rw [List.map_map, List.map_map]
  apply List.map_congr_left
  intro d _
  exact (chr_toNat d.2.1 d.2.2).symm

/-- what Reverse leaves -/
def Turned (B g D : Nat) (u : Value) (w : World) (bs : List UInt8) (e : Ending) (w' : World) : Prop :=
  e = .returned (.tuple #[]) ∧ Below B w w' ∧ Boxed w' B 66 u ∧ (∀ j (hj : j < bs.length), w'.cell? ((⟨g, 0, none⟩ : Addr).add j) = some (.int .u8 (bs[j].toNat : Int))) ∧ w'.heap[D]? = some (.deferred (some []))

theorem turned_any {V : Int} {ys : List Dgt} {B D : Nat} {v : Value} {w W : World} (hys : dv ys = digs V.toNat) (hp : ys ≠ []) (hlen : ys.length ≤ 1000000) (hv : Boxed W B 66 v) (hrow : W.ownsRow B 5 1 v ys.length (ys.map encb))
    (hB : Below B w W) (hK : W.heap[D]? = some (.deferred (some []))) : ∃ g cap, v = .slice (some ⟨g, 0, none⟩) ys.length cap ∧
      Calls Tryd.prog 68 #[.slice (some ⟨g, 0, none⟩) ys.length cap] W (Turned B g D v w (txt V.toNat)) := by
  have hl : ys.length ≠ 0 := fun e => hp (List.eq_nil_of_length_eq_zero e)
  have hm : ys.map encb = (ys.map fun d => 48 + d.1).map encB := by rw [List.map_map]; rfl
  have hr2 := hrow
  rw [hm] at hr2
  have hnot := hv.not_row (by decide) hrow
  obtain ⟨g, cap, e1, hb, hg, h1, h2, h3, hH⟩ := Lib.holds_of_ownsRow hr2 (by
    rintro rfl
    rcases hrow.2 with ⟨_, h0⟩ | ⟨_, _, _, e, _⟩
    · exact hl h0
    · cases e)
  subst e1
  refine ⟨g, cap, rfl, ?_⟩
  have hgD : g ≠ D := by
    rintro rfl
    rcases hrow.2 with ⟨e, _⟩ | ⟨g', _, _, e, _, h, _⟩
    · cases e
    · cases e
      rw [h] at hK
      cases hK
  have hgB : g ≠ B := fun e => hnot (by rw [← e]; rfl)
  have hrev := reverse_arr g cap (ys.map fun d => 48 + d.1).toArray W hH (by simp; omega) (by simp; omega)
  have hsz : (ys.map fun d => 48 + d.1).toArray.size = ys.length := by simp
  rw [hsz] at hrev
  refine hrev.mono ?_
  rintro e w' ⟨rfl, n, rfl⟩
  have hat : ∀ k, g ≠ k → (putRow encB (Sort.ahead W n) g 0 (ys.map fun d => 48 + d.1).toArray.reverse).heap[k]? = W.heap[k]? := fun k hk => by
    simp [putRow, mapBlock, Sort.ahead, Array.getElem?_modify, hk]
  have hHr := holds_putRow encB (Sort.ahead W n) g 0 _ (ys.map fun d => 48 + d.1).toArray.reverse (holds_ahead encB W n g 0 _ hH) (by simp)
  refine ⟨rfl, Lib.below_putRow hB hb, (hat _ hgB).trans hv, fun j hj => ?_, (hat _ hgD).trans hK⟩
  have htx := txt_bytes hys hp
  have hlt : (txt V.toNat).length = ys.length := by
    have := congrArg List.length htx
    simpa using this.symm
  have hc := (hHr j (by simp; omega)).1
  rw [add_at, hc]
  unfold encB
  congr 2
  rw [List.reverse_toArray, htx]
  simp [getElem!_pos, hj]

theorem conv_len {w : World} {g cap n : Nat} {bs : List UInt8} (hn : bs.length = n) (hcs : ∀ j (hj : j < bs.length), w.cell? ((⟨g, 0, none⟩ : Addr).add j) = some (.int .u8 (bs[j].toNat : Int))) :
    (convert 66 9 (.slice (some ⟨g, 0, none⟩) n cap)).run Tryd.prog w = .ok (.string ⟨bs.toArray⟩) w := by
  subst hn
  exact run_convert_bytes_back (P := Tryd.prog) w 66 9 5 ⟨g, 0, none⟩ cap bs Tryd.underlying66 Tryd.underlying5 Tryd.underlying9 hcs

set_option maxRecDepth 100000 in
set_option maxHeartbeats 4000000 in
theorem Text_pos (A : Option Addr) (c : Nat) (l : List Int) (w : World) (h : Nums w w.heap.size A c l) (hl : Lim 18446744073709551616 l) (hlen : (norm l).length ≤ 4096) (hz : norm l ≠ []) :
    Calls Tryd.prog 43 #[.slice A l.length c] w (TextPost (val 18446744073709551616 l) w) := by
  have e1 := norm_val 18446744073709551616 l
  rw [← e1]
  clear e1
  have hz1 : 0 < (norm l).length := List.length_pos_iff.2 hz
  have hn0 := norm_lim hl
  have hn1 := norm_normal l
  refine (callsIn_wide (n := 3)).1 ?_
  refine callsIn_of_wp_marks Tryd.func43 rfl trivial ?_ rfl
  simp only [Tryd.ntmps43, List.size_toArray, List.length_cons, List.length_nil, Nat.reduceAdd, Nat.reduceSub, Array.replicate_succ, Array.replicate_zero, List.push_toArray, List.append_toArray, List.nil_append, List.cons_append]
  gi_wp2_with (first
    | (refine ⟨trivial, ?_⟩; gi_at_call 51; refine (callsIn_wide.2 (taken_any A c l _ _ h hl hlen)).mono ?_; rintro e w' ⟨A', c', rfl, ht, rfl⟩; have hn := ht.nums h)
    | (refine ⟨trivial, ?_⟩; gi_at_call 67; refine (callsIn_wide.2 (digits_any A' (norm l).length c' _)).mono ?_; rintro e w' ⟨rfl, rfl⟩))
  obtain ⟨i0, hi, hz0, hz1, hz2⟩ := info_parts info_byte
  have bO := Boxed.new w 66 (.slice none 0 0)
  have bN := Boxed.new (w.alloc (.cells #[.slice none 0 0] 66)) 22 (.slice A' (norm l).length c')
  rw [World.size_alloc] at bN
  have hB0 : Below w.heap.size w ((w.alloc (.cells #[.slice none 0 0] 66)).alloc (.cells #[.slice A' (norm l).length c'] 22)) := ((Below.refl _ w).alloc (Nat.le_refl _) _).alloc (by simp) _
  have hN := digs_len78 hn0 hlen
  refine rangeFunc_T rfl (by omega) (gf := 87) (lb := #[.pointer (some ⟨w.heap.size + 1, 0, none⟩)]) rfl trivial (enters_of Tryd.func87 (by kernel_rfl) rfl)
    (digits_stops 2 (by omega) A' c' (norm l) (w.heap.size + 1) _ (by simp) bN.cell ((hn.below hB0).more (by simp; omega)) hn0 hn1 hlen) (Below.refl _ _) (fun _ => rfl)
    (Gath w.heap.size w) (by simp only [World.size_alloc]; exact gath_own w.heap.size w rfl) ⟨⟨_, bO.alloc _, World.ownsRow_nil _ _ _ _⟩, hB0⟩
    (fun x => { tmps := #[.slice A' (norm l).length c', undef, .string { data := #[] }, .int .i64 0,
          .int .i64 0, .pointer (some ⟨w.heap.size, 0, none⟩), .int .u8 (48 + x.1),
          .tuple #[.slice A' (norm l).length c', .int .i64 0], .slice A l.length c,
          .tuple #[.slice A' (norm l).length c', .int .i64 0], .slice A' (norm l).length c',
          .int .i64 0, .int .i64 0, .bool false, undef, .slice A' (norm l).length c',
          .int .i64 ((norm l).length : Nat), .bool false, .slice A' (norm l).length c',
          .func (.func 87) #[] #[.pointer (some ⟨w.heap.size + 1, 0, none⟩)], .int .u8 (48 + x.1), undef,
          undef, undef, undef, undef, undef, undef, undef], defers := [] }) ?assign ?body ?done
  case assign =>
    intro l x W K hK
    unfold encd
    gi_wp2
    exact hK
  case body =>
    rintro lp pre x W ⟨⟨v, hv, hrow⟩, hB⟩ hlt
    have hc := hv.cell
    have hpl : pre.length + 1 ≤ 81920 := by omega
    clear bO bN hn h ht hN
    gi_wp2_with (gi_at_builtin; refine wpListIn_append_own _ rfl _ _ 66 rfl w.heap.size 5 i0 (.int .u8 0) 1 1 Tryd.underlying66 hi hz0 hz1 hz2 rfl (by decide) _ _ _ rfl (hrow.alloc _) ⟨W.heap.size, 0, none⟩ 1 1 [encb x] rfl rfl (cell_one_new _ _ _) (by simp [Value.oneCell', encb]) (by unfold maxLen; omega) (by omega) (by have := hB.size; simp; omega) ?_; intro v' w1 hown' hgrow _; obtain ⟨g', cap', rfl⟩ := ownsRow_succ hown'; obtain ⟨hv1, hv2, hr2, hk2, hb2⟩ := hv.appended (by decide) hrow hB.size (Nat.le_refl _) hown' hgrow; have hc1 := hv1.cell; have hf1 := hv1.frozen)
    exact ⟨hk2.from _, gath_keeps hrow hgrow hv1, ⟨⟨_, hv2, by simpa using hr2⟩, hB.trans hb2⟩⟩
  case done =>
    rintro D ys W hD hys ⟨⟨v, hv, hrow⟩, hB⟩ hK
    have hc := hv.cell
    have hpos := normal_pos hn0 hn1 hz
    have hyl : ys.length ≤ 81920 := by
      have := congrArg List.length hys
      rw [dv_length] at this
      omega
    have hyp : ys ≠ [] := fun e => by
      subst e
      have := digs_nil hys.symm
      omega
    obtain ⟨g, cap, rfl, hT⟩ := turned_any hys hyp (by omega) hv hrow hB hK
    have htl : (txt (val 18446744073709551616 (norm l)).toNat).length = ys.length := by
      have := congrArg List.length (txt_bytes hys hyp)
      simpa using this.symm
    gi_wp2_with (refine ⟨trivial, ?_⟩; gi_at_call 68; refine (callsIn_wide.2 hT).mono ?_; rintro e w' ⟨rfl, hB', hv', hcs, hK'⟩; have hc' := hv'.cell; have hconv := conv_len (cap := cap) htl hcs)
    refine ⟨by simp, .inl ⟨_, _, rfl, run_takeDeferred hK', ?_⟩⟩
    exact ⟨_, results_tmp2 rfl _ _ _, rfl, hB'.trans (belowK_b (w := w) (Nat.le_refl _) _ D _ _ (by simp at hD; omega) hK' rfl rfl)⟩
theorem Text_any (A : Option Addr) (c : Nat) (l : List Int) (w : World) (h : Nums w w.heap.size A c l) (hl : Lim 18446744073709551616 l) (hlen : (norm l).length ≤ 4096) :
    Calls Tryd.prog 43 #[.slice A l.length c] w (TextPost (val 18446744073709551616 l) w) := by
  by_cases hz : norm l = []
  · exact Text_zero A c l w h hl hz
  · exact Text_pos A c l w h hl hlen hz
end Go.Proofs.YtigphbjgodfhpaaDoor
