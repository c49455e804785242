/-
  Layer 7, walks: a map whose keys are places, counted.
-/
import Derived.Test.YtfelmkkkaphkpaaKVwS
import Derived.Maps.Own
import Derived.Maps.OwnOps
import Derived.Maps.Views
import Derived.DeepKeys4
namespace Go.Proofs.Ytfelmkkkaphkpaa
open Go.RowKit Go.Maps Go.WideMaps Go.MapKept
set_option linter.unusedVariables false
set_option linter.unusedSimpArgs false

theorem kOut : laidOutB Try.prog = true := by kernel_rfl
theorem kRow : (28 : TypeId) < Try.prog.types.size := of_decide_eq_true (by kernel_rfl)
theorem kWide : (match Try.prog.underlying 28 with | some (.array _ _) | some (.struct _) => true | _ => false) = true := by rw [Try.underlying28]
set_option maxRecDepth 100000 in
theorem kLaw : Keyed Try.prog 28 := Keyed.of_law (deep_law_laid kOut (m := 2) (by omega) kRow (by kernel_rfl) kWide)
theorem kZero (w : World) : (zeroValue 3).run Try.prog w = .ok (.int .i64 0) w := by kernel_rfl
abbrev kV (x y : Int) : Value := .agg #[.int .i64 x, .int .i64 y]
/-- a number of a place -/
def rg (x : Int) : Prop := 0 ≤ x ∧ x ≤ 4611686018427387904
set_option maxRecDepth 100000 in
theorem kSome {x y : Int} (hx : rg x) (hy : rg y) : ∃ l, keyOf Try.prog 28 (kV x y) = some l := by
  have wx : (Lit.int .i64 x).wf = true := by have h1 := hx.1; have h2 := hx.2; simp [Lit.wf, IntKind.min, IntKind.max, IntKind.bits, IntKind.signed]; omega
  have wy : (Lit.int .i64 y).wf = true := by have h1 := hy.1; have h2 := hy.2; simp [Lit.wf, IntKind.min, IntKind.max, IntKind.bits, IntKind.signed]; omega
  have c1 : Try.prog.cellsOf 28 = 2 := by kernel_rfl
  have c2 : Try.prog.cellsOf 3 = 1 := by kernel_rfl
  have c3 : Try.prog.keyType 28 = true := by kernel_rfl
  obtain ⟨n, hn⟩ : ∃ n, Try.prog.types.size = n + 1 := ⟨_, (by kernel_rfl : Try.prog.types.size = (Try.prog.types.size - 1) + 1)⟩
  have c4 : (kV x y).formed Try.prog 28 = true := by
    simp [Value.formed, c1, kV]
  unfold keyOf
  simp only [Try.underlying28, c3, c4, Bool.and_self, if_true]
  have e : Try.prog.keyLits (Try.prog.types.size + 1) 28 (kV x y).cells.toList = some [.int .i64 x, .int .i64 y] := by
    rw [hn]
    simp [Program.keyLits, Try.underlying28, Try.underlying3, c1, c2, wx, wy, Value.cells, List.range_succ]
  rw [e]
  exact ⟨_, rfl⟩

/-- block b is a map: of each place what f says -/
def Mq (W : World) (b n : Nat) (f : Int → Int → Int) : Prop :=
  ∃ es clock, W.heap[b]? = some (.map es clock) ∧ (∀ e ∈ es.toList, ∃ x y, rg x ∧ rg y ∧ e.key = kV x y ∧ e.val = .int .i64 (f x y) ∧ 0 < f x y) ∧
    (∀ x y, rg x → rg y → f x y ≠ 0 → ∃ e ∈ es.toList, e.key = kV x y) ∧
    (∀ (i j : Nat) (a c : MapEntry), es.toList[i]? = some a → es.toList[j]? = some c → a.born = c.born ∨ a.key = c.key → i = j) ∧ (∀ e ∈ es.toList, e.born < clock) ∧ (∀ x y, 0 ≤ f x y ∧ f x y ≤ n)
def incr (f : Int → Int → Int) (x y : Int) : Int → Int → Int := fun a c => if a = x ∧ c = y then f x y + 1 else f a c
theorem kV_inj {x y x' y' : Int} (h : kV x y = kV x' y') : x = x' ∧ y = y' := by simpa [kV] using h
section
variable {W W' : World} {b n : Nat} {f : Int → Int → Int}
theorem Mq.lt (h : Mq W b n f) : b < W.heap.size := by obtain ⟨es, clock, h, _⟩ := h; exact lt_of_block h
theorem Mq.made (W : World) : Mq (W.alloc (.map #[] 0)) W.heap.size 0 (fun _ _ => 0) :=
  ⟨#[], 0, heap_alloc_new W _, by simp, fun x y _ _ h => absurd rfl h, by simp, by simp, fun _ _ => by simp⟩
theorem Mq.kept (h : Mq W b n f) {row : Option Nat} (hg : W.grownBy W' row) (hne : some b ≠ row) : Mq W' b n f := by
  obtain ⟨es, clock, h1, h2⟩ := h
  exact ⟨es, clock, (hg.block b (lt_of_block h1) hne).trans h1, h2⟩
theorem Mq.on (h : Mq W b n f) (hb : Below W.heap.size W W') : Mq W' b n f := h.kept (grown_below hb none) (by simp)
theorem Mq.drew (h : Mq W b n f) : Mq W.drew b n f := h
theorem Mq.mono (h : Mq W b n f) {m : Nat} (hm : n ≤ m) : Mq W b m f := by
  obtain ⟨es, clock, h1, h2, h3, h4, h5, h6⟩ := h
  exact ⟨es, clock, h1, h2, h3, h4, h5, fun x y => ⟨(h6 x y).1, by have := (h6 x y).2; omega⟩⟩
theorem Mq.keys (h : Mq W b n f) {es : Array MapEntry} {clock : Nat} (hb : W.heap[b]? = some (.map es clock)) : ∀ e ∈ es.toList, ∃ l, keyOf Try.prog 28 e.key = some l := by
  obtain ⟨es', clock', h1, h2, _⟩ := h
  rw [hb] at h1
  cases h1
  intro e he
  obtain ⟨x, y, hx, hy, hk, _⟩ := h2 e he
  rw [hk]
  exact kSome hx hy
set_option maxRecDepth 100000 in
theorem Mq.look (h : Mq W b n f) {x y : Int} (hx : rg x) (hy : rg y) : (Instr.lookup 116 (.map (some b)) (kV x y) false).run Try.prog W = .ok (.int .i64 (f x y)) W := by
  have hk0 := h
  obtain ⟨es, clock, hb, h2, h3, h4, h5, h6⟩ := h
  have hks := hk0.keys hb
  obtain ⟨l, hl⟩ := kSome hx hy
  rcases kLaw.find W hl es.toList hks with ⟨hf, hno⟩ | ⟨j, e, hf, hj, hkey⟩
  · have hz : f x y = 0 := by
      rcases Int.lt_or_le 0 (f x y) with h0 | h0
      · obtain ⟨e, he, hk⟩ := h3 x y hx hy (by omega)
        exact absurd hk (hno e he)
      · have := (h6 x y).1; omega
    rw [hz]
    simp [Instr.lookup, run_underlying Try.underlying116, MapKept.run_getObj_map hb, kLaw.check W _ hl, hf, kZero, Result.andThen]
  · have hmem : e ∈ es.toList := List.mem_of_getElem? hj
    obtain ⟨x', y', _, _, hk, hv, _⟩ := h2 e hmem
    rw [hkey] at hk
    obtain ⟨rfl, rfl⟩ := kV_inj hk
    simp [Instr.lookup, run_underlying Try.underlying116, MapKept.run_getObj_map hb, kLaw.check W _ hl, hf, hv, Result.andThen]
theorem incr_same (f : Int → Int → Int) (x y : Int) : incr f x y x y = f x y + 1 := by simp [incr]
theorem incr_other {f : Int → Int → Int} {x y a c : Int} (h : ¬ (a = x ∧ c = y)) : incr f x y a c = f a c := by simp only [incr, if_neg h]
theorem incr_bd (h6 : ∀ x y, 0 ≤ f x y ∧ f x y ≤ n) (x y : Int) : ∀ a c, 0 ≤ incr f x y a c ∧ incr f x y a c ≤ ((n + 1 : Nat) : Int) := fun a c => by
  unfold incr
  split
  · have := h6 x y; omega
  · have := h6 a c; omega
theorem find_born {es : Array MapEntry} {j : Nat} {e : MapEntry} (hj : es.toList[j]? = some e) (hu : ∀ (i k : Nat) (a c : MapEntry), es.toList[i]? = some a → es.toList[k]? = some c → a.born = c.born ∨ a.key = c.key → i = k) :
    es.findIdx? (fun x => (x.born : Int) == (e.born : Int)) = some j := by
  have hlt : j < es.toList.length := by
    rcases Nat.lt_or_ge j es.toList.length with h | h
    · exact h
    · rw [List.getElem?_eq_none h] at hj; cases hj
  rw [List.getElem?_eq_getElem hlt] at hj
  injection hj with hj
  obtain ⟨L⟩ := es
  rw [List.findIdx?_toArray, List.findIdx?_eq_some_iff_getElem]
  refine ⟨hlt, by rw [hj]; simp, fun i hi => ?_⟩
  have hil : i < L.length := Nat.lt_trans hi hlt
  simp only [Bool.not_eq_true, beq_eq_false_iff_ne, ne_eq]
  intro e1
  have e2 : L[i].born = e.born := by exact_mod_cast e1
  have := hu i j L[i] e (List.getElem?_eq_getElem hil) (by rw [List.getElem?_eq_getElem hlt, hj]) (.inl e2)
  omega
theorem Mq.store {V : World} {es : Array MapEntry} {clock j : Nat} {e0 : MapEntry} {x y : Int} (hx : rg x) (hy : rg y) (hb : V.heap[b]? = some (.map es clock)) (hj : es.toList[j]? = some e0) (hk : e0.key = kV x y)
    (hB : ∀ (i : Nat) (e : MapEntry), es.toList[i]? = some e → i ≠ j → ∃ a c, rg a ∧ rg c ∧ e.key = kV a c ∧ e.val = .int .i64 (f a c) ∧ 0 < f a c)
    (hC : ∀ a c, rg a → rg c → f a c ≠ 0 → ∃ e ∈ es.toList, e.key = kV a c)
    (hu : ∀ (i k : Nat) (a c : MapEntry), es.toList[i]? = some a → es.toList[k]? = some c → a.born = c.born ∨ a.key = c.key → i = k) (hE : ∀ e ∈ es.toList, e.born < clock) (h6 : ∀ x y, 0 ≤ f x y ∧ f x y ≤ n) :
    ∃ W2, (Instr.entryStore 116 (.map (some b)) (.int .i64 (e0.born : Int)) (.int .i64 (f x y + 1))).run Try.prog V = .ok () W2 ∧ Mq W2 b (n + 1) (incr f x y) ∧ V.grownBy W2 (some b) := by
  have hfi := find_born hj hu
  refine ⟨{ V with heap := V.heap.setIfInBounds b (.map (es.modify j fun e => { e with val := .int .i64 (f x y + 1) }) clock) }, ?_, ?_, ⟨rfl, rfl, rfl, by simp, fun i _ hi => (heap_set hb).2 i (fun e => hi (by rw [e]))⟩⟩
  · simp [Instr.entryStore, MapKept.run_getObj_map hb, asInt, asIntOf, hfi, MapKept.run_setObj_map _ hb, Result.andThen]
  · have get : ∀ (i : Nat) (e : MapEntry), (es.modify j fun e => { e with val := .int .i64 (f x y + 1) }).toList[i]? = some e → ∃ a, es.toList[i]? = some a ∧ e = if i = j then { a with val := .int .i64 (f x y + 1) } else a := fun i e he => by
      rw [Array.getElem?_toList, Array.getElem?_modify] at he
      rw [Array.getElem?_toList]
      cases ha : es[i]? with
      | none => rw [ha] at he; split at he <;> cases he
      | some a =>
        rw [ha] at he
        refine ⟨a, rfl, ?_⟩
        by_cases hij : i = j
        · subst hij; simp at he; rw [← he]; simp
        · rw [if_neg (fun e => hij e.symm)] at he; cases he; rw [if_neg hij]
    have put : ∀ (i : Nat) (a : MapEntry), es.toList[i]? = some a → (es.modify j fun e => { e with val := .int .i64 (f x y + 1) }).toList[i]? = some (if i = j then { a with val := .int .i64 (f x y + 1) } else a) := fun i a ha => by
      rw [Array.getElem?_toList] at ha
      rw [Array.getElem?_toList, Array.getElem?_modify, ha]
      by_cases hij : i = j
      · subst hij; simp
      · rw [if_neg (fun e => hij e.symm), if_neg hij]
    refine ⟨_, clock, (heap_set hb).1, fun e he => ?_, fun a c ha hc hf => ?_, fun i k a c hi hk2 hbk => ?_, fun e he => ?_, incr_bd h6 x y⟩
    · obtain ⟨i, hi⟩ := List.getElem?_of_mem he
      obtain ⟨a, ha, rfl⟩ := get i e hi
      by_cases hij : i = j
      · subst hij
        rw [hj] at ha
        cases ha
        rw [if_pos rfl]
        exact ⟨x, y, hx, hy, hk, by rw [incr_same], by rw [incr_same]; have := (h6 x y).1; omega⟩
      · rw [if_neg hij]
        obtain ⟨p, q, hp, hq, h1, h2, h3⟩ := hB i a ha hij
        have hne : ¬ (p = x ∧ q = y) := fun ⟨e1, e2⟩ => hij (hu i j a e0 ha hj (.inr (by rw [h1, hk, e1, e2])))
        exact ⟨p, q, hp, hq, h1, by rw [incr_other hne]; exact h2, by rw [incr_other hne]; exact h3⟩
    · by_cases hac : a = x ∧ c = y
      · obtain ⟨rfl, rfl⟩ := hac
        exact ⟨_, List.mem_of_getElem? (put j e0 hj), by rw [if_pos rfl]; exact hk⟩
      · rw [incr_other hac] at hf
        obtain ⟨e, he, hke⟩ := hC a c ha hc hf
        obtain ⟨i, hi⟩ := List.getElem?_of_mem he
        refine ⟨_, List.mem_of_getElem? (put i e hi), ?_⟩
        split <;> exact hke
    · obtain ⟨a', ha', rfl⟩ := get i a hi
      obtain ⟨c', hc', rfl⟩ := get k c hk2
      refine hu i k a' c' ha' hc' ?_
      revert hbk
      split <;> split <;> exact id
    · obtain ⟨i, hi⟩ := List.getElem?_of_mem he
      obtain ⟨a, ha, rfl⟩ := get i e hi
      have := hE a (List.mem_of_getElem? ha)
      split <;> exact this
set_option maxRecDepth 100000 in
set_option maxHeartbeats 1000000 in
/-- 'm[place]++', in its two halves -/
theorem Mq.count (h : Mq W b n f) {x y : Int} (hx : rg x) (hy : rg y) : ∃ (v : Value) (st : Int) (W1 : World), (Instr.mapEntry 116 (.map (some b)) (kV x y)).run Try.prog W = .ok (.tuple #[v, .int .i64 st]) W1 ∧ W.grownBy W1 (some b) ∧ (Instr.lookup 116 (.map (some b)) (kV x y) false).run Try.prog W1 = .ok (.int .i64 (f x y)) W1 ∧
    ∃ W2, (Instr.entryStore 116 (.map (some b)) (.int .i64 st) (.int .i64 (f x y + 1))).run Try.prog W1 = .ok () W2 ∧ Mq W2 b (n + 1) (incr f x y) ∧ W1.grownBy W2 (some b) := by
  have hk0 := h
  obtain ⟨es, clock, hb, h2, h3, h4, h5, h6⟩ := h
  have hks := hk0.keys hb
  obtain ⟨l, hl⟩ := kSome hx hy
  rcases kLaw.find W hl es.toList hks with ⟨hf, hno⟩ | ⟨j, e, hf, hj, hkey⟩
  · refine ⟨.int .i64 0, (clock : Int), { W with heap := W.heap.setIfInBounds b (.map (es.push { key := kV x y, val := .int .i64 0, born := clock }) (clock + 1)) }, ?_, ⟨rfl, rfl, rfl, by simp, fun i _ hi => (heap_set hb).2 i (fun e => hi (by rw [e]))⟩, ?_⟩
    · simp [Instr.mapEntry, run_underlying Try.underlying116, MapKept.run_getObj_map hb, kLaw.check W _ hl, hf, kZero, MapKept.run_setObj_map _ hb, Result.andThen, goInt]
    · have tl : (es.push { key := kV x y, val := .int .i64 0, born := clock }).toList = es.toList ++ [{ key := kV x y, val := .int .i64 0, born := clock }] := by simp
      have hks2 : ∀ e ∈ (es.push { key := kV x y, val := .int .i64 0, born := clock }).toList, ∃ l, keyOf Try.prog 28 e.key = some l := fun e he => by
        rw [tl] at he
        rcases List.mem_append.1 he with h | h
        · exact hks e h
        · simp at h; rw [h]; exact ⟨l, hl⟩
      have hlk : (Instr.lookup 116 (.map (some b)) (kV x y) false).run Try.prog { W with heap := W.heap.setIfInBounds b (.map (es.push { key := kV x y, val := .int .i64 0, born := clock }) (clock + 1)) } = .ok (.int .i64 (f x y)) { W with heap := W.heap.setIfInBounds b (.map (es.push { key := kV x y, val := .int .i64 0, born := clock }) (clock + 1)) } := by
        have hz : f x y = 0 := by
          rcases Int.lt_or_le 0 (f x y) with h0 | h0
          · obtain ⟨e, he, hk⟩ := h3 x y hx hy (by omega)
            exact absurd hk (hno e he)
          · have := (h6 x y).1; omega
        rw [hz]
        have hb1 : ({ W with heap := W.heap.setIfInBounds b (.map (es.push { key := kV x y, val := .int .i64 0, born := clock }) (clock + 1)) } : World).heap[b]? = some (.map (es.push { key := kV x y, val := .int .i64 0, born := clock }) (clock + 1)) := (heap_set hb).1
        generalize ({ W with heap := W.heap.setIfInBounds b (.map (es.push { key := kV x y, val := .int .i64 0, born := clock }) (clock + 1)) } : World) = V at hb1 ⊢
        rcases kLaw.find V hl _ hks2 with ⟨hf2, hno2⟩ | ⟨j, e, hf2, hj, hkey⟩
        · exact absurd rfl (hno2 { key := kV x y, val := .int .i64 0, born := clock } (by rw [tl]; simp))
        · have hv : e.val = .int .i64 0 := by
            have hmem := List.mem_of_getElem? hj
            rw [tl] at hmem
            rcases List.mem_append.1 hmem with h | h
            · exact absurd hkey (hno e h)
            · simp at h; rw [h]
          rw [tl] at hf2
          simp [Instr.lookup, run_underlying Try.underlying116, MapKept.run_getObj_map hb1, kLaw.check V _ hl, hf2, hv, Result.andThen]
      refine ⟨hlk, ?_⟩
      have hlast : (es.push { key := kV x y, val := .int .i64 0, born := clock }).toList[es.size]? = some { key := kV x y, val := .int .i64 0, born := clock } := by rw [tl]; simp
      have old : ∀ (i : Nat) (a : MapEntry), (es.push { key := kV x y, val := .int .i64 0, born := clock }).toList[i]? = some a → i ≠ es.size → es.toList[i]? = some a := fun i a ha hi => by
        rw [tl, List.getElem?_append] at ha
        split at ha
        · exact ha
        · rename_i hge
          simp at hge
          rw [List.getElem?_eq_none (by simp; omega)] at ha
          cases ha
      refine Mq.store (e0 := { key := kV x y, val := .int .i64 0, born := clock }) hx hy (heap_set hb).1 hlast rfl (fun i a ha hi => h2 a (List.mem_of_getElem? (old i a ha hi))) (fun a c ha hc h0 => ?_) (fun i k a c ha hc hbk => ?_) (fun a ha => ?_) h6
      · obtain ⟨e, he, hke⟩ := h3 a c ha hc h0
        exact ⟨e, by rw [tl]; exact List.mem_append_left _ he, hke⟩
      · by_cases hi : i = es.size
        · by_cases hk2 : k = es.size
          · omega
          · subst hi
            have hc' := old k c hc hk2
            rw [hlast] at ha
            cases ha
            rcases hbk with h | h
            · have := h5 c (List.mem_of_getElem? hc'); simp only at h; omega
            · exact absurd h.symm (hno c (List.mem_of_getElem? hc'))
        · have ha' := old i a ha hi
          by_cases hk2 : k = es.size
          · subst hk2
            rw [hlast] at hc
            cases hc
            rcases hbk with h | h
            · have := h5 a (List.mem_of_getElem? ha'); simp only at h; omega
            · exact absurd h (hno a (List.mem_of_getElem? ha'))
          · exact h4 i k a c ha' (old k c hc hk2) hbk
      · rw [tl] at ha
        rcases List.mem_append.1 ha with h | h
        · have := h5 a h; omega
        · simp at h; rw [h]; simp
  · have hmod : (es.modify j fun e => { e with key := kV x y }) = es := by
      apply Array.ext_getElem?
      intro i
      rw [Array.getElem?_modify]
      by_cases hij : j = i
      · subst hij
        rw [if_pos rfl]
        rw [Array.getElem?_toList] at hj
        rw [hj]
        simp only [Option.map_some, Option.some.injEq]
        rw [← hkey]
      · rw [if_neg hij]
    have hj2 : es[j]? = some e := by rw [← Array.getElem?_toList]; exact hj
    refine ⟨e.val, (e.born : Int), { W with heap := W.heap.setIfInBounds b (.map es clock) }, ?_, ⟨rfl, rfl, rfl, by simp, fun i _ hi => (heap_set hb).2 i (fun e => hi (by rw [e]))⟩, ?_⟩
    · have hst : (Instr.keyThatStays e.key (kV x y)).run Try.prog W = .ok (kV x y) W := by rw [hkey]; exact kLaw.stays W hl
      simp [Instr.mapEntry, run_underlying Try.underlying116, MapKept.run_getObj_map hb, kLaw.check W _ hl, hf, hj2, hst, MapKept.run_setObj_map _ hb, Result.andThen, goInt]
      rw [hmod]
    · have hsame : ({ W with heap := W.heap.setIfInBounds b (.map es clock) } : World).heap[b]? = some (.map es clock) := (heap_set hb).1
      have hMq : Mq { W with heap := W.heap.setIfInBounds b (.map es clock) } b n f := ⟨es, clock, hsame, h2, h3, h4, h5, h6⟩
      refine ⟨hMq.look hx hy, ?_⟩
      exact Mq.store hx hy (heap_set hb).1 hj hkey (fun i a ha hi => h2 a (List.mem_of_getElem? ha)) h3 h4 h5 h6
end
end Go.Proofs.Ytfelmkkkaphkpaa
