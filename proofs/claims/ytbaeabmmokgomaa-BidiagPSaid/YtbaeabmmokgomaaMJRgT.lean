/-
  A region's operations as a table of masks: whether an operation may be taken first, and which are ready, is reckoned by numbers' bits (a long region's side conditions are cheap then).
-/
import Derived.Test.YtbaeabmmokgomaaProg
import Derived.OrdersHeld
import Derived.Deep.RegionHeld
import Derived.Lib.Hide
namespace Go.Proofs.Ytbaeabmmokgomaa
set_option linter.unusedVariables false
set_option linter.unusedSimpArgs false
open Go.RowKit

/-- is bit n of m set? -/
def bitM (m n : Nat) : Bool := Nat.beq (Nat.mod (Nat.shiftRight m n) 2) 1
theorem bitM_eq (m n : Nat) : bitM m n = m.testBit n := by
  have h : bitM m n = (m >>> n % 2).beq 1 := rfl
  rw [h, Nat.testBit_eq_decide_div_mod_eq, Nat.shiftRight_eq_div_pow]
  by_cases e : m / 2 ^ n % 2 = 1
  · rw [e]; rfl
  · rw [decide_eq_false e]
    cases hb : (m / 2 ^ n % 2).beq 1
    · rfl
    · exact absurd (Nat.eq_of_beq_eq_true hb) e
/-- a list's numbers as bits -/
def maskL : List Nat → Nat
  | [] => 0
  | t :: r => Nat.lor (Nat.shiftLeft 1 t) (maskL r)
theorem bit_maskL : ∀ (l : List Nat) (t : Nat), bitM (maskL l) t = l.contains t
  | [], t => by rw [bitM_eq]; exact Nat.zero_testBit t
  | x :: r, t => by
    have h : maskL (x :: r) = (1 <<< x) ||| maskL r := rfl
    rw [bitM_eq, h, Nat.testBit_or, ← bitM_eq (maskL r), bit_maskL r t, List.contains_cons, Nat.one_shiftLeft, Nat.testBit_two_pow]
    congr 1
    by_cases e : x = t
    · subst e; simp
    · rw [decide_eq_false e]; symm; simpa using Ne.symm e
/-- a list of truths as bits -/
def maskB : List Bool → Nat
  | [] => 0
  | b :: r => Nat.add (cond b 1 0) (Nat.mul 2 (maskB r))
theorem bit_maskB : ∀ (l : List Bool) (t : Nat), bitM (maskB l) t = l.getD t false
  | [], t => by rw [bitM_eq]; simp [maskB]
  | b :: r, 0 => by
    have h : maskB (b :: r) = cond b 1 0 + 2 * maskB r := rfl
    rw [bitM_eq, h, Nat.testBit_zero]
    cases b <;> simp <;> omega
  | b :: r, t + 1 => by
    have h : maskB (b :: r) = cond b 1 0 + 2 * maskB r := rfl
    have e : (cond b 1 0 + 2 * maskB r) / 2 = maskB r := by cases b <;> simp <;> omega
    rw [bitM_eq, h, Nat.testBit_succ, e, ← bitM_eq, bit_maskB r t]
    simp

/-- a row: the slot that is written (1 more; 0 for none), the slots that are looked at, the operations that are waited for -/
structure OpRow where
  dst : Nat
  looks : Nat
  aft : Nat

def dstN : Option Tmp → Nat
  | some d => Nat.succ d
  | none => 0
def aftL (md : Region.Mode) : List Edge → List Nat
  | [] => []
  | e :: r => cond (Region.binds md e) (e.on :: aftL md r) (aftL md r)
theorem mem_aftL {md : Region.Mode} : ∀ {l : List Edge} {k : Nat}, k ∈ aftL md l ↔ ∃ e ∈ l, Region.binds md e = true ∧ e.on = k
  | [], k => by simp [aftL]
  | e :: r, k => by
    unfold aftL
    cases h : Region.binds md e
    · simp [mem_aftL (l := r), h]
    · rw [cond_true, List.mem_cons, mem_aftL (l := r)]
      constructor
      · rintro (rfl | ⟨e', he, hb, rfl⟩)
        · exact ⟨e, List.mem_cons_self, h, rfl⟩
        · exact ⟨e', List.mem_cons_of_mem _ he, hb, rfl⟩
      · rintro ⟨e', he, hb, rfl⟩
        rcases List.mem_cons.1 he with rfl | he
        · exact .inl rfl
        · exact .inr ⟨e', he, hb, rfl⟩
def rowM (md : Region.Mode) (ops : Array Oper) (o : Oper) : OpRow := ⟨dstN o.dst, maskL (o.looksAt ops), maskL (aftL md o.after.toList)⟩
def tabM (md : Region.Mode) (ops : Array Oper) : List Oper → List OpRow
  | [] => []
  | o :: r => rowM md ops o :: tabM md ops r
/-- the table, and that no operation selects -/
def tabR (md : Region.Mode) (ops : Array Oper) : List OpRow × Bool := (tabM md ops ops.toList, Region.noSelect ops)

theorem tabM_get {md : Region.Mode} {ops : Array Oper} : ∀ (l : List Oper) (j : Nat), (tabM md ops l)[j]? = (l[j]?).map (rowM md ops)
  | [], _ => rfl
  | o :: r, 0 => rfl
  | o :: r, j + 1 => by simpa [tabM] using tabM_get r j

/-- apart, by rows -/
def apartM (x y : OpRow) : Bool :=
  (match x.dst with
   | 0 => true
   | d + 1 => !bitM y.looks d && !Nat.beq y.dst (d + 1)) &&
  (match y.dst with
   | 0 => true
   | d + 1 => !bitM x.looks d)
theorem apartM_spec {md : Region.Mode} {ops : Array Oper} {x y : Oper} (h : apartM (rowM md ops x) (rowM md ops y) = true) : x.apart ops y = true := by
  unfold apartM rowM at h
  unfold Oper.apart
  have h1 := Bool.and_eq_true_iff.1 h
  refine Bool.and_eq_true_iff.2 ⟨?_, ?_⟩
  · have h2 := h1.1
    cases hd : x.dst with
    | none => rfl
    | some d =>
      simp only [hd, dstN] at h2
      have h3 := Bool.and_eq_true_iff.1 h2
      rw [bit_maskL] at h3
      refine Bool.and_eq_true_iff.2 ⟨h3.1, ?_⟩
      have h4 := h3.2
      cases he : y.dst with
      | none => rfl
      | some e =>
        simp only [he, dstN] at h4
        simp only [bne_iff_ne, ne_eq, Option.some.injEq]
        intro hh; subst hh
        rw [show Nat.beq (Nat.succ e) (e + 1) = true from Nat.beq_refl _] at h4
        cases h4
  · have h2 := h1.2
    cases he : y.dst with
    | none => rfl
    | some e =>
      simp only [he, dstN] at h2
      rw [bit_maskL] at h2
      exact h2

/-- may the row's operation be taken first? -/
def freeGo (i : Nat) (x : OpRow) : List OpRow → Nat → Nat → Bool
  | [], _, _ => true
  | y :: r, j, m => (Nat.beq j i || Nat.beq (Nat.mod m 2) 1 || bitM y.aft i || apartM x y) && freeGo i x r (Nat.succ j) (Nat.div m 2)
theorem freeGo_spec {i : Nat} {x : OpRow} : ∀ (l : List OpRow) (j m : Nat), freeGo i x l j m = true →
    ∀ (k : Nat) (y : OpRow), l[k]? = some y → (j + k = i ∨ m.testBit k = true ∨ bitM y.aft i = true ∨ apartM x y = true)
  | [], _, _, _, k, y, h => by simp at h
  | z :: r, j, m, h, 0, y, hy => by
    obtain rfl : z = y := by simpa using hy
    unfold freeGo at h
    have h1 := (Bool.and_eq_true_iff.1 h).1
    rcases Bool.or_eq_true_iff.1 h1 with h2 | h2
    · rcases Bool.or_eq_true_iff.1 h2 with h3 | h3
      · rcases Bool.or_eq_true_iff.1 h3 with h4 | h4
        · exact .inl (Nat.eq_of_beq_eq_true h4)
        · refine .inr (.inl ?_)
          rw [Nat.testBit_zero, decide_eq_true_eq]
          exact Nat.eq_of_beq_eq_true h4
      · exact .inr (.inr (.inl h3))
    · exact .inr (.inr (.inr h2))
  | z :: r, j, m, h, k + 1, y, hy => by
    unfold freeGo at h
    have h1 := (Bool.and_eq_true_iff.1 h).2
    have := freeGo_spec r (Nat.succ j) (Nat.div m 2) h1 k y (by simpa using hy)
    rw [Nat.testBit_succ]
    rcases this with e | e
    · exact .inl (by omega)
    · exact .inr e
def freeM (T : List OpRow) (m i : Nat) : Bool :=
  match T[i]? with
  | none => false
  | some x => freeGo i x T 0 m

theorem listed_bit {listed : Array Bool} {m : Nat} (hm : maskB listed.toList = m) (j : Nat) : m.testBit j = listed.getD j false := by
  rw [← hm, ← bitM_eq, bit_maskB]
  simp [Array.getD_eq_getD_getElem?, List.getD_eq_getElem?_getD]

section
variable {ops : Array Oper} {md : Region.Mode} {T : List OpRow} {listed : Array Bool} {m i : Nat}

theorem tab_row (hT : Hid (tabR md ops = (T, true))) {j : Nat} {o : Oper} (ho : ops[j]? = some o) : T[j]? = some (rowM md ops o) := by
  have h : tabM md ops ops.toList = T := congrArg Prod.fst hT.out
  rw [← h, tabM_get, Array.getElem?_toList, ho]; rfl
theorem tab_get (hT : Hid (tabR md ops = (T, true))) {j : Nat} {y : OpRow} (ho : T[j]? = some y) : ∃ o, ops[j]? = some o ∧ y = rowM md ops o := by
  have h : tabM md ops ops.toList = T := congrArg Prod.fst hT.out
  rw [← h, tabM_get, Array.getElem?_toList] at ho
  cases hj : ops[j]? with
  | none => rw [hj] at ho; cases ho
  | some o => rw [hj] at ho; exact ⟨o, rfl, by simpa using ho.symm⟩
theorem tab_ns (hT : Hid (tabR md ops = (T, true))) : Region.noSelect ops = true := congrArg Prod.snd hT.out

theorem tab_free (m : Nat) (hT : Hid (tabR md ops = (T, true))) (hm : maskB listed.toList = m) (h : freeM T m i = true) : Region.free md ops listed i = true := by
  unfold freeM at h
  cases hx : T[i]? with
  | none => rw [hx] at h; cases h
  | some x =>
    rw [hx] at h
    obtain ⟨oi, hoi, rfl⟩ := tab_get hT hx
    simp only [Region.free, hoi, List.all_eq_true, List.mem_range]
    intro j hj
    have hoj := Array.getElem?_eq_getElem hj
    rcases freeGo_spec T 0 m h j _ (tab_row hT hoj) with e | e | e | e
    · simp [show j = i by omega]
    · have hl : listed.getD j true = true := by
        rw [listed_bit hm] at e
        simp only [Array.getD_eq_getD_getElem?] at e ⊢
        cases hc : listed[j]? with
        | none => rfl
        | some b => rw [hc] at e; exact e
      simp [hl]
    · have : i ∈ aftL md (ops[j]).after.toList := by
        have e2 : bitM (maskL (aftL md (ops[j]).after.toList)) i = true := e
        rw [bit_maskL] at e2
        simpa using e2
      obtain ⟨ed, he, hb, hon⟩ := mem_aftL.1 this
      simp only [hoj, Bool.or_eq_true]
      refine .inr (.inl ?_)
      rw [Array.any_eq_true']
      exact ⟨ed, by simpa using he, by simp [hb, hon]⟩
    · simp only [hoj, Bool.or_eq_true]
      exact .inr (.inr (apartM_spec e))

/-- is number i ready? -/
def rdyM (x : OpRow) (m i : Nat) : Bool := !bitM m i && Nat.beq (Nat.land x.aft m) x.aft
theorem sub_mask {a m : Nat} : Nat.land a m = a ↔ ∀ k, a.testBit k = true → m.testBit k = true := by
  have e0 : Nat.land a m = a &&& m := rfl
  rw [e0]
  constructor
  · intro h k hk
    have h1 : (a &&& m).testBit k = true := by rw [h]; exact hk
    rw [Nat.testBit_and] at h1
    exact (Bool.and_eq_true_iff.1 h1).2
  · intro h
    refine Nat.eq_of_testBit_eq fun k => ?_
    rw [Nat.testBit_and]
    cases ha : a.testBit k
    · rfl
    · rw [h k ha]; rfl
theorem rdyM_spec (hT : Hid (tabR md ops = (T, true))) (hm : maskB listed.toList = m) (hn : listed.size = ops.size) {o : Oper} (ho : ops[i]? = some o) :
    rdyM (rowM md ops o) m i = (!listed.getD i true && ((ops[i]?).map (·.after.all fun e => !Region.binds md e || listed.getD e.on false)).getD false) := by
  have hi : i < ops.size := (Array.getElem?_eq_some_iff.1 ho).1
  have hl : listed.getD i true = listed.getD i false := by
    simp only [Array.getD_eq_getD_getElem?, Array.getElem?_eq_getElem (show i < listed.size by omega)]
    rfl
  unfold rdyM
  rw [bitM_eq, listed_bit hm, ← hl, ho]
  congr 1
  rw [Bool.eq_iff_iff, Nat.beq_eq, sub_mask]
  simp only [Option.map_some, Option.getD_some, Array.all_eq_true', Bool.or_eq_true, Bool.not_eq_true']
  constructor
  · intro h e he
    cases hb : Region.binds md e
    · exact .inl rfl
    · refine .inr ?_
      rw [← listed_bit hm]
      refine h _ ?_
      rw [← bitM_eq]
      have : bitM (maskL (aftL md o.after.toList)) e.on = true := by
        rw [bit_maskL]
        simpa using mem_aftL.2 ⟨e, by simpa using he, hb, rfl⟩
      exact this
  · intro h k hk
    rw [← bitM_eq] at hk
    have hk2 : bitM (maskL (aftL md o.after.toList)) k = true := hk
    rw [bit_maskL] at hk2
    obtain ⟨e, he, hb, rfl⟩ := mem_aftL.1 (by simpa using hk2)
    rw [listed_bit hm]
    rcases h e (by simpa using he) with h' | h'
    · rw [hb] at h'; cases h'
    · exact h'
/-- the ready ones -/
def rdyGo (m : Nat) : List OpRow → Nat → List Nat
  | [], _ => []
  | y :: r, j => cond (rdyM y m j) (j :: rdyGo m r (Nat.succ j)) (rdyGo m r (Nat.succ j))
theorem rdyGo_eq (hT : Hid (tabR md ops = (T, true))) (hm : maskB listed.toList = m) (hn : listed.size = ops.size) : ∀ (l : List OpRow) (j : Nat),
    (∀ k, l[k]? = T[j + k]?) → rdyGo m l j = (List.range' j l.length).filter fun i => !listed.getD i true && ((ops[i]?).map (·.after.all fun e => !Region.binds md e || listed.getD e.on false)).getD false
  | [], _, _ => rfl
  | y :: r, j, h => by
    have h0 : T[j]? = some y := by have := h 0; simpa using this.symm
    obtain ⟨o, ho, rfl⟩ := tab_get hT h0
    have ih := rdyGo_eq hT hm hn r (Nat.succ j) (fun k => by
      have := h (k + 1)
      rw [show j + (k + 1) = Nat.succ j + k by omega] at this
      simpa using this)
    unfold rdyGo
    rw [ih, rdyM_spec hT hm hn ho, List.length_cons, List.range'_succ, List.filter_cons]
    cases (!listed.getD j true && ((ops[j]?).map (·.after.all fun e => !Region.binds md e || listed.getD e.on false)).getD false) <;> rfl
theorem tab_size (hT : Hid (tabR md ops = (T, true))) : T.length = ops.size := by
  have h : tabM md ops ops.toList = T := congrArg Prod.fst hT.out
  have hl : ∀ l : List Oper, (tabM md ops l).length = l.length := by
    intro l; induction l with
    | nil => rfl
    | cons o r ih => simp [tabM, ih]
  rw [← h, hl]; simp
theorem tab_ready (m : Nat) {rs : List Nat} (hT : Hid (tabR md ops = (T, true))) (hm : maskB listed.toList = m) (hn : Nat.beq listed.toList.length T.length = true) (h : rdyGo m T 0 = rs) : Region.ready md ops listed = rs := by
  have hn2 : listed.size = ops.size := by rw [← tab_size hT, ← Nat.eq_of_beq_eq_true hn]; simp
  rw [← h, rdyGo_eq hT hm hn2 T 0 (fun k => by rw [Nat.zero_add]), tab_size hT]
  unfold Region.ready
  rw [List.range_eq_range']
def rdyAt (T : List OpRow) (m i : Nat) : Bool :=
  match T[i]? with
  | none => false
  | some x => rdyM x m i
theorem tab_rdy (m : Nat) (hT : Hid (tabR md ops = (T, true))) (hm : maskB listed.toList = m) (hn : Nat.beq listed.toList.length T.length = true) (h : rdyAt T m i = true) : (Region.ready md ops listed).contains i = true := by
  have hn2 : listed.size = ops.size := by rw [← tab_size hT, ← Nat.eq_of_beq_eq_true hn]; simp
  unfold rdyAt at h
  cases hx : T[i]? with
  | none => rw [hx] at h; cases h
  | some x =>
    rw [hx] at h
    obtain ⟨o, ho, rfl⟩ := tab_get hT hx
    have hi : i < ops.size := (Array.getElem?_eq_some_iff.1 ho).1
    have h1 : rdyM (rowM md ops o) m i = true := h
    rw [rdyM_spec hT hm hn2 ho] at h1
    simp only [List.contains_iff_mem]
    unfold Region.ready
    rw [List.mem_filter]
    exact ⟨by simpa using hi, h1⟩
end

section
variable {P : Program} {ops : Array Oper} {Q : Exit → Act → World → Prop} {md : Region.Mode} {S : World → Prop}
/-- the table is laid at the region's beginning -/
theorem wpAnyH_tab {fuel : Nat} {listed : Array Bool} {a : Act} {w : World} (T : List OpRow) (hT : tabR md ops = (T, true))
    (h : Hid (tabR md ops = (T, true)) → wpAnyH P md ops Q S fuel listed a w) : wpAnyH P md ops Q S fuel listed a w := h (Lib.hid hT)
/-- one that is wanted -/
theorem AllReadyH.con1 {fuel : Nat} {listed : Array Bool} {a : Act} {w : World} {i : Nat} {o : Oper} {rs : List Nat} (ho : ops[i]? = some o) (hw : Region.wanted o (yielded ops a.tmps) = true)
    (h : ∀ K' : Act → World → Prop, Shut (∀ a w, S w → (S w → wpAnyH P md ops Q S fuel (listed.setIfInBounds i true) a w) → K' a w) → Oper.wp P o a w K' Q)
    (hs : AllReadyH P md ops Q S fuel listed a w rs) : AllReadyH P md ops Q S fuel listed a w (i :: rs) :=
  AllReadyH.cons ho (fun K' hK => by rw [if_pos hw]; exact h K' hK) hs
end
end Go.Proofs.Ytbaeabmmokgomaa
