/-
  Layer 10: what the reduction has in memory: the matrix, the diagonal, what is beside it, the reflections.
-/
import Derived.Test.YtaemkjcmjgefeaaTdG
import Derived.Test.YtaemkjcmjgefeaaTdD
namespace Go.Proofs.Ytaemkjcmjgefeaa
open Go Go.RowKit Go.Bw
set_option linter.unusedVariables false
set_option linter.unusedSimpArgs false
/-- an address' block is not b -/
def NB (A : Option Addr) (b : Nat) : Prop := ∀ x, A = some x → x.block ≠ b
/-- two addresses' blocks are two -/
def NA (A B : Option Addr) : Prop := ∀ x, A = some x → ∀ y, B = some y → x.block ≠ y.block
theorem NB.none (b : Nat) : NB none b := fun x e => by cases e
theorem NA.symm {A B : Option Addr} (h : NA A B) : NA B A := fun x e y f q => h y f x e q.symm
theorem NA.noneL (B : Option Addr) : NA none B := fun x e => by cases e
theorem NA.nb {A : Option Addr} {g o : Nat} (h : NB A g) : NA A (some ⟨g, o, Option.none⟩) := fun x e y f => by injection f with f; subst f; exact h x e
theorem NB.na {A B : Option Addr} (h : NA A B) {x : Addr} (e : B = some x) : NB A x.block := fun y f => h y f x e
theorem fl_far9 {w w' : World} {A : Option Addr} {n c : Nat} {l : List Int} {row : Option Nat} (h : FL w A n c l) (hg : w.grownBy w' row) (hA : ∀ x, A = some x → some x.block ≠ row) : FL w' A n c l := by
  rcases row with _ | g
  · refine ⟨h.1, ⟨h.2.1.1, h.2.1.2.1, fun hn => ?_⟩, h.2.2⟩
    obtain ⟨ad, e, hb, hc⟩ := h.2.1.2.2 hn
    refine ⟨ad, e, Nat.lt_of_lt_of_le hb hg.size, fun j hj => ?_⟩
    exact (World.grownBy.cell_far hg _ (by rw [add_block]; exact hb) (by rw [add_block]; exact hA ad e)).trans (hc j hj)
  · exact h.farB hg (fun a e q => hA a e (by rw [q]))
/-- the blocks are apart: the matrix' g, the boxes' t and z, the lists' -/
structure Ap (g t z : Nat) (Ad Ae Ah : Option Addr) (hs : List Re) : Prop where
  dg : NB Ad g
  dt : NB Ad t
  dz : NB Ad z
  eg : NB Ae g
  et : NB Ae t
  ez : NB Ae z
  hg : NB Ah g
  ht : NB Ah t
  hz : NB Ah z
  de : NA Ad Ae
  dh : NA Ad Ah
  eh : NA Ae Ah
  rg : ∀ r ∈ hs, NB r.A g
  rt : ∀ r ∈ hs, NB r.A t
  rz : ∀ r ∈ hs, NB r.A z
  rd : ∀ r ∈ hs, NA r.A Ad
  re : ∀ r ∈ hs, NA r.A Ae
  rh : ∀ r ∈ hs, NA r.A Ah
  gt : g ≠ t
  gz : g ≠ z
  tz : t ≠ z
theorem Ap.start (g t z : Nat) (h1 : g ≠ t) (h2 : g ≠ z) (h3 : t ≠ z) : Ap g t z none none none [] :=
  ⟨NB.none _, NB.none _, NB.none _, NB.none _, NB.none _, NB.none _, NB.none _, NB.none _, NB.none _, NA.noneL _, NA.noneL _, NA.noneL _, (fun r h => by cases h), (fun r h => by cases h), (fun r h => by cases h), (fun r h => by cases h), (fun r h => by cases h), (fun r h => by cases h), h1, h2, h3⟩
/-- the state behind k rounds -/
structure RS (w W : World) (N k : Nat) (g t z cap : Nat) (L : List Int) (Ad Ae Ah : Option Addr) (cd ce ch : Nat) (d e : List Int) (hs : List Re) : Prop where
  oa : OwnF W w.heap.size (some ⟨g, 0, none⟩) cap L
  tb : Tbx W t Ad d.length cd Ae e.length ce
  zb : Tbx W z none 0 0 none 0 0
  od : OwnF W w.heap.size Ad cd d
  oe : OwnF W w.heap.size Ae ce e
  oh : OwnR W w.heap.size Ah ch hs
  el : ∀ r ∈ hs, FL W r.A r.l.length r.c r.l ∧ r.t ≤ 18446744073709551615
  bl : ∀ r ∈ hs, ∀ x, r.A = some x → x.block < W.heap.size
  bz : Below w.heap.size w W
  ap : Ap g t z Ad Ae Ah hs
  b0 : w.heap.size ≤ g ∧ w.heap.size ≤ t ∧ w.heap.size ≤ z
section
variable {w W W' : World} {N k g t z cap : Nat} {L : List Int} {Ad Ae Ah : Option Addr} {cd ce ch : Nat} {d e : List Int} {hs : List Re}
theorem RS.on (h : RS w W N k g t z cap L Ad Ae Ah cd ce ch d e hs) (hb : Below W.heap.size W W') : RS w W' N k g t z cap L Ad Ae Ah cd ce ch d e hs :=
  ⟨h.oa.on_ hb, Blk.on h.tb hb, Blk.on h.zb hb, h.od.on_ hb, h.oe.on_ hb, h.oh.below hb, fun r hr => ⟨(h.el r hr).1.on hb, (h.el r hr).2⟩, fun r hr x hx => Nat.lt_of_lt_of_le (h.bl r hr x hx) hb.size, h.bz.trans (hb.mono h.bz.size), h.ap, h.b0⟩
theorem RS.drew (h : RS w W N k g t z cap L Ad Ae Ah cd ce ch d e hs) : RS w W.drew N k g t z cap L Ad Ae Ah cd ce ch d e hs := h.on ((Below.refl _ _).drew)
theorem RS.alloc (h : RS w W N k g t z cap L Ad Ae Ah cd ce ch d e hs) (o : Obj) : RS w (W.alloc o) N k g t z cap L Ad Ae Ah cd ce ch d e hs := h.on ((Below.refl _ W).alloc (Nat.le_refl _) o)
/-- an entry of the matrix is set -/
theorem RS.set (h : RS w W N k g t z cap L Ad Ae Ah cd ce ch d e hs) (i x : Nat) : RS w (W.setCell ⟨g, i, none⟩ (.float .f64 x)) N k g t z cap (L.set i (x : Int)) Ad Ae Ah cd ce ch d e hs := by
  have hg : W.grownBy (W.setCell ⟨g, i, none⟩ (.float .f64 x)) (some g) := grown_setCell (World.grownBy.refl W _) _ _
  have p := h.ap
  refine ⟨?_, Blk.grown h.tb hg (by have := p.gt; simp; omega), Blk.grown h.zb hg (by have := p.gz; simp; omega), h.od.grown_ hg (fun a q => by have := p.dg a q; simp; omega), h.oe.grown_ hg (fun a q => by have := p.eg a q; simp; omega), h.oh.grown_ hg (fun a q => by have := p.hg a q; simp; omega), fun r hr => ⟨(h.el r hr).1.farB hg (p.rg r hr), (h.el r hr).2⟩, fun r hr x hx => Nat.lt_of_lt_of_le (h.bl r hr x hx) hg.size, h.bz.grown hg h.bz.size (fun b q => by injection q with q; have := h.b0.1; omega), p, h.b0⟩
  have := h.oa.set_ i (x : Int)
  rwa [show fV (x : Int) = .float .f64 x from rfl] at this
/-- one more reflection, of a list that is apart -/
theorem RS.refl (h : RS w W N k g t z cap L Ad Ae Ah cd ce ch d e hs) {A2 : Option Addr} {c2 : Nat} {r : Re} (hr : OwnR W' w.heap.size A2 c2 (hs ++ [r])) (hg : W.grownBy W' (Value.slice Ah hs.length ch).ownBlock)
    (ho : (Value.slice A2 (hs.length + 1) c2).ownBlock = (Value.slice Ah hs.length ch).ownBlock ∨ (Value.slice A2 (hs.length + 1) c2).ownBlock = some W.heap.size)
    (hf : FL W' r.A r.l.length r.c r.l) (ht : r.t ≤ 18446744073709551615) (hl : ∀ x, r.A = some x → x.block < W'.heap.size)
    (hrg : NB r.A g) (hrt : NB r.A t) (hrz : NB r.A z) (hrd : NA r.A Ad) (hre : NA r.A Ae) (hrh : NA r.A A2) (hlt : g < W.heap.size ∧ t < W.heap.size ∧ z < W.heap.size) : RS w W' N k g t z cap L Ad Ae A2 cd ce c2 d e (hs ++ [r]) := by
  have p := h.ap
  have nb : ∀ b, NB Ah b → (Value.slice Ah hs.length ch).ownBlock ≠ some b := fun b q => by
    rcases Ah with _ | x
    · intro e; cases e
    · have := q x rfl
      simp [Value.ownBlock]; exact this
  have na : ∀ (B : Option Addr), NA B Ah → ∀ x, B = some x → some x.block ≠ (Value.slice Ah hs.length ch).ownBlock := fun B q x hx => fun e9 => nb x.block (fun y hy => (q x hx y hy).symm) e9.symm
  have n2 : ∀ b, NB Ah b → b < W.heap.size → NB A2 b := fun b q hb x hx => by
    subst hx
    rcases ho with e1 | e1
    · exact fun e9 => nb b q (by rw [← e1]; simp [Value.ownBlock, e9])
    · simp [Value.ownBlock] at e1; omega
  have m2 : ∀ B, NA B Ah → (∀ x, B = some x → x.block < W.heap.size) → NA B A2 := fun B q hb x hx y hy e9 => n2 x.block (fun y hy => (q x hx y hy).symm) (hb x hx) y hy e9.symm
  refine ⟨h.oa.grown_ hg (fun a q => by injection q with q; subst q; exact fun e9 => nb g p.hg e9.symm), Blk.grown h.tb hg (fun e9 => nb t p.ht e9.symm), Blk.grown h.zb hg (fun e9 => nb z p.hz e9.symm), h.od.grown_ hg (na _ p.dh), h.oe.grown_ hg (na _ p.eh), hr, fun q hq => ?_, fun q hq => ?_, h.bz.grown hg h.bz.size (fun b q => ?_), ⟨p.dg, p.dt, p.dz, p.eg, p.et, p.ez, n2 g p.hg hlt.1, n2 t p.ht hlt.2.1, n2 z p.hz hlt.2.2, p.de, m2 _ p.dh (fun x hx => (h.od.gt hx).2), m2 _ p.eh (fun x hx => (h.oe.gt hx).2), ?_, ?_, ?_, ?_, ?_, ?_, p.gt, p.gz, p.tz⟩, h.b0⟩
  · rcases List.mem_append.1 hq with q1 | q1
    · exact ⟨fl_far9 (h.el q q1).1 hg (na _ (p.rh q q1)), (h.el q q1).2⟩
    · rw [List.mem_singleton.1 q1]; exact ⟨hf, ht⟩
  · rcases List.mem_append.1 hq with q1 | q1
    · exact fun x hx => Nat.lt_of_lt_of_le (h.bl q q1 x hx) hg.size
    · rw [List.mem_singleton.1 q1]; exact hl
  · rcases Ah with _ | x
    · cases q
    · have := (h.oh.gt rfl).1
      simp [Value.ownBlock] at q; omega
  all_goals
    intro q hq
    rcases List.mem_append.1 hq with q1 | q1
  · exact p.rg q q1
  · rw [List.mem_singleton.1 q1]; exact hrg
  · exact p.rt q q1
  · rw [List.mem_singleton.1 q1]; exact hrt
  · exact p.rz q q1
  · rw [List.mem_singleton.1 q1]; exact hrz
  · exact p.rd q q1
  · rw [List.mem_singleton.1 q1]; exact hrd
  · exact p.re q q1
  · rw [List.mem_singleton.1 q1]; exact hre
  · exact m2 _ (p.rh q q1) (h.bl q q1)
  · rw [List.mem_singleton.1 q1]; exact hrh
/-- one more float of the diagonal, and its box -/
theorem RS.pushD (h : RS w W N k g t z cap L Ad Ae Ah cd ce ch d e hs) {A2 : Option Addr} {c2 : Nat} {x : Int} (hr : OwnF W' w.heap.size A2 c2 (d ++ [x])) (hg : W.grownBy W' (Value.slice Ad d.length cd).ownBlock)
    (ho : (Value.slice A2 (d ++ [x]).length c2).ownBlock = (Value.slice Ad d.length cd).ownBlock ∨ (Value.slice A2 (d ++ [x]).length c2).ownBlock = some W.heap.size) (hlt : g < W.heap.size ∧ t < W.heap.size ∧ z < W.heap.size) :
    RS w (W'.setCell ⟨t, 0, none⟩ (.slice A2 (d ++ [x]).length c2)) N k g t z cap L A2 Ae Ah c2 ce ch (d ++ [x]) e hs := by
  have p := h.ap
  have hs2 : W'.grownBy (W'.setCell ⟨t, 0, none⟩ (.slice A2 (d ++ [x]).length c2)) (some t) := grown_setCell (World.grownBy.refl W' _) _ _
  have nb : ∀ b, NB Ad b → (Value.slice Ad d.length cd).ownBlock ≠ some b := fun b q => by
    rcases Ad with _ | x
    · intro e; cases e
    · have := q x rfl
      simp [Value.ownBlock]; exact this
  have na : ∀ (B : Option Addr), NA B Ad → ∀ x, B = some x → some x.block ≠ (Value.slice Ad d.length cd).ownBlock := fun B q x hx => fun e9 => nb x.block (fun y hy => (q x hx y hy).symm) e9.symm
  have n2 : ∀ b, NB Ad b → b < W.heap.size → NB A2 b := fun b q hb x hx => by
    subst hx
    rcases ho with e1 | e1
    · exact fun e9 => nb b q (by rw [← e1]; simp [Value.ownBlock, e9])
    · simp [Value.ownBlock] at e1; omega
  have m2 : ∀ B, NA B Ad → (∀ x, B = some x → x.block < W.heap.size) → NA B A2 := fun B q hb x hx y hy e9 => n2 x.block (fun y hy => (q x hx y hy).symm) (hb x hx) y hy e9.symm
  have nt : ∀ B, NB B t → ∀ x, B = some x → some x.block ≠ some t := fun B q x hx e9 => q x hx (by injection e9)
  have t2 := n2 t p.dt hlt.2.1
  refine ⟨(h.oa.grown_ hg (fun a q => by injection q with q; subst q; exact fun e9 => nb g p.dg e9.symm)).grown_ hs2 (fun a q => by injection q with q; subst q; have := p.gt; simp; omega), ?_, Blk.grown (Blk.grown h.zb hg (fun e9 => nb z p.dz e9.symm)) hs2 (by have := p.tz; simp; omega), hr.grown_ hs2 (nt _ t2), (h.oe.grown_ hg (na _ p.de.symm)).grown_ hs2 (nt _ p.et), (h.oh.grown_ hg (na _ (p.dh).symm)).grown_ hs2 (nt _ p.ht), fun q hq => ⟨fl_far9 (fl_far9 (h.el q hq).1 hg (na _ (p.rd q hq))) hs2 (nt _ (p.rt q hq)), (h.el q hq).2⟩, fun q hq x hx => Nat.lt_of_lt_of_le (Nat.lt_of_lt_of_le (h.bl q hq x hx) hg.size) hs2.size, (h.bz.grown hg h.bz.size (fun b q => ?_)).grown hs2 (by have := h.bz.size; have := hg.size; omega) (fun b q => by injection q with q; have := h.b0.2.1; omega), ⟨n2 g p.dg hlt.1, t2, n2 z p.dz hlt.2.2, p.eg, p.et, p.ez, p.hg, p.ht, p.hz, (m2 _ p.de.symm (fun x hx => (h.oe.gt hx).2)).symm, (m2 _ p.dh.symm (fun x hx => (h.oh.gt hx).2)).symm, p.eh, p.rg, p.rt, p.rz, fun q hq => m2 _ (p.rd q hq) (h.bl q hq), p.re, p.rh, p.gt, p.gz, p.tz⟩, h.b0⟩
  · have q1 := Blk.grown h.tb hg (fun e9 => nb t p.dt e9.symm)
    exact Blk.set_ q1 0 _
  · rcases Ad with _ | x
    · cases q
    · have := (h.od.gt rfl).1
      simp [Value.ownBlock] at q; omega
/-- one more float of what is beside it, and its box -/
theorem RS.pushE (h : RS w W N k g t z cap L Ad Ae Ah cd ce ch d e hs) {A2 : Option Addr} {c2 : Nat} {x : Int} (hr : OwnF W' w.heap.size A2 c2 (e ++ [x])) (hg : W.grownBy W' (Value.slice Ae e.length ce).ownBlock)
    (ho : (Value.slice A2 (e ++ [x]).length c2).ownBlock = (Value.slice Ae e.length ce).ownBlock ∨ (Value.slice A2 (e ++ [x]).length c2).ownBlock = some W.heap.size) (hlt : g < W.heap.size ∧ t < W.heap.size ∧ z < W.heap.size) :
    RS w (W'.setCell ⟨t, 1, none⟩ (.slice A2 (e ++ [x]).length c2)) N k g t z cap L Ad A2 Ah cd c2 ch d (e ++ [x]) hs := by
  have p := h.ap
  have hs2 : W'.grownBy (W'.setCell ⟨t, 1, none⟩ (.slice A2 (e ++ [x]).length c2)) (some t) := grown_setCell (World.grownBy.refl W' _) _ _
  have nb : ∀ b, NB Ae b → (Value.slice Ae e.length ce).ownBlock ≠ some b := fun b q => by
    rcases Ae with _ | x
    · intro e; cases e
    · have := q x rfl
      simp [Value.ownBlock]; exact this
  have na : ∀ (B : Option Addr), NA B Ae → ∀ x, B = some x → some x.block ≠ (Value.slice Ae e.length ce).ownBlock := fun B q x hx => fun e9 => nb x.block (fun y hy => (q x hx y hy).symm) e9.symm
  have n2 : ∀ b, NB Ae b → b < W.heap.size → NB A2 b := fun b q hb x hx => by
    subst hx
    rcases ho with e1 | e1
    · exact fun e9 => nb b q (by rw [← e1]; simp [Value.ownBlock, e9])
    · simp [Value.ownBlock] at e1; omega
  have m2 : ∀ B, NA B Ae → (∀ x, B = some x → x.block < W.heap.size) → NA B A2 := fun B q hb x hx y hy e9 => n2 x.block (fun y hy => (q x hx y hy).symm) (hb x hx) y hy e9.symm
  have nt : ∀ B, NB B t → ∀ x, B = some x → some x.block ≠ some t := fun B q x hx e9 => q x hx (by injection e9)
  have t2 := n2 t p.et hlt.2.1
  refine ⟨(h.oa.grown_ hg (fun a q => by injection q with q; subst q; exact fun e9 => nb g p.eg e9.symm)).grown_ hs2 (fun a q => by injection q with q; subst q; have := p.gt; simp; omega), ?_, Blk.grown (Blk.grown h.zb hg (fun e9 => nb z p.ez e9.symm)) hs2 (by have := p.tz; simp; omega), (h.od.grown_ hg (na _ p.de)).grown_ hs2 (nt _ p.dt), hr.grown_ hs2 (nt _ t2), (h.oh.grown_ hg (na _ (p.eh).symm)).grown_ hs2 (nt _ p.ht), fun q hq => ⟨fl_far9 (fl_far9 (h.el q hq).1 hg (na _ (p.re q hq))) hs2 (nt _ (p.rt q hq)), (h.el q hq).2⟩, fun q hq x hx => Nat.lt_of_lt_of_le (Nat.lt_of_lt_of_le (h.bl q hq x hx) hg.size) hs2.size, (h.bz.grown hg h.bz.size (fun b q => ?_)).grown hs2 (by have := h.bz.size; have := hg.size; omega) (fun b q => by injection q with q; have := h.b0.2.1; omega), ⟨p.dg, p.dt, p.dz, n2 g p.eg hlt.1, t2, n2 z p.ez hlt.2.2, p.hg, p.ht, p.hz, m2 _ p.de (fun x hx => (h.od.gt hx).2), p.dh, (m2 _ p.eh.symm (fun x hx => (h.oh.gt hx).2)).symm, p.rg, p.rt, p.rz, p.rd, fun q hq => m2 _ (p.re q hq) (h.bl q hq), p.rh, p.gt, p.gz, p.tz⟩, h.b0⟩
  · have q1 := Blk.grown h.tb hg (fun e9 => nb t p.et e9.symm)
    exact Blk.set_ q1 1 _
  · rcases Ae with _ | x
    · cases q
    · have := (h.oe.gt rfl).1
      simp [Value.ownBlock] at q; omega
theorem na_grow {A B B2 : Option Addr} {n c n2 c2 : Nat} (q : NA A B) (hb : ∀ x, A = some x → x.block < W.heap.size) (ho : (Value.slice B2 n2 c2).ownBlock = (Value.slice B n c).ownBlock ∨ (Value.slice B2 n2 c2).ownBlock = some W.heap.size) : NA A B2 := fun x hx y hy e9 => by
  subst hy
  rcases ho with e1 | e1
  · rcases B with _ | b
    · simp [Value.ownBlock] at e1
    · simp [Value.ownBlock] at e1
      exact q x hx b rfl (by omega)
  · simp [Value.ownBlock] at e1
    have := hb x hx
    omega
theorem RS.lts (h : RS w W N k g t z cap L Ad Ae Ah cd ce ch d e hs) : g < W.heap.size ∧ t < W.heap.size ∧ z < W.heap.size := ⟨(h.oa.gt rfl).2, h.tb.lt, h.zb.lt⟩
/-- a block that is new is apart -/
theorem RS.fresh (h : RS w W N k g t z cap L Ad Ae Ah cd ce ch d e hs) {b : Nat} (hb : W.heap.size ≤ b) : NB (some ⟨b, 0, none⟩) g ∧ NB (some ⟨b, 0, none⟩) t ∧ NB (some ⟨b, 0, none⟩) z ∧ NA (some ⟨b, 0, none⟩) Ad ∧ NA (some ⟨b, 0, none⟩) Ae ∧ NA (some ⟨b, 0, none⟩) Ah := by
  obtain ⟨h1, h2, h3⟩ := h.lts
  refine ⟨fun x e => ?_, fun x e => ?_, fun x e => ?_, fun x e y f => ?_, fun x e y f => ?_, fun x e y f => ?_⟩ <;> (injection e with e; subst e)
  · show b ≠ g; omega
  · show b ≠ t; omega
  · show b ≠ z; omega
  · have := (h.od.gt f).2; show b ≠ _; omega
  · have := (h.oe.gt f).2; show b ≠ _; omega
  · have := (h.oh.gt f).2; show b ≠ _; omega
theorem RS.re {k2 : Nat} (h : RS w W N k g t z cap L Ad Ae Ah cd ce ch d e hs) : RS w W N k2 g t z cap L Ad Ae Ah cd ce ch d e hs := ⟨h.oa, h.tb, h.zb, h.od, h.oe, h.oh, h.el, h.bl, h.bz, h.ap, h.b0⟩
theorem own_nb {b n c : Nat} {B : Option Addr} (h : NB B b) : some b ≠ (Value.slice B n c).ownBlock := by
  rcases B with _ | x
  · intro e; cases e
  · have := h x rfl
    simp [Value.ownBlock]; omega
theorem own_ne {g n c : Nat} {B : Option Addr} (h : NA (some ⟨g, 0, none⟩) B) : some g ≠ (Value.slice B n c).ownBlock := by
  rcases B with _ | b
  · intro e; cases e
  · have := h ⟨g, 0, none⟩ rfl b rfl
    simp [Value.ownBlock]; exact this
theorem below_app6 {n B : Nat} (h : OwnR W B Ah ch hs) (hg : W.grownBy W' (Value.slice Ah n ch).ownBlock) (hl : hs.length = n) (hB : B ≤ W.heap.size) : Below B W W' := by
  subst hl
  exact (Below.refl B W).grown hg hB fun k hk => (World.ownsRow.lt h k hk).1
end
end Go.Proofs.Ytaemkjcmjgefeaa
