/-
  Joined (by wip/tools/joinM.py) of JTdC, JTdD, JTdH, JBdC, JTdE.
-/
import Derived.Test.YtbaeabmmokgomaaMJRfL
import Derived.Test.YtbaeabmmokgomaaMJTdA
import Derived.Test.YtbaeabmmokgomaaMJTdB
import Derived.Test.YtbaeabmmokgomaaMJTdG
import Derived.Test.YtbaeabmmokgomaaMJBdB
import Derived.Test.YtbaeabmmokgomaaMJVxS
namespace Go.Proofs.Ytbaeabmmokgomaa
open Go.RowKit Go.Bw
set_option linter.unusedVariables false
set_option linter.unusedSimpArgs false
attribute [local go_sem] run_store_float

theorem ix_div {i j q : Nat} (hj : j < q) : (i * q + j) / q = i ∧ (i * q + j) % q = j := by
  have q0 : 0 < q := by omega
  constructor
  · rw [Nat.add_comm, Nat.add_mul_div_right _ _ q0, Nat.div_eq_of_lt hj, Nat.zero_add]
  · rw [Nat.add_comm, Nat.add_mul_mod_self_right, Nat.mod_eq_of_lt hj]
theorem ix_back {i j q z : Nat} (h1 : z / q = i) (h2 : z % q = j) : z = i * q + j := by
  have := Nat.div_add_mod z q
  rw [h1, h2, Nat.mul_comm] at this
  exact this.symm
/-- I's first k ones -/
def oneF (n k z : Nat) : Option Nat := if z / n = z % n ∧ z % n < k then some 4607182418800017408 else some 0
theorem oneF_zero (n : Nat) : Is (List.replicate (n * n) 0) (n * n) (oneF n 0) := by
  refine ⟨by simp, fun x hx => ?_, fun k hk => ?_⟩
  · rw [List.eq_of_mem_replicate hx]; omega
  · rw [D_in (by simpa using hk), List.getElem_replicate]
    unfold oneF
    rw [if_neg (by omega)]
    exact fa_zero
theorem oneF_next {n k N z : Nat} {L : List Int} (h : Is L N (oneF n k)) (hk : k < n) (hz : k * n + k = z) (hzN : z < N) : Is (L.set z 4607182418800017408) N (oneF n (k + 1)) := by
  obtain ⟨d1, d2⟩ := ix_div (i := k) hk
  rw [hz] at d1 d2
  refine h.set (by omega) (by omega) hzN ?_ (fun j hj hne => ?_)
  · unfold oneF
    rw [d1, d2, if_pos ⟨rfl, by omega⟩]
    decide
  · unfold oneF
    by_cases c : j / n = j % n ∧ j % n < k
    · rw [if_pos c, if_pos ⟨c.1, by omega⟩]
    · rw [if_neg c, if_neg (fun c2 => ?_)]
      have e : j % n = k := by
        rcases Nat.lt_or_ge (j % n) k with h9 | h9
        · exact absurd ⟨c2.1, h9⟩ c
        · omega
      exact hne (by rw [ix_back (c2.1.trans e) e, hz])
end Go.Proofs.Ytbaeabmmokgomaa
namespace Go.Proofs.Ytbaeabmmokgomaa
open Go.RowKit Go.Bw
set_option linter.unusedVariables false
set_option linter.unusedSimpArgs false
attribute [local go_sem] run_store_float

theorem fl_far {w w' : World} {A : Option Addr} {n c g : Nat} {l : List Int} (h : FL w A n c l) (hg : w.grownBy w' (some g)) (hA : ∀ x, A = some x → 0 < n → x.block ≠ g) : FL w' A n c l := by
  rcases Nat.eq_zero_or_pos n with h0 | h0
  · subst h0
    exact ⟨h.1, ⟨h.2.1.1, h.2.1.2.1, fun hn => by rw [h.1] at hn; omega⟩, h.2.2⟩
  · exact h.farB hg (fun a e => hA a e h0)
def upd (f : Nat → Option Nat) (z : Nat) (v : Option Nat) (j : Nat) : Option Nat := if j = z then v else f j
theorem Is.upd {L : List Int} {N z : Nat} {f : Nat → Option Nat} (h : Is L N f) {x : Int} (x0 : 0 ≤ x) (x1 : x ≤ 18446744073709551615) {v : Option Nat} (hz : z < N) (hx : fa x = v) : Is (L.set z x) N (upd f z v) :=
  h.set x0 x1 hz (by unfold _root_.Go.Proofs.Ytbaeabmmokgomaa.upd; rw [if_pos rfl]; exact hx) (fun j _ hne => by unfold _root_.Go.Proofs.Ytbaeabmmokgomaa.upd; rw [if_neg hne])
/-- the first k rows and columns -/
def fullF (d e : List Int) (n k z : Nat) : Option Nat :=
  if z / n = z % n ∧ z % n < k then fa (D d (z % n)) else if z % n + 1 = z / n ∧ z / n < k then fa (D e (z % n)) else if z / n + 1 = z % n ∧ z % n < k then fa (D e (z / n)) else some 0
theorem fullF_zero (d e : List Int) (n : Nat) : Is (List.replicate (n * n) 0) (n * n) (fullF d e n 0) :=
  (oneF_zero n).congr (fun k _ => by
    unfold fullF oneF
    rw [if_neg (by omega), if_neg (by omega), if_neg (by omega), if_neg (by omega)])
theorem pos_iff {n i j z : Nat} (hi : i < n) (hj : j < n) (hz : z < n * n) : z = i * n + j ↔ z / n = i ∧ z % n = j :=
  ⟨fun h => by rw [h]; exact ix_div hj, fun h => ix_back h.1 h.2⟩
theorem full_first {d e : List Int} {n j : Nat} (hn : 0 < n) (hj : j < n * n) : upd (fullF d e n 0) 0 (fa (D d 0)) j = fullF d e n 1 j := by
  have p := pos_iff (i := 0) (j := 0) hn hn hj
  rw [Nat.zero_mul, Nat.zero_add] at p
  unfold upd fullF
  generalize j / n = r at *
  generalize j % n = c at *
  by_cases h : j = 0
  · obtain ⟨rfl, rfl⟩ := p.1 h
    rw [if_pos h, if_pos (by omega)]
  · have h2 : ¬ (r = 0 ∧ c = 0) := fun q => h (p.2 q)
    rw [if_neg h, if_neg (by omega), if_neg (by omega), if_neg (by omega), if_neg (by omega), if_neg (by omega), if_neg (by omega)]
theorem full_next {d e : List Int} {n k j : Nat} (hk : k + 1 < n) (hj : j < n * n) :
    upd (upd (upd (fullF d e n (k + 1)) ((k + 1) * n + (k + 1)) (fa (D d (k + 1)))) ((k + 1) * n + k) (fa (D e k))) (k * n + (k + 1)) (fa (D e k)) j = fullF d e n (k + 2) j := by
  have p1 := pos_iff (i := k + 1) (j := k + 1) hk hk hj
  have p2 := pos_iff (i := k + 1) (j := k) hk (by omega) hj
  have p3 := pos_iff (i := k) (j := k + 1) (by omega) hk hj
  unfold upd fullF
  generalize j / n = r at *
  generalize j % n = c at *
  by_cases h3 : j = k * n + (k + 1)
  · obtain ⟨rfl, rfl⟩ := p3.1 h3
    rw [if_pos h3, if_neg (by omega), if_neg (by omega), if_pos (by omega)]
  · rw [if_neg h3]
    have q3 : ¬ (r = k ∧ c = k + 1) := fun q => h3 (p3.2 q)
    by_cases h2 : j = (k + 1) * n + k
    · obtain ⟨rfl, rfl⟩ := p2.1 h2
      rw [if_pos h2, if_neg (by omega), if_pos (by omega)]
    · rw [if_neg h2]
      have q2 : ¬ (r = k + 1 ∧ c = k) := fun q => h2 (p2.2 q)
      by_cases h1 : j = (k + 1) * n + (k + 1)
      · obtain ⟨rfl, rfl⟩ := p1.1 h1
        rw [if_pos h1, if_pos (by omega)]
      · rw [if_neg h1]
        have q1 : ¬ (r = k + 1 ∧ c = k + 1) := fun q => h1 (p1.2 q)
        by_cases c1 : r = c ∧ c < k + 1
        · rw [if_pos c1, if_pos (show r = c ∧ c < k + 2 by omega)]
        · rw [if_neg c1, if_neg (show ¬ (r = c ∧ c < k + 2) by omega)]
          by_cases c2 : c + 1 = r ∧ r < k + 1
          · rw [if_pos c2, if_pos (show c + 1 = r ∧ r < k + 2 by omega)]
          · rw [if_neg c2, if_neg (show ¬ (c + 1 = r ∧ r < k + 2) by omega)]
            by_cases c3 : r + 1 = c ∧ c < k + 1
            · rw [if_pos c3, if_pos (show r + 1 = c ∧ c < k + 2 by omega)]
            · rw [if_neg c3, if_neg (show ¬ (r + 1 = c ∧ c < k + 2) by omega)]

end Go.Proofs.Ytbaeabmmokgomaa
namespace Go.Proofs.Ytbaeabmmokgomaa
open Go Go.RowKit Go.Bw
set_option linter.unusedVariables false
set_option linter.unusedSimpArgs false
/-- an address' block is not b -/
def NB (A : Option Addr) (b : Nat) : Prop := ∀ x, A = some x → x.block ≠ b
/-- two addresses' blocks are two -/
def NA (A B : Option Addr) : Prop := ∀ x, A = some x → ∀ y, B = some y → x.block ≠ y.block
theorem NB.none (b : Nat) : NB none b := fun x e => by cases e
theorem NA.symm {A B : Option Addr} (h : NA A B) : NA B A := fun x e y f q => h y f x e q.symm
theorem NA.noneL (B : Option Addr) : NA none B := fun x e => by cases e
theorem NA.nb {A : Option Addr} {g o : Nat} (h : NB A g) : NA A (some ⟨g, o, Option.none⟩) := fun x e y f => by injection f with f; subst f; exact h x e
theorem NB.na {A B : Option Addr} (h : NA A B) {x : Addr} (e : B = some x) : NB A x.block := fun y f => h y f x e
theorem fl_far9 {w w' : World} {A : Option Addr} {n c : Nat} {l : List Int} {row : Option Nat} (h : FL w A n c l) (hg : w.grownBy w' row) (hA : ∀ x, A = some x → some x.block ≠ row) : FL w' A n c l := by
  rcases row with _ | g
  · refine ⟨h.1, ⟨h.2.1.1, h.2.1.2.1, fun hn => ?_⟩, h.2.2⟩
    obtain ⟨ad, e, hb, hc⟩ := h.2.1.2.2 hn
    refine ⟨ad, e, Nat.lt_of_lt_of_le hb hg.size, fun j hj => ?_⟩
    exact (World.grownBy.cell_far hg _ (by rw [add_block]; exact hb) (by rw [add_block]; exact hA ad e)).trans (hc j hj)
  · exact h.farB hg (fun a e q => hA a e (by rw [q]))
/-- the blocks are apart: the matrix' g, the boxes' t and z, the lists' -/
structure Ap (g t z : Nat) (Ad Ae Ah : Option Addr) (hs : List Re) : Prop where
  dg : NB Ad g
  dt : NB Ad t
  dz : NB Ad z
  eg : NB Ae g
  et : NB Ae t
  ez : NB Ae z
  hg : NB Ah g
  ht : NB Ah t
  hz : NB Ah z
  de : NA Ad Ae
  dh : NA Ad Ah
  eh : NA Ae Ah
  rg : ∀ r ∈ hs, NB r.A g
  rt : ∀ r ∈ hs, NB r.A t
  rz : ∀ r ∈ hs, NB r.A z
  rd : ∀ r ∈ hs, NA r.A Ad
  re : ∀ r ∈ hs, NA r.A Ae
  rh : ∀ r ∈ hs, NA r.A Ah
  gt : g ≠ t
  gz : g ≠ z
  tz : t ≠ z
theorem Ap.start (g t z : Nat) (h1 : g ≠ t) (h2 : g ≠ z) (h3 : t ≠ z) : Ap g t z none none none [] :=
  ⟨NB.none _, NB.none _, NB.none _, NB.none _, NB.none _, NB.none _, NB.none _, NB.none _, NB.none _, NA.noneL _, NA.noneL _, NA.noneL _, (fun r h => by cases h), (fun r h => by cases h), (fun r h => by cases h), (fun r h => by cases h), (fun r h => by cases h), (fun r h => by cases h), h1, h2, h3⟩
/-- the state behind k rounds -/
structure RS (w W : World) (N k : Nat) (g t z cap : Nat) (L : List Int) (Ad Ae Ah : Option Addr) (cd ce ch : Nat) (d e : List Int) (hs : List Re) : Prop where
  oa : OwnF W w.heap.size (some ⟨g, 0, none⟩) cap L
  tb : Tbx W t Ad d.length cd Ae e.length ce
  zb : Tbx W z none 0 0 none 0 0
  od : OwnF W w.heap.size Ad cd d
  oe : OwnF W w.heap.size Ae ce e
  oh : OwnR W w.heap.size Ah ch hs
  el : ∀ r ∈ hs, FL W r.A r.l.length r.c r.l ∧ r.t ≤ 18446744073709551615
  bl : ∀ r ∈ hs, ∀ x, r.A = some x → x.block < W.heap.size
  bz : Below w.heap.size w W
  ap : Ap g t z Ad Ae Ah hs
  b0 : w.heap.size ≤ g ∧ w.heap.size ≤ t ∧ w.heap.size ≤ z
section
variable {w W W' : World} {N k g t z cap : Nat} {L : List Int} {Ad Ae Ah : Option Addr} {cd ce ch : Nat} {d e : List Int} {hs : List Re}
theorem RS.on (h : RS w W N k g t z cap L Ad Ae Ah cd ce ch d e hs) (hb : Below W.heap.size W W') : RS w W' N k g t z cap L Ad Ae Ah cd ce ch d e hs :=
  ⟨h.oa.on_ hb, Blk.on h.tb hb, Blk.on h.zb hb, h.od.on_ hb, h.oe.on_ hb, h.oh.below hb, fun r hr => ⟨(h.el r hr).1.on hb, (h.el r hr).2⟩, fun r hr x hx => Nat.lt_of_lt_of_le (h.bl r hr x hx) hb.size, h.bz.trans (hb.mono h.bz.size), h.ap, h.b0⟩
theorem RS.drew (h : RS w W N k g t z cap L Ad Ae Ah cd ce ch d e hs) : RS w W.drew N k g t z cap L Ad Ae Ah cd ce ch d e hs := h.on ((Below.refl _ _).drew)
theorem RS.alloc (h : RS w W N k g t z cap L Ad Ae Ah cd ce ch d e hs) (o : Obj) : RS w (W.alloc o) N k g t z cap L Ad Ae Ah cd ce ch d e hs := h.on ((Below.refl _ W).alloc (Nat.le_refl _) o)
/-- an entry of the matrix is set -/
theorem RS.set (h : RS w W N k g t z cap L Ad Ae Ah cd ce ch d e hs) (i x : Nat) : RS w (W.setCell ⟨g, i, none⟩ (.float .f64 x)) N k g t z cap (L.set i (x : Int)) Ad Ae Ah cd ce ch d e hs := by
  have hg : W.grownBy (W.setCell ⟨g, i, none⟩ (.float .f64 x)) (some g) := grown_setCell (World.grownBy.refl W _) _ _
  have p := h.ap
  refine ⟨?_, Blk.grown h.tb hg (by have := p.gt; simp; omega), Blk.grown h.zb hg (by have := p.gz; simp; omega), h.od.grown_ hg (fun a q => by have := p.dg a q; simp; omega), h.oe.grown_ hg (fun a q => by have := p.eg a q; simp; omega), h.oh.grown_ hg (fun a q => by have := p.hg a q; simp; omega), fun r hr => ⟨(h.el r hr).1.farB hg (p.rg r hr), (h.el r hr).2⟩, fun r hr x hx => Nat.lt_of_lt_of_le (h.bl r hr x hx) hg.size, h.bz.grown hg h.bz.size (fun b q => by injection q with q; have := h.b0.1; omega), p, h.b0⟩
  have := h.oa.set_ i (x : Int)
  rwa [show fV (x : Int) = .float .f64 x from rfl] at this
/-- one more reflection, of a list that is apart -/
theorem RS.refl (h : RS w W N k g t z cap L Ad Ae Ah cd ce ch d e hs) {A2 : Option Addr} {c2 : Nat} {r : Re} (hr : OwnR W' w.heap.size A2 c2 (hs ++ [r])) (hg : W.grownBy W' (Value.slice Ah hs.length ch).ownBlock)
    (ho : (Value.slice A2 (hs.length + 1) c2).ownBlock = (Value.slice Ah hs.length ch).ownBlock ∨ (Value.slice A2 (hs.length + 1) c2).ownBlock = some W.heap.size)
    (hf : FL W' r.A r.l.length r.c r.l) (ht : r.t ≤ 18446744073709551615) (hl : ∀ x, r.A = some x → x.block < W'.heap.size)
    (hrg : NB r.A g) (hrt : NB r.A t) (hrz : NB r.A z) (hrd : NA r.A Ad) (hre : NA r.A Ae) (hrh : NA r.A A2) (hlt : g < W.heap.size ∧ t < W.heap.size ∧ z < W.heap.size) : RS w W' N k g t z cap L Ad Ae A2 cd ce c2 d e (hs ++ [r]) := by
  have p := h.ap
  have nb : ∀ b, NB Ah b → (Value.slice Ah hs.length ch).ownBlock ≠ some b := fun b q => by
    rcases Ah with _ | x
    · intro e; cases e
    · have := q x rfl
      simp [Value.ownBlock]; exact this
  have na : ∀ (B : Option Addr), NA B Ah → ∀ x, B = some x → some x.block ≠ (Value.slice Ah hs.length ch).ownBlock := fun B q x hx => fun e9 => nb x.block (fun y hy => (q x hx y hy).symm) e9.symm
  have n2 : ∀ b, NB Ah b → b < W.heap.size → NB A2 b := fun b q hb x hx => by
    subst hx
    rcases ho with e1 | e1
    · exact fun e9 => nb b q (by rw [← e1]; simp [Value.ownBlock, e9])
    · simp [Value.ownBlock] at e1; omega
  have m2 : ∀ B, NA B Ah → (∀ x, B = some x → x.block < W.heap.size) → NA B A2 := fun B q hb x hx y hy e9 => n2 x.block (fun y hy => (q x hx y hy).symm) (hb x hx) y hy e9.symm
  refine ⟨h.oa.grown_ hg (fun a q => by injection q with q; subst q; exact fun e9 => nb g p.hg e9.symm), Blk.grown h.tb hg (fun e9 => nb t p.ht e9.symm), Blk.grown h.zb hg (fun e9 => nb z p.hz e9.symm), h.od.grown_ hg (na _ p.dh), h.oe.grown_ hg (na _ p.eh), hr, fun q hq => ?_, fun q hq => ?_, h.bz.grown hg h.bz.size (fun b q => ?_), ⟨p.dg, p.dt, p.dz, p.eg, p.et, p.ez, n2 g p.hg hlt.1, n2 t p.ht hlt.2.1, n2 z p.hz hlt.2.2, p.de, m2 _ p.dh (fun x hx => (h.od.gt hx).2), m2 _ p.eh (fun x hx => (h.oe.gt hx).2), ?_, ?_, ?_, ?_, ?_, ?_, p.gt, p.gz, p.tz⟩, h.b0⟩
  · rcases List.mem_append.1 hq with q1 | q1
    · exact ⟨fl_far9 (h.el q q1).1 hg (na _ (p.rh q q1)), (h.el q q1).2⟩
    · rw [List.mem_singleton.1 q1]; exact ⟨hf, ht⟩
  · rcases List.mem_append.1 hq with q1 | q1
    · exact fun x hx => Nat.lt_of_lt_of_le (h.bl q q1 x hx) hg.size
    · rw [List.mem_singleton.1 q1]; exact hl
  · rcases Ah with _ | x
    · cases q
    · have := (h.oh.gt rfl).1
      simp [Value.ownBlock] at q; omega
  all_goals
    intro q hq
    rcases List.mem_append.1 hq with q1 | q1
  · exact p.rg q q1
  · rw [List.mem_singleton.1 q1]; exact hrg
  · exact p.rt q q1
  · rw [List.mem_singleton.1 q1]; exact hrt
  · exact p.rz q q1
  · rw [List.mem_singleton.1 q1]; exact hrz
  · exact p.rd q q1
  · rw [List.mem_singleton.1 q1]; exact hrd
  · exact p.re q q1
  · rw [List.mem_singleton.1 q1]; exact hre
  · exact m2 _ (p.rh q q1) (h.bl q q1)
  · rw [List.mem_singleton.1 q1]; exact hrh
/-- one more float of the diagonal, and its box -/
theorem RS.pushD (h : RS w W N k g t z cap L Ad Ae Ah cd ce ch d e hs) {A2 : Option Addr} {c2 : Nat} {x : Int} (hr : OwnF W' w.heap.size A2 c2 (d ++ [x])) (hg : W.grownBy W' (Value.slice Ad d.length cd).ownBlock)
    (ho : (Value.slice A2 (d ++ [x]).length c2).ownBlock = (Value.slice Ad d.length cd).ownBlock ∨ (Value.slice A2 (d ++ [x]).length c2).ownBlock = some W.heap.size) (hlt : g < W.heap.size ∧ t < W.heap.size ∧ z < W.heap.size) :
    RS w (W'.setCell ⟨t, 0, none⟩ (.slice A2 (d ++ [x]).length c2)) N k g t z cap L A2 Ae Ah c2 ce ch (d ++ [x]) e hs := by
  have p := h.ap
  have hs2 : W'.grownBy (W'.setCell ⟨t, 0, none⟩ (.slice A2 (d ++ [x]).length c2)) (some t) := grown_setCell (World.grownBy.refl W' _) _ _
  have nb : ∀ b, NB Ad b → (Value.slice Ad d.length cd).ownBlock ≠ some b := fun b q => by
    rcases Ad with _ | x
    · intro e; cases e
    · have := q x rfl
      simp [Value.ownBlock]; exact this
  have na : ∀ (B : Option Addr), NA B Ad → ∀ x, B = some x → some x.block ≠ (Value.slice Ad d.length cd).ownBlock := fun B q x hx => fun e9 => nb x.block (fun y hy => (q x hx y hy).symm) e9.symm
  have n2 : ∀ b, NB Ad b → b < W.heap.size → NB A2 b := fun b q hb x hx => by
    subst hx
    rcases ho with e1 | e1
    · exact fun e9 => nb b q (by rw [← e1]; simp [Value.ownBlock, e9])
    · simp [Value.ownBlock] at e1; omega
  have m2 : ∀ B, NA B Ad → (∀ x, B = some x → x.block < W.heap.size) → NA B A2 := fun B q hb x hx y hy e9 => n2 x.block (fun y hy => (q x hx y hy).symm) (hb x hx) y hy e9.symm
  have nt : ∀ B, NB B t → ∀ x, B = some x → some x.block ≠ some t := fun B q x hx e9 => q x hx (by injection e9)
  have t2 := n2 t p.dt hlt.2.1
  refine ⟨(h.oa.grown_ hg (fun a q => by injection q with q; subst q; exact fun e9 => nb g p.dg e9.symm)).grown_ hs2 (fun a q => by injection q with q; subst q; have := p.gt; simp; omega), ?_, Blk.grown (Blk.grown h.zb hg (fun e9 => nb z p.dz e9.symm)) hs2 (by have := p.tz; simp; omega), hr.grown_ hs2 (nt _ t2), (h.oe.grown_ hg (na _ p.de.symm)).grown_ hs2 (nt _ p.et), (h.oh.grown_ hg (na _ (p.dh).symm)).grown_ hs2 (nt _ p.ht), fun q hq => ⟨fl_far9 (fl_far9 (h.el q hq).1 hg (na _ (p.rd q hq))) hs2 (nt _ (p.rt q hq)), (h.el q hq).2⟩, fun q hq x hx => Nat.lt_of_lt_of_le (Nat.lt_of_lt_of_le (h.bl q hq x hx) hg.size) hs2.size, (h.bz.grown hg h.bz.size (fun b q => ?_)).grown hs2 (by have := h.bz.size; have := hg.size; omega) (fun b q => by injection q with q; have := h.b0.2.1; omega), ⟨n2 g p.dg hlt.1, t2, n2 z p.dz hlt.2.2, p.eg, p.et, p.ez, p.hg, p.ht, p.hz, (m2 _ p.de.symm (fun x hx => (h.oe.gt hx).2)).symm, (m2 _ p.dh.symm (fun x hx => (h.oh.gt hx).2)).symm, p.eh, p.rg, p.rt, p.rz, fun q hq => m2 _ (p.rd q hq) (h.bl q hq), p.re, p.rh, p.gt, p.gz, p.tz⟩, h.b0⟩
  · have q1 := Blk.grown h.tb hg (fun e9 => nb t p.dt e9.symm)
    exact Blk.set_ q1 0 _
  · rcases Ad with _ | x
    · cases q
    · have := (h.od.gt rfl).1
      simp [Value.ownBlock] at q; omega
/-- one more float of what is beside it, and its box -/
theorem RS.pushE (h : RS w W N k g t z cap L Ad Ae Ah cd ce ch d e hs) {A2 : Option Addr} {c2 : Nat} {x : Int} (hr : OwnF W' w.heap.size A2 c2 (e ++ [x])) (hg : W.grownBy W' (Value.slice Ae e.length ce).ownBlock)
    (ho : (Value.slice A2 (e ++ [x]).length c2).ownBlock = (Value.slice Ae e.length ce).ownBlock ∨ (Value.slice A2 (e ++ [x]).length c2).ownBlock = some W.heap.size) (hlt : g < W.heap.size ∧ t < W.heap.size ∧ z < W.heap.size) :
    RS w (W'.setCell ⟨t, 1, none⟩ (.slice A2 (e ++ [x]).length c2)) N k g t z cap L Ad A2 Ah cd c2 ch d (e ++ [x]) hs := by
  have p := h.ap
  have hs2 : W'.grownBy (W'.setCell ⟨t, 1, none⟩ (.slice A2 (e ++ [x]).length c2)) (some t) := grown_setCell (World.grownBy.refl W' _) _ _
  have nb : ∀ b, NB Ae b → (Value.slice Ae e.length ce).ownBlock ≠ some b := fun b q => by
    rcases Ae with _ | x
    · intro e; cases e
    · have := q x rfl
      simp [Value.ownBlock]; exact this
  have na : ∀ (B : Option Addr), NA B Ae → ∀ x, B = some x → some x.block ≠ (Value.slice Ae e.length ce).ownBlock := fun B q x hx => fun e9 => nb x.block (fun y hy => (q x hx y hy).symm) e9.symm
  have n2 : ∀ b, NB Ae b → b < W.heap.size → NB A2 b := fun b q hb x hx => by
    subst hx
    rcases ho with e1 | e1
    · exact fun e9 => nb b q (by rw [← e1]; simp [Value.ownBlock, e9])
    · simp [Value.ownBlock] at e1; omega
  have m2 : ∀ B, NA B Ae → (∀ x, B = some x → x.block < W.heap.size) → NA B A2 := fun B q hb x hx y hy e9 => n2 x.block (fun y hy => (q x hx y hy).symm) (hb x hx) y hy e9.symm
  have nt : ∀ B, NB B t → ∀ x, B = some x → some x.block ≠ some t := fun B q x hx e9 => q x hx (by injection e9)
  have t2 := n2 t p.et hlt.2.1
  refine ⟨(h.oa.grown_ hg (fun a q => by injection q with q; subst q; exact fun e9 => nb g p.eg e9.symm)).grown_ hs2 (fun a q => by injection q with q; subst q; have := p.gt; simp; omega), ?_, Blk.grown (Blk.grown h.zb hg (fun e9 => nb z p.ez e9.symm)) hs2 (by have := p.tz; simp; omega), (h.od.grown_ hg (na _ p.de)).grown_ hs2 (nt _ p.dt), hr.grown_ hs2 (nt _ t2), (h.oh.grown_ hg (na _ (p.eh).symm)).grown_ hs2 (nt _ p.ht), fun q hq => ⟨fl_far9 (fl_far9 (h.el q hq).1 hg (na _ (p.re q hq))) hs2 (nt _ (p.rt q hq)), (h.el q hq).2⟩, fun q hq x hx => Nat.lt_of_lt_of_le (Nat.lt_of_lt_of_le (h.bl q hq x hx) hg.size) hs2.size, (h.bz.grown hg h.bz.size (fun b q => ?_)).grown hs2 (by have := h.bz.size; have := hg.size; omega) (fun b q => by injection q with q; have := h.b0.2.1; omega), ⟨p.dg, p.dt, p.dz, n2 g p.eg hlt.1, t2, n2 z p.ez hlt.2.2, p.hg, p.ht, p.hz, m2 _ p.de (fun x hx => (h.od.gt hx).2), p.dh, (m2 _ p.eh.symm (fun x hx => (h.oh.gt hx).2)).symm, p.rg, p.rt, p.rz, p.rd, fun q hq => m2 _ (p.re q hq) (h.bl q hq), p.rh, p.gt, p.gz, p.tz⟩, h.b0⟩
  · have q1 := Blk.grown h.tb hg (fun e9 => nb t p.et e9.symm)
    exact Blk.set_ q1 1 _
  · rcases Ae with _ | x
    · cases q
    · have := (h.oe.gt rfl).1
      simp [Value.ownBlock] at q; omega
theorem na_grow {A B B2 : Option Addr} {n c n2 c2 : Nat} (q : NA A B) (hb : ∀ x, A = some x → x.block < W.heap.size) (ho : (Value.slice B2 n2 c2).ownBlock = (Value.slice B n c).ownBlock ∨ (Value.slice B2 n2 c2).ownBlock = some W.heap.size) : NA A B2 := fun x hx y hy e9 => by
  subst hy
  rcases ho with e1 | e1
  · rcases B with _ | b
    · simp [Value.ownBlock] at e1
    · simp [Value.ownBlock] at e1
      exact q x hx b rfl (by omega)
  · simp [Value.ownBlock] at e1
    have := hb x hx
    omega
theorem RS.lts (h : RS w W N k g t z cap L Ad Ae Ah cd ce ch d e hs) : g < W.heap.size ∧ t < W.heap.size ∧ z < W.heap.size := ⟨(h.oa.gt rfl).2, h.tb.lt, h.zb.lt⟩
/-- a block that is new is apart -/
theorem RS.fresh (h : RS w W N k g t z cap L Ad Ae Ah cd ce ch d e hs) {b : Nat} (hb : W.heap.size ≤ b) : NB (some ⟨b, 0, none⟩) g ∧ NB (some ⟨b, 0, none⟩) t ∧ NB (some ⟨b, 0, none⟩) z ∧ NA (some ⟨b, 0, none⟩) Ad ∧ NA (some ⟨b, 0, none⟩) Ae ∧ NA (some ⟨b, 0, none⟩) Ah := by
  obtain ⟨h1, h2, h3⟩ := h.lts
  refine ⟨fun x e => ?_, fun x e => ?_, fun x e => ?_, fun x e y f => ?_, fun x e y f => ?_, fun x e y f => ?_⟩ <;> (injection e with e; subst e)
  · show b ≠ g; omega
  · show b ≠ t; omega
  · show b ≠ z; omega
  · have := (h.od.gt f).2; show b ≠ _; omega
  · have := (h.oe.gt f).2; show b ≠ _; omega
  · have := (h.oh.gt f).2; show b ≠ _; omega
theorem RS.re {k2 : Nat} (h : RS w W N k g t z cap L Ad Ae Ah cd ce ch d e hs) : RS w W N k2 g t z cap L Ad Ae Ah cd ce ch d e hs := ⟨h.oa, h.tb, h.zb, h.od, h.oe, h.oh, h.el, h.bl, h.bz, h.ap, h.b0⟩
theorem own_nb {b n c : Nat} {B : Option Addr} (h : NB B b) : some b ≠ (Value.slice B n c).ownBlock := by
  rcases B with _ | x
  · intro e; cases e
  · have := h x rfl
    simp [Value.ownBlock]; omega
theorem own_ne {g n c : Nat} {B : Option Addr} (h : NA (some ⟨g, 0, none⟩) B) : some g ≠ (Value.slice B n c).ownBlock := by
  rcases B with _ | b
  · intro e; cases e
  · have := h ⟨g, 0, none⟩ rfl b rfl
    simp [Value.ownBlock]; exact this
theorem below_app6 {n B : Nat} (h : OwnR W B Ah ch hs) (hg : W.grownBy W' (Value.slice Ah n ch).ownBlock) (hl : hs.length = n) (hB : B ≤ W.heap.size) : Below B W W' := by
  subst hl
  exact (Below.refl B W).grown hg hB fun k hk => (World.ownsRow.lt h k hk).1
end
end Go.Proofs.Ytbaeabmmokgomaa
namespace Go.Proofs.Ytbaeabmmokgomaa
open Go Go.RowKit Go.Bw
set_option linter.unusedVariables false
set_option linter.unusedSimpArgs false
/-- an address' block has the tag t -/
def Tg (own : Nat → Nat) (A : Option Addr) (t : Nat) : Prop := ∀ x, A = some x → own x.block = t
/-- blocks from n on have the tag i -/
def tgU (own : Nat → Nat) (n i : Nat) (b : Nat) : Nat := if b < n then own b else i
theorem Tg.none (own : Nat → Nat) (t : Nat) : Tg own none t := fun x e => by cases e
theorem Tg.na {own : Nat → Nat} {A B : Option Addr} {s t : Nat} (h : Tg own A s) (k : Tg own B t) (hn : s ≠ t) : NA A B := fun x hx y hy e => hn (by rw [← h x hx, ← k y hy, e])
theorem Tg.nb {own : Nat → Nat} {A : Option Addr} {b t s : Nat} (h : Tg own A t) (hb : own b = s) (hn : t ≠ s) : NB A b := fun x hx e => hn (by rw [← h x hx, ← hb, e])
theorem Tg.up {own : Nat → Nat} {A : Option Addr} {t n : Nat} (h : Tg own A t) (i : Nat) (hl : ∀ x, A = some x → x.block < n) : Tg (tgU own n i) A t := fun x hx => by
  unfold tgU
  rw [if_pos (hl x hx)]
  exact h x hx
theorem tgU_lt {own : Nat → Nat} {n i b s : Nat} (h : own b = s) (hl : b < n) : tgU own n i b = s := by unfold tgU; rw [if_pos hl]; exact h
theorem tgU_new {own : Nat → Nat} {n i : Nat} {A : Option Addr} (h : ∀ x, A = some x → n ≤ x.block) : Tg (tgU own n i) A i := fun x hx => by
  unfold tgU
  rw [if_neg (by have := h x hx; omega)]
theorem Tg.push {own : Nat → Nat} {A A2 : Option Addr} {n i a c a2 c2 : Nat} (h : Tg own A i) (ho : (Value.slice A2 a2 c2).ownBlock = (Value.slice A a c).ownBlock ∨ (Value.slice A2 a2 c2).ownBlock = some n) (hl : ∀ x, A = some x → x.block < n) : Tg (tgU own n i) A2 i := fun x hx => by
  subst hx
  unfold tgU
  rcases ho with e1 | e1
  · rcases A with _ | y
    · simp [Value.ownBlock] at e1
    · simp [Value.ownBlock] at e1
      rw [e1, if_pos (hl y rfl)]
      exact h y rfl
  · simp [Value.ownBlock] at e1
    rw [if_neg (by omega)]
theorem na_own9 {A A2 : Option Addr} {n c : Nat} (h : NA A A2) : ∀ x, A = some x → some x.block ≠ (Value.slice A2 n c).ownBlock := fun x hx => own_nb (fun y hy => (h x hx y hy).symm)
/-- the state behind some columns -/
structure BS (w W : World) (m n N : Nat) (ba bz bb : Nat) (own : Nat → Nat) (A : Option Addr) (c : Nat) (L : List Int) (Ad Ae Al Ar : Option Addr) (cd ce cl cr : Nat) (d e : List Int) (hs gs : List Re) : Prop where
  oa : FL W A N c L
  la : ∀ x, A = some x → x.block < W.heap.size
  ta : Tg own A 0
  xa : Mbx W ba m n A N c
  xz : Tbx W bz none 0 0 none 0 0
  xb : Tbx W bb Ad d.length cd Ae e.length ce
  od : OwnF W w.heap.size Ad cd d
  oe : OwnF W w.heap.size Ae ce e
  ol : OwnR W w.heap.size Al cl hs
  og : OwnR W w.heap.size Ar cr gs
  td : Tg own Ad 1
  te : Tg own Ae 2
  tl : Tg own Al 3
  tr : Tg own Ar 4
  eh : ∀ r ∈ hs, (FL W r.A r.l.length r.c r.l ∧ r.t ≤ 18446744073709551615) ∧ Tg own r.A 0 ∧ ∀ x, r.A = some x → x.block < W.heap.size
  eg : ∀ r ∈ gs, (FL W r.A r.l.length r.c r.l ∧ r.t ≤ 18446744073709551615) ∧ Tg own r.A 0 ∧ ∀ x, r.A = some x → x.block < W.heap.size
  bx : own ba = 9 ∧ own bz = 9 ∧ own bb = 9
  b3 : ba ≠ bz ∧ ba ≠ bb ∧ bz ≠ bb
  b0 : w.heap.size ≤ ba ∧ w.heap.size ≤ bz ∧ w.heap.size ≤ bb
  bw : Below w.heap.size w W
section
variable {w W W' : World} {m n N ba bz bb : Nat} {own : Nat → Nat} {A : Option Addr} {c : Nat} {L : List Int} {Ad Ae Al Ar : Option Addr} {cd ce cl cr : Nat} {d e : List Int} {hs gs : List Re}
theorem BS.on (h : BS w W m n N ba bz bb own A c L Ad Ae Al Ar cd ce cl cr d e hs gs) (hb : Below W.heap.size W W') : BS w W' m n N ba bz bb own A c L Ad Ae Al Ar cd ce cl cr d e hs gs :=
  ⟨h.oa.on hb, fun x q => Nat.lt_of_lt_of_le (h.la x q) hb.size, h.ta, Blk.on h.xa hb, Blk.on h.xz hb, Blk.on h.xb hb, h.od.on_ hb, h.oe.on_ hb, h.ol.below hb, h.og.below hb, h.td, h.te, h.tl, h.tr,
   fun r q => ⟨⟨(h.eh r q).1.1.on hb, (h.eh r q).1.2⟩, (h.eh r q).2.1, fun x y => Nat.lt_of_lt_of_le ((h.eh r q).2.2 x y) hb.size⟩, fun r q => ⟨⟨(h.eg r q).1.1.on hb, (h.eg r q).1.2⟩, (h.eg r q).2.1, fun x y => Nat.lt_of_lt_of_le ((h.eg r q).2.2 x y) hb.size⟩,
   h.bx, h.b3, h.b0, h.bw.trans (hb.mono h.bw.size)⟩
theorem BS.drew (h : BS w W m n N ba bz bb own A c L Ad Ae Al Ar cd ce cl cr d e hs gs) : BS w W.drew m n N ba bz bb own A c L Ad Ae Al Ar cd ce cl cr d e hs gs := h.on ((Below.refl _ _).drew)
theorem BS.alloc (h : BS w W m n N ba bz bb own A c L Ad Ae Al Ar cd ce cl cr d e hs gs) (o : Obj) : BS w (W.alloc o) m n N ba bz bb own A c L Ad Ae Al Ar cd ce cl cr d e hs gs := h.on ((Below.refl _ W).alloc (Nat.le_refl _) o)
theorem BS.lts (h : BS w W m n N ba bz bb own A c L Ad Ae Al Ar cd ce cl cr d e hs gs) : ba < W.heap.size ∧ bz < W.heap.size ∧ bb < W.heap.size := ⟨Blk.lt h.xa, Blk.lt h.xz, Blk.lt h.xb⟩
/-- the tags of what is made from here on -/
theorem BS.tags (h : BS w W m n N ba bz bb own A c L Ad Ae Al Ar cd ce cl cr d e hs gs) (i : Nat) : BS w W m n N ba bz bb (tgU own W.heap.size i) A c L Ad Ae Al Ar cd ce cl cr d e hs gs :=
  ⟨h.oa, h.la, h.ta.up i h.la, h.xa, h.xz, h.xb, h.od, h.oe, h.ol, h.og, h.td.up i (fun x q => (h.od.gt q).2), h.te.up i (fun x q => (h.oe.gt q).2), h.tl.up i (fun x q => (h.ol.gt q).2), h.tr.up i (fun x q => (h.og.gt q).2),
   fun r q => ⟨(h.eh r q).1, (h.eh r q).2.1.up i (h.eh r q).2.2, (h.eh r q).2.2⟩, fun r q => ⟨(h.eg r q).1, (h.eg r q).2.1.up i (h.eg r q).2.2, (h.eg r q).2.2⟩,
   ⟨tgU_lt h.bx.1 h.lts.1, tgU_lt h.bx.2.1 h.lts.2.1, tgU_lt h.bx.2.2 h.lts.2.2⟩, h.b3, h.b0, h.bw⟩
theorem below_own {n2 c2 : Nat} {A2 : Option Addr} (h : Below w.heap.size w W) (hg : W.grownBy W' (Value.slice A2 n2 c2).ownBlock) (hB : ∀ x, A2 = some x → w.heap.size ≤ x.block) : Below w.heap.size w W' :=
  h.grown hg h.size (fun b q => by
    rcases A2 with _ | x
    · cases q
    · have := hB x rfl
      simp [Value.ownBlock] at q; omega)
/-- one more float of the diagonal, and its box -/
theorem BS.pushD (h : BS w W m n N ba bz bb own A c L Ad Ae Al Ar cd ce cl cr d e hs gs) {A2 : Option Addr} {c2 : Nat} {x : Int} (hr : OwnF W' w.heap.size A2 c2 (d ++ [x])) (hg : W.grownBy W' (Value.slice Ad d.length cd).ownBlock)
    (ho : (Value.slice A2 (d ++ [x]).length c2).ownBlock = (Value.slice Ad d.length cd).ownBlock ∨ (Value.slice A2 (d ++ [x]).length c2).ownBlock = some W.heap.size) :
    BS w (W'.setCell ⟨bb, 0, none⟩ (.slice A2 (d ++ [x]).length c2)) m n N ba bz bb (tgU own W.heap.size 1) A c L A2 Ae Al Ar c2 ce cl cr (d ++ [x]) e hs gs := by
  have h2 := h.tags 1
  have hs2 : W'.grownBy (W'.setCell ⟨bb, 0, none⟩ (.slice A2 (d ++ [x]).length c2)) (some bb) := grown_setCell (World.grownBy.refl W' _) _ _
  have t2 : Tg (tgU own W.heap.size 1) A2 1 := h.td.push ho (fun x q => (h.od.gt q).2)
  have nn : ∀ {B : Option Addr} {s : Nat}, Tg (tgU own W.heap.size 1) B s → s ≠ 9 → ∀ x, B = some x → some x.block ≠ some bb := fun k q x hx e9 => (k.nb h2.bx.2.2 q) x hx (by injection e9)
  have no : ∀ {B : Option Addr} {s : Nat}, Tg (tgU own W.heap.size 1) B s → s ≠ 1 → ∀ x, B = some x → some x.block ≠ (Value.slice Ad d.length cd).ownBlock := fun k q => na_own9 (k.na h2.td q)
  refine ⟨fl_far9 (fl_far9 h.oa hg (no h2.ta (by decide))) hs2 (nn h2.ta (by decide)), fun x q => Nat.lt_of_lt_of_le (Nat.lt_of_lt_of_le (h.la x q) hg.size) hs2.size, h2.ta,
    Blk.grown (Blk.grown h.xa hg (own_nb (h2.td.nb h2.bx.1 (by decide)))) hs2 (by have := h.b3.2.1; simp; omega), Blk.grown (Blk.grown h.xz hg (own_nb (h2.td.nb h2.bx.2.1 (by decide)))) hs2 (by have := h.b3.2.2; simp; omega),
    Blk.set_ (Blk.grown h.xb hg (own_nb (h2.td.nb h2.bx.2.2 (by decide)))) 0 _, hr.grown_ hs2 (nn t2 (by decide)), (h.oe.grown_ hg (no h2.te (by decide))).grown_ hs2 (nn h2.te (by decide)), (h.ol.grown_ hg (no h2.tl (by decide))).grown_ hs2 (nn h2.tl (by decide)), (h.og.grown_ hg (no h2.tr (by decide))).grown_ hs2 (nn h2.tr (by decide)),
    t2, h2.te, h2.tl, h2.tr, fun r q => ⟨⟨fl_far9 (fl_far9 (h.eh r q).1.1 hg (no (h2.eh r q).2.1 (by decide))) hs2 (nn (h2.eh r q).2.1 (by decide)), (h.eh r q).1.2⟩, (h2.eh r q).2.1, fun x y => Nat.lt_of_lt_of_le (Nat.lt_of_lt_of_le ((h.eh r q).2.2 x y) hg.size) hs2.size⟩,
    fun r q => ⟨⟨fl_far9 (fl_far9 (h.eg r q).1.1 hg (no (h2.eg r q).2.1 (by decide))) hs2 (nn (h2.eg r q).2.1 (by decide)), (h.eg r q).1.2⟩, (h2.eg r q).2.1, fun x y => Nat.lt_of_lt_of_le (Nat.lt_of_lt_of_le ((h.eg r q).2.2 x y) hg.size) hs2.size⟩, h2.bx, h.b3, h.b0,
    (below_own h.bw hg (fun x q => (h.od.gt q).1)).grown hs2 (by have := h.bw.size; have := hg.size; omega) (fun b q => by injection q with q; have := h.b0.2.2; omega)⟩
/-- one more float above it, and its box -/
theorem BS.pushE (h : BS w W m n N ba bz bb own A c L Ad Ae Al Ar cd ce cl cr d e hs gs) {A2 : Option Addr} {c2 : Nat} {x : Int} (hr : OwnF W' w.heap.size A2 c2 (e ++ [x])) (hg : W.grownBy W' (Value.slice Ae e.length ce).ownBlock)
    (ho : (Value.slice A2 (e ++ [x]).length c2).ownBlock = (Value.slice Ae e.length ce).ownBlock ∨ (Value.slice A2 (e ++ [x]).length c2).ownBlock = some W.heap.size) :
    BS w (W'.setCell ⟨bb, 1, none⟩ (.slice A2 (e ++ [x]).length c2)) m n N ba bz bb (tgU own W.heap.size 2) A c L Ad A2 Al Ar cd c2 cl cr d (e ++ [x]) hs gs := by
  have h2 := h.tags 2
  have hs2 : W'.grownBy (W'.setCell ⟨bb, 1, none⟩ (.slice A2 (e ++ [x]).length c2)) (some bb) := grown_setCell (World.grownBy.refl W' _) _ _
  have t2 : Tg (tgU own W.heap.size 2) A2 2 := h.te.push ho (fun x q => (h.oe.gt q).2)
  have nn : ∀ {B : Option Addr} {s : Nat}, Tg (tgU own W.heap.size 2) B s → s ≠ 9 → ∀ x, B = some x → some x.block ≠ some bb := fun k q x hx e9 => (k.nb h2.bx.2.2 q) x hx (by injection e9)
  have no : ∀ {B : Option Addr} {s : Nat}, Tg (tgU own W.heap.size 2) B s → s ≠ 2 → ∀ x, B = some x → some x.block ≠ (Value.slice Ae e.length ce).ownBlock := fun k q => na_own9 (k.na h2.te q)
  refine ⟨fl_far9 (fl_far9 h.oa hg (no h2.ta (by decide))) hs2 (nn h2.ta (by decide)), fun x q => Nat.lt_of_lt_of_le (Nat.lt_of_lt_of_le (h.la x q) hg.size) hs2.size, h2.ta,
    Blk.grown (Blk.grown h.xa hg (own_nb (h2.te.nb h2.bx.1 (by decide)))) hs2 (by have := h.b3.2.1; simp; omega), Blk.grown (Blk.grown h.xz hg (own_nb (h2.te.nb h2.bx.2.1 (by decide)))) hs2 (by have := h.b3.2.2; simp; omega),
    Blk.set_ (Blk.grown h.xb hg (own_nb (h2.te.nb h2.bx.2.2 (by decide)))) 1 _, (h.od.grown_ hg (no h2.td (by decide))).grown_ hs2 (nn h2.td (by decide)), hr.grown_ hs2 (nn t2 (by decide)), (h.ol.grown_ hg (no h2.tl (by decide))).grown_ hs2 (nn h2.tl (by decide)), (h.og.grown_ hg (no h2.tr (by decide))).grown_ hs2 (nn h2.tr (by decide)),
    h2.td, t2, h2.tl, h2.tr, fun r q => ⟨⟨fl_far9 (fl_far9 (h.eh r q).1.1 hg (no (h2.eh r q).2.1 (by decide))) hs2 (nn (h2.eh r q).2.1 (by decide)), (h.eh r q).1.2⟩, (h2.eh r q).2.1, fun x y => Nat.lt_of_lt_of_le (Nat.lt_of_lt_of_le ((h.eh r q).2.2 x y) hg.size) hs2.size⟩,
    fun r q => ⟨⟨fl_far9 (fl_far9 (h.eg r q).1.1 hg (no (h2.eg r q).2.1 (by decide))) hs2 (nn (h2.eg r q).2.1 (by decide)), (h.eg r q).1.2⟩, (h2.eg r q).2.1, fun x y => Nat.lt_of_lt_of_le (Nat.lt_of_lt_of_le ((h.eg r q).2.2 x y) hg.size) hs2.size⟩, h2.bx, h.b3, h.b0,
    (below_own h.bw hg (fun x q => (h.oe.gt q).1)).grown hs2 (by have := h.bw.size; have := hg.size; omega) (fun b q => by injection q with q; have := h.b0.2.2; omega)⟩
/-- one more reflection of the left ones -/
theorem BS.pushL (h : BS w W m n N ba bz bb own A c L Ad Ae Al Ar cd ce cl cr d e hs gs) {A2 : Option Addr} {c2 : Nat} {r : Re} (hr : OwnR W' w.heap.size A2 c2 (hs ++ [r])) (hg : W.grownBy W' (Value.slice Al hs.length cl).ownBlock)
    (ho : (Value.slice A2 (hs.length + 1) c2).ownBlock = (Value.slice Al hs.length cl).ownBlock ∨ (Value.slice A2 (hs.length + 1) c2).ownBlock = some W.heap.size)
    (hf : FL W r.A r.l.length r.c r.l) (ht : r.t ≤ 18446744073709551615) (h0 : Tg own r.A 0) (hl : ∀ x, r.A = some x → x.block < W.heap.size) :
    BS w W' m n N ba bz bb (tgU own W.heap.size 3) A c L Ad Ae A2 Ar cd ce c2 cr d e (hs ++ [r]) gs := by
  have h2 := h.tags 3
  have t2 : Tg (tgU own W.heap.size 3) A2 3 := h.tl.push ho (fun x q => (h.ol.gt q).2)
  have no : ∀ {B : Option Addr} {s : Nat}, Tg (tgU own W.heap.size 3) B s → s ≠ 3 → ∀ x, B = some x → some x.block ≠ (Value.slice Al hs.length cl).ownBlock := fun k q => na_own9 (k.na h2.tl q)
  have nw := h0.up 3 hl
  refine ⟨fl_far9 h.oa hg (no h2.ta (by decide)), fun x q => Nat.lt_of_lt_of_le (h.la x q) hg.size, h2.ta, Blk.grown h.xa hg (own_nb (h2.tl.nb h2.bx.1 (by decide))), Blk.grown h.xz hg (own_nb (h2.tl.nb h2.bx.2.1 (by decide))), Blk.grown h.xb hg (own_nb (h2.tl.nb h2.bx.2.2 (by decide))),
    h.od.grown_ hg (no h2.td (by decide)), h.oe.grown_ hg (no h2.te (by decide)), hr, h.og.grown_ hg (no h2.tr (by decide)), h2.td, h2.te, t2, h2.tr, fun q hq => ?_, fun r q => ⟨⟨fl_far9 (h.eg r q).1.1 hg (no (h2.eg r q).2.1 (by decide)), (h.eg r q).1.2⟩, (h2.eg r q).2.1, fun x y => Nat.lt_of_lt_of_le ((h.eg r q).2.2 x y) hg.size⟩, h2.bx, h.b3, h.b0, below_own h.bw hg (fun x q => (h.ol.gt q).1)⟩
  rcases List.mem_append.1 hq with q1 | q1
  · exact ⟨⟨fl_far9 (h.eh q q1).1.1 hg (no (h2.eh q q1).2.1 (by decide)), (h.eh q q1).1.2⟩, (h2.eh q q1).2.1, fun x y => Nat.lt_of_lt_of_le ((h.eh q q1).2.2 x y) hg.size⟩
  · rw [List.mem_singleton.1 q1]
    exact ⟨⟨fl_far9 hf hg (no nw (by decide)), ht⟩, nw, fun x y => Nat.lt_of_lt_of_le (hl x y) hg.size⟩
/-- one more reflection of the right ones -/
theorem BS.pushR (h : BS w W m n N ba bz bb own A c L Ad Ae Al Ar cd ce cl cr d e hs gs) {A2 : Option Addr} {c2 : Nat} {r : Re} (hr : OwnR W' w.heap.size A2 c2 (gs ++ [r])) (hg : W.grownBy W' (Value.slice Ar gs.length cr).ownBlock)
    (ho : (Value.slice A2 (gs.length + 1) c2).ownBlock = (Value.slice Ar gs.length cr).ownBlock ∨ (Value.slice A2 (gs.length + 1) c2).ownBlock = some W.heap.size)
    (hf : FL W r.A r.l.length r.c r.l) (ht : r.t ≤ 18446744073709551615) (h0 : Tg own r.A 0) (hl : ∀ x, r.A = some x → x.block < W.heap.size) :
    BS w W' m n N ba bz bb (tgU own W.heap.size 4) A c L Ad Ae Al A2 cd ce cl c2 d e hs (gs ++ [r]) := by
  have h2 := h.tags 4
  have t2 : Tg (tgU own W.heap.size 4) A2 4 := h.tr.push ho (fun x q => (h.og.gt q).2)
  have no : ∀ {B : Option Addr} {s : Nat}, Tg (tgU own W.heap.size 4) B s → s ≠ 4 → ∀ x, B = some x → some x.block ≠ (Value.slice Ar gs.length cr).ownBlock := fun k q => na_own9 (k.na h2.tr q)
  have nw := h0.up 4 hl
  refine ⟨fl_far9 h.oa hg (no h2.ta (by decide)), fun x q => Nat.lt_of_lt_of_le (h.la x q) hg.size, h2.ta, Blk.grown h.xa hg (own_nb (h2.tr.nb h2.bx.1 (by decide))), Blk.grown h.xz hg (own_nb (h2.tr.nb h2.bx.2.1 (by decide))), Blk.grown h.xb hg (own_nb (h2.tr.nb h2.bx.2.2 (by decide))),
    h.od.grown_ hg (no h2.td (by decide)), h.oe.grown_ hg (no h2.te (by decide)), h.ol.grown_ hg (no h2.tl (by decide)), hr, h2.td, h2.te, h2.tl, t2, fun r q => ⟨⟨fl_far9 (h.eh r q).1.1 hg (no (h2.eh r q).2.1 (by decide)), (h.eh r q).1.2⟩, (h2.eh r q).2.1, fun x y => Nat.lt_of_lt_of_le ((h.eh r q).2.2 x y) hg.size⟩, fun q hq => ?_, h2.bx, h.b3, h.b0, below_own h.bw hg (fun x q => (h.og.gt q).1)⟩
  rcases List.mem_append.1 hq with q1 | q1
  · exact ⟨⟨fl_far9 (h.eg q q1).1.1 hg (no (h2.eg q q1).2.1 (by decide)), (h.eg q q1).1.2⟩, (h2.eg q q1).2.1, fun x y => Nat.lt_of_lt_of_le ((h.eg q q1).2.2 x y) hg.size⟩
  · rw [List.mem_singleton.1 q1]
    exact ⟨⟨fl_far9 hf hg (no nw (by decide)), ht⟩, nw, fun x y => Nat.lt_of_lt_of_le (hl x y) hg.size⟩
/-- another matrix, in new memory -/
theorem BS.setA (h : BS w W m n N ba bz bb own A c L Ad Ae Al Ar cd ce cl cr d e hs gs) {A2 : Option Addr} {c2 : Nat} {L2 : List Int} (hb : Below W.heap.size W W') (hO : OwnF W' W.heap.size A2 c2 L2) (hw : Wd L2) (hl : L2.length = N) :
    BS w (((W'.setCell ⟨ba, 0, none⟩ (.int .i64 m)).setCell ⟨ba, 1, none⟩ (.int .i64 n)).setCell ⟨ba, 2, none⟩ (.slice A2 N c2)) m n N ba bz bb (tgU own W.heap.size 0) A2 c2 L2 Ad Ae Al Ar cd ce cl cr d e hs gs := by
  have h2 := (h.tags 0).on hb
  have hs2 : W'.grownBy (((W'.setCell ⟨ba, 0, none⟩ (.int .i64 m)).setCell ⟨ba, 1, none⟩ (.int .i64 n)).setCell ⟨ba, 2, none⟩ (.slice A2 N c2)) (some ba) := grown_setCell (grown_setCell (grown_setCell (World.grownBy.refl W' _) 0 _) 1 _) 2 _
  have nn : ∀ {B : Option Addr} {s : Nat}, Tg (tgU own W.heap.size 0) B s → s ≠ 9 → ∀ x, B = some x → some x.block ≠ some ba := fun k q x hx e9 => (k.nb h2.bx.1 q) x hx (by injection e9)
  have tn : Tg (tgU own W.heap.size 0) A2 0 := tgU_new (fun x q => (hO.gt q).1)
  have hF := hO.fl hw
  rw [hl] at hF
  refine ⟨fl_far9 hF hs2 (nn tn (by decide)), fun x q => Nat.lt_of_lt_of_le (hO.gt q).2 hs2.size, tn, Mbx.put h2.xa m n A2 N c2, Blk.grown h2.xz hs2 (by have := h.b3.1; simp; omega), Blk.grown h2.xb hs2 (by have := h.b3.2.1; simp; omega),
    h2.od.grown_ hs2 (nn h2.td (by decide)), h2.oe.grown_ hs2 (nn h2.te (by decide)), h2.ol.grown_ hs2 (nn h2.tl (by decide)), h2.og.grown_ hs2 (nn h2.tr (by decide)), h2.td, h2.te, h2.tl, h2.tr,
    fun r q => ⟨⟨fl_far9 (h2.eh r q).1.1 hs2 (nn (h2.eh r q).2.1 (by decide)), (h2.eh r q).1.2⟩, (h2.eh r q).2.1, fun x y => Nat.lt_of_lt_of_le ((h2.eh r q).2.2 x y) hs2.size⟩, fun r q => ⟨⟨fl_far9 (h2.eg r q).1.1 hs2 (nn (h2.eg r q).2.1 (by decide)), (h2.eg r q).1.2⟩, (h2.eg r q).2.1, fun x y => Nat.lt_of_lt_of_le ((h2.eg r q).2.2 x y) hs2.size⟩,
    h2.bx, h.b3, h.b0, h2.bw.grown hs2 h2.bw.size (fun b q => by injection q with q; have := h.b0.1; omega)⟩
end
end Go.Proofs.Ytbaeabmmokgomaa
namespace Go.Proofs.Ytbaeabmmokgomaa
open Go.RowKit Go.Bw
set_option linter.unusedVariables false
set_option linter.unusedSimpArgs false
attribute [local go_sem] run_store_float

/-- the reflection at j, done from the left -/
def qF (L : List Int) (n j : Nat) (e : Re) : Nat → Option Nat := tg (lP (eqA (af e.t) (some 0)) (j + 1) (n - 1 - j) (j + 1) (n - (j + 1))) (lF L e.l n (j + 1) (n - 1 - j) (af e.t)) L n
theorem qF_same {L L2 : List Int} (h : SameF L L2) (n j : Nat) (e : Re) (i : Nat) : qF L n j e i = qF L2 n j e i := by
  have q : ma L n = ma L2 n := funext fun a => funext fun b => h.at_ _
  unfold qF tg lF
  rw [h.at_ i, q]
/-- what the reflections from k on come to -/
structure Tq (n K k : Nat) (hs : List Re) (Qs : Nat → List Int) : Prop where
  top : Is (Qs K) (n * n) (oneF n n)
  step : ∀ (j : Nat) (e : Re), k ≤ j → hs[j]? = some e → Is (Qs j) (n * n) (qF (Qs (j + 1)) n j e)
theorem Tq.start {n K : Nat} {hs : List Re} {L : List Int} (h : Is L (n * n) (oneF n n)) (hl : hs.length = K) : Tq n K K hs (fun _ => L) :=
  ⟨h, fun j e hj he => by rw [List.getElem?_eq_none (by omega)] at he; cases he⟩
theorem Tq.next {n K j : Nat} {hs : List Re} {Qs : Nat → List Int} {L : List Int} {e : Re} (h : Tq n K (j + 1) hs Qs) (hj : j < K) (he : hs[j]? = some e) (hL : Is L (n * n) (qF (Qs (j + 1)) n j e)) : Tq n K j hs (fun i => if i = j then L else Qs i) := by
  refine ⟨?_, fun i d hi hd => ?_⟩
  · show Is (if K = j then L else Qs K) _ _
    rw [if_neg (by omega)]
    exact h.top
  · show Is (if i = j then L else Qs i) _ (qF (if i + 1 = j then L else Qs (i + 1)) n i d)
    rw [if_neg (show ¬ i + 1 = j by omega)]
    by_cases c : i = j
    · subst c
      rw [if_pos rfl]
      obtain rfl : e = d := Option.some.inj (he.symm.trans hd)
      exact hL
    · rw [if_neg c]
      exact h.step i d (by omega) hd
theorem Tq.same {n K : Nat} {hs : List Re} {Qs Ps : Nat → List Int} (h : Tq n K 0 hs Qs) (k : Tq n K 0 hs Ps) (hl : hs.length = K) : SameF (Qs 0) (Ps 0) := by
  have S : ∀ d, d ≤ K → SameF (Qs (K - d)) (Ps (K - d)) := fun d => by
    induction d with
    | zero => exact fun _ => Is.same h.top k.top
    | succ d ih =>
      intro hd
      have hi := ih (by omega)
      have e : K - d = K - (d + 1) + 1 := by omega
      rw [e] at hi
      have he : hs[K - (d + 1)]? = some hs[K - (d + 1)] := List.getElem?_eq_getElem (by omega)
      exact Is.same (h.step _ _ (Nat.zero_le _) he) ((k.step _ _ (Nat.zero_le _) he).congr (fun i _ => (qF_same hi ..).symm))
  have := S K (Nat.le_refl _)
  rwa [Nat.sub_self] at this
theorem tq_is {n K k : Nat} {hs : List Re} {Qs : Nat → List Int} (h : Tq n K k hs Qs) (hk : k ≤ K) (hl : hs.length = K) : Is (Qs k) (n * n) (fun i => fa (D (Qs k) i)) := by
  rcases Nat.lt_or_ge k K with c | c
  · have := h.step k hs[k] (Nat.le_refl _) (List.getElem?_eq_getElem (by omega))
    exact ⟨this.len, this.wd, fun _ _ => rfl⟩
  · obtain rfl : k = K := by omega
    exact ⟨h.top.len, h.top.wd, fun _ _ => rfl⟩
theorem cell_on {w w' : World} {p : Addr} {v : Value} (h : w.cell? p = some v) (hb : Below w.heap.size w w') : w'.cell? p = some v := (hb.cell (World.block_lt_of_cell? _ _ h)).trans h
def TqP (w : World) (n K : Nat) (hs : List Re) (e : Ending) (w' : World) : Prop := ∃ A2 c2 L Qs, e = .returned (mV n n A2 (n * n) c2) ∧ OwnF w' w.heap.size A2 c2 L ∧ Tq n K 0 hs Qs ∧ Qs 0 = L ∧ Below w.heap.size w w'

end Go.Proofs.Ytbaeabmmokgomaa
