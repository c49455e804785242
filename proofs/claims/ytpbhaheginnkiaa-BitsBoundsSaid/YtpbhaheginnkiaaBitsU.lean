/-
  Walks of layer 1, part fifteen: the reference's Text.
-/
import Derived.Test.YtpbhaheginnkiaaBitsT
import Derived.Laws.BytesString
import Derived.Laws.Cells
namespace Go.Proofs.Ytpbhaheginnkiaa
open Go.RowKit Go.Bw
set_option linter.unusedVariables false

theorem fold_push (l : List UInt8) : ∀ s : ByteArray, (l.map fun b => (b.toNat : Int)).foldl (fun r n => r.push (UInt8.ofNat n.toNat)) s = ⟨s.data ++ l.toArray⟩ := by
  induction l with
  | nil => intro s; simp
  | cons b l ih =>
    intro s
    simp only [List.map_cons, List.foldl_cons]
    rw [ih]
    simp [ByteArray.push]

theorem bytes_text (l : List UInt8) (w : World) (B g cap : Nat) (h : w.ownsRow B 5 1 (.slice (some ⟨g, 0, none⟩) l.length cap) l.length (Lib.byteCells l)) :
    (convert 74 9 (.slice (some ⟨g, 0, none⟩) l.length cap)).run Try.prog w = .ok (.string ⟨l.toArray⟩) w := by
  rw [run_convert_bytes_string w _ _ 5 _ _ _ Try.underlying74 Try.underlying5 Try.underlying9]
  have hc : (loadCells ⟨g, 0, none⟩ (Lib.byteCells l).length).run Try.prog w = .ok (Lib.byteCells l).toArray w :=
    run_loadCells_list w ⟨g, 0, none⟩ (Lib.byteCells l) (fun j v hj => by
      have hj2 : j < (Lib.byteCells l).length := (List.getElem?_eq_some_iff.1 hj).1
      have := h.cellAt j (by rw [Lib.byteCells_length] at hj2; omega)
      rw [show (Addr.add ⟨g, 0, none⟩ j) = ⟨g, j, none⟩ by cases j <;> simp [Addr.add], this]; exact hj)
  rw [Lib.byteCells_length] at hc
  have e : Lib.byteCells l = (l.map fun b => (b.toNat : Int)).map (Value.int .u8) := by simp [Lib.byteCells]
  rw [e] at hc
  rw [run_bytesToString w ⟨g, 0, none⟩ l.length cap _ hc, fold_push]
  simp [ByteArray.empty, ByteArray.emptyWithCapacity]
  rfl

set_option maxRecDepth 100000 in
set_option maxHeartbeats 1000000 in
theorem rtext_any (x : Int) (h0 : 0 ≤ x) (h1 : x ≤ 18446744073709551615) (w : World) :
    Calls Try.prog 43 #[.int .u64 x] w fun e w' => e = .returned (.string (hexText x)) ∧ Below w.heap.size w w' := by
  obtain ⟨i0, hi, hz0, hz1, hz2⟩ := info_parts info5
  go_enter Try.func43, Try.ntmps43
  go_wp2_with fail
  go_loopw [3, 4] (fun v s wr => ∃ k : Nat, k ≤ 16 ∧ s = .int .i64 (60 - 4 * k) ∧ Hid (wr.ownsRow w.heap.size 5 1 v k (Lib.byteCells (hexs x k))) ∧ Hid (Below w.heap.size w wr)) (fun _ s _ => (intOf s + 4).toNat)
  case atStart => exact ⟨0, by omega, rfl, World.ownsRow_nil _ _ _ _, Below.refl _ _⟩
  case round =>
    obtain ⟨k, hk, rfl, hB, hW⟩ := hrel
    by_cases c : k = 16
    · subst c
      obtain ⟨g, cap, rfl⟩ : ∃ g cap, u3 = .slice (some ⟨g, 0, none⟩) 16 cap := by
        rcases hB.out.2 with ⟨_, h⟩ | ⟨g, cap, cur, hv, _⟩
        · omega
        · exact ⟨g, cap, hv⟩
      have ht := bytes_text (hexs x 16) wr w.heap.size g cap (by rw [hexs_length]; exact hB.out)
      rw [hexs_length] at ht
      go_wp2_with fail
      go_ret
      exact ⟨rfl, hW.out⟩
    · have hk2 : k ≤ 15 := by omega
      have hx2 : 0 ≤ x / 2 ^ (60 - 4 * k) ∧ x / 2 ^ (60 - 4 * k) ≤ 18446744073709551615 := div_pow_bd x _ h0 h1
      have he := and_15 _ hx2.1 hx2.2
      clear hx2
      generalize hd : x / 2 ^ (60 - 4 * k) % 16 = d at he
      have hd0 : 0 ≤ d := by omega
      have hd1 : d < 16 := by omega
      have HD := Lib.hid hd
      clear hd
      have hws := hW.out.size
      go_wp2_with (at_builtin; refine wpList_append_own _ rfl _ _ 74 rfl w.heap.size 5 i0 (.int .u8 0) 1 1 Try.underlying74 hi hz0 hz1 hz2 rfl (by decide) _ _ _ rfl (hB.out.alloc _) ⟨wr.heap.size, 0, none⟩ 1 1 [.int .u8 (hexDigit d).toNat] rfl rfl ?c1 ?c2 ?c3 ?c4 ?c5 ?_)
      case c1 =>
        intro j u hj
        match j, hj with
        | 0, hj => simp at hj; subst hj; rw [digit_at d hd0 hd1]; simp [Addr.add]
      case c2 => intro u hu; simp at hu; subst hu; rfl
      case c3 => unfold maxLen; omega
      case c4 => omega
      case c5 => simp; omega
      intro v' w2 hown' hgrow _
      have HO := Lib.hid hown'
      have HG := Lib.hid (((Below.refl wr.heap.size wr).alloc (Nat.le_refl _) (Obj.cells #[Value.int .u8 (hexDigit d).toNat] 5)))
      have hb2 : Below w.heap.size w w2 := (hW.out.alloc hws _).grown hgrow (by simp; omega) (fun k hk => (hB.out.lt k hk).1)
      have HB2 := Lib.hid hb2
      clear hown' hgrow hb2
      go_wp2_with fail
      go_roundw
      case rel => exact ⟨k + 1, by omega, by go_num, Lib.hid (by have := HO.out; rw [hexs_succ, HD.out]; simpa [Lib.byteCells] using this), HB2⟩
      case measure => simp [intOf]; omega
end Go.Proofs.Ytpbhaheginnkiaa
