/-
  Walks of layer 1, part sixteen: a rune that is no ASCII sign is no digit: what strings.IndexRune answers of it.
-/
import Derived.Test.YtpbhaheginnkiaaBitsT
import Derived.Laws.RangeString
import Derived.Laws.RangeAny
import Derived.Laws.Runes
import Derived.WalkMore
namespace Go.Proofs.Ytpbhaheginnkiaa
open Go.RowKit Go.Bw
set_option linter.unusedVariables false

/-- the sixteen digits -/
def digs : ByteArray := ⟨#[48, 49, 50, 51, 52, 53, 54, 55, 56, 57, 65, 66, 67, 68, 69, 70]⟩
theorem digs_ascii : ∀ i : Fin 16, (digs[i.val]'i.isLt).toNat < 128 := by decide
theorem digs_list_ascii : ∀ b ∈ digs.data.toList, b.toNat < 128 := by decide
theorem iter_below (w : World) (s : ByteArray) (pos : Nat) : Below w.heap.size w (w.iter s pos) := (Below.refl _ _).alloc (Nat.le_refl _) _

set_option maxRecDepth 100000 in
set_option maxHeartbeats 1000000 in
theorem irune_bad (r : Int) (h0 : 128 ≤ r) (h1 : r ≤ 2147483647) (he : (r == 65533) = false) (hv : Lib.validRune r = false) (w : World) :
    Calls Try.prog 61 #[.string digs, .int .i32 r] w fun e w' => e = .returned (.int .i64 (-1)) ∧ Below w.heap.size w w' := by
  have hx : decide (r < 128) = false := by simp; omega
  go_enter Try.func61, Try.ntmps61
  go_wp2_with (go_at_call 70; refine (Try.utf8_ValidRune _ _).mono ?_; rintro e w' ⟨rfl, rfl⟩)
  go_ret
  exact ⟨rfl, Below.refl _ _⟩

theorem small_ne (d : Nat) (h : d < 128) : ((d : Int) == 65533) = false := by rw [beq_eq_false_iff_ne]; omega
set_option maxRecDepth 100000 in
set_option maxHeartbeats 1000000 in
theorem irune_err (w : World) :
    Calls Try.prog 61 #[.string digs, .int .i32 65533] w fun e w' => e = .returned (.int .i64 (-1)) ∧ Below w.heap.size w w' := by
  go_enter Try.func61, Try.ntmps61
  go_wp2_with fail
  go_loopw [5] (fun z wr => ∃ pos : Nat, pos ≤ 16 ∧ wr = w.iter digs pos) (fun _ wr => 16 - wr.iterPos w.heap.size)
  case atStart => exact ⟨0, by omega, rfl⟩
  case round =>
    obtain ⟨pos, hp, rfl⟩ := hrel
    by_cases c : pos < 16
    · have ha := digs_ascii ⟨pos, c⟩
      have hnx : ∀ ty, (Instr.next (.pointer (some ⟨w.heap.size, 0, none⟩)) true ty).run Try.prog (w.iter digs pos) = _ := fun ty => run_next_ascii w digs pos ty c ha
      have hne := small_ne _ ha
      generalize (digs[pos]'c).toNat = d at *
      clear ha
      go_wp2_with fail
      go_roundw
      case rel => exact ⟨pos + 1, by omega, rfl⟩
      case measure => simp; omega
    · obtain rfl : pos = 16 := by omega
      have hnx : ∀ ty, (Instr.next (.pointer (some ⟨w.heap.size, 0, none⟩)) true ty).run Try.prog (w.iter digs 16) = _ := fun ty => run_next_end w digs 16 ty (by decide)
      go_wp2_with fail
      go_ret
      exact ⟨rfl, iter_below _ _ _⟩

theorem indexByte_none (l : List UInt8) (c : UInt8) (hl : ∀ b ∈ l, b.toNat < 128) (hc : 128 ≤ c.toNat) : Lib.indexByte l c = -1 := by
  induction l with
  | nil => rfl
  | cons b l ih =>
    have hb := hl b (by simp)
    have hne : (b == c) = false := by
      simp only [beq_eq_false_iff_ne, ne_eq]
      intro h; subst h; omega
    have ih' := ih (fun x hx => hl x (by simp [hx]))
    simp [Lib.indexByte, hne, ih']

theorem byte_ne (x y : UInt8) (hx : x.toNat < 128) (hy : 128 ≤ y.toNat) : ((x.toNat : Int) != (y.toNat : Int)) = true := by rw [bne_iff_ne]; omega
theorem ib_high (s : ByteArray) (c : UInt8) (hs : ∀ b ∈ s.data.toList, b.toNat < 128) (hc : 128 ≤ c.toNat) (w : World) :
    Calls Try.prog 69 #[.string s, .int .u8 (c.toNat : Int)] w fun e w' => e = .returned (.int .i64 (-1)) ∧ w = w' :=
  (Try.strings_IndexByte s (c.toNat : Int) w).mono fun e w' h => ⟨by rw [h.1, Int.toNat_natCast, show c.toNat.toUInt8 = c by simp, indexByte_none _ _ hs hc], h.2.symm⟩

theorem ib_high' (s : ByteArray) (c : UInt8) (hs : ∀ b ∈ s.data.toList, b.toNat < 128) (hc : 128 ≤ c.toNat) (w : World) :
    Calls Try.prog 69 #[.string s, .int .u8 (c.toNat : Int)] w fun e w' => e = .returned (.int .i64 (-1)) ∧ w' = w :=
  (ib_high s c hs hc w).mono fun e w' h => ⟨h.1, h.2.symm⟩

theorem bytes_2 (rs : ByteArray) (h : rs.size = 2) : ∃ a b, rs = ⟨#[a, b]⟩ := by
  obtain ⟨⟨l⟩⟩ := rs
  match l, h with
  | [a, b], _ => exact ⟨a, b, rfl⟩
theorem bytes_3 (rs : ByteArray) (h : rs.size = 3) : ∃ a b c, rs = ⟨#[a, b, c]⟩ := by
  obtain ⟨⟨l⟩⟩ := rs
  match l, h with
  | [a, b, c], _ => exact ⟨a, b, c, rfl⟩
theorem bytes_4 (rs : ByteArray) (h : rs.size = 4) : ∃ a b c d, rs = ⟨#[a, b, c, d]⟩ := by
  obtain ⟨⟨l⟩⟩ := rs
  match l, h with
  | [a, b, c, d], _ => exact ⟨a, b, c, d, rfl⟩

set_option maxRecDepth 100000 in
set_option maxHeartbeats 1000000 in
theorem irune_2 (r : Int) (a b : UInt8) (h0 : 128 ≤ r) (h1 : r ≤ 2147483647) (he : (r == 65533) = false) (hv : Lib.validRune r = true) (hrs : Utf8.encode r = ⟨#[a, b]⟩) (hb : 128 ≤ b.toNat) (w : World) :
    Calls Try.prog 61 #[.string ⟨#[48, 49, 50, 51, 52, 53, 54, 55, 56, 57, 65, 66, 67, 68, 69, 70]⟩, .int .i32 r] w fun e w' => e = .returned (.int .i64 (-1)) ∧ Below w.heap.size w w' := by
  have hx : decide (r < 128) = false := by simp; omega
  go_enter Try.func61, Try.ntmps61
  go_wp2_with (go_at_call 70; refine (Try.utf8_ValidRune _ _).mono ?_; rintro e w' ⟨rfl, rfl⟩)
  go_step3
  go_wp2_with fail
  go_loop [9, 10] (fun i f => i = .int .i64 1 ∧ f = .int .i64 0) (fun _ _ => 0)
  case atStart => exact ⟨rfl, rfl⟩
  case round =>
    obtain ⟨rfl, rfl⟩ := hrel
    go_wp2_with fail
    go_step3
    go_wp2_with fail
    have hne := byte_ne ((⟨#[48, 49, 50, 51, 52, 53, 54, 55, 56, 57, 65, 66, 67, 68, 69, 70]⟩ : ByteArray)[1]'(by decide)) ((⟨#[a, b]⟩ : ByteArray)[1]'(show 1 < 2 by decide)) (by decide) hb
    have hext : ∀ b ∈ (((⟨#[48, 49, 50, 51, 52, 53, 54, 55, 56, 57, 65, 66, 67, 68, 69, 70]⟩ : ByteArray).extract 2 16).data.toList), b.toNat < 128 := by decide
    have hw : IntKind.i64.wrap 2 = 2 := by decide
    go_quiet (fail)
    go_wp2_with fail
    have hbq := Lib.hid (below_drewN (Below.refl w'.heap.size w') nq)
    generalize w'.drewN nq = wq at *
    go_quiet ((go_at_call 69; exact Calls.quiet_of_same (ib_high' _ _ hext hb _)))
    go_wp2_with fail
    rw [Exit.noGoto_ret]
    go_wp2_with fail
    rw [Exit.noGoto_ret]
    go_wp2_with fail
    go_ret
    exact ⟨rfl, below_drewN hbq.out _⟩
set_option maxRecDepth 100000 in
set_option maxHeartbeats 1000000 in
theorem irune_3 (r : Int) (a b c : UInt8) (h0 : 128 ≤ r) (h1 : r ≤ 2147483647) (he : (r == 65533) = false) (hv : Lib.validRune r = true) (hrs : Utf8.encode r = ⟨#[a, b, c]⟩) (hb : 128 ≤ c.toNat) (w : World) :
    Calls Try.prog 61 #[.string ⟨#[48, 49, 50, 51, 52, 53, 54, 55, 56, 57, 65, 66, 67, 68, 69, 70]⟩, .int .i32 r] w fun e w' => e = .returned (.int .i64 (-1)) ∧ Below w.heap.size w w' := by
  have hx : decide (r < 128) = false := by simp; omega
  go_enter Try.func61, Try.ntmps61
  go_wp2_with (go_at_call 70; refine (Try.utf8_ValidRune _ _).mono ?_; rintro e w' ⟨rfl, rfl⟩)
  go_step3
  go_wp2_with fail
  go_loop [9, 10] (fun i f => i = .int .i64 2 ∧ f = .int .i64 0) (fun _ _ => 0)
  case atStart => exact ⟨rfl, rfl⟩
  case round =>
    obtain ⟨rfl, rfl⟩ := hrel
    go_wp2_with fail
    go_step3
    go_wp2_with fail
    have hne := byte_ne ((⟨#[48, 49, 50, 51, 52, 53, 54, 55, 56, 57, 65, 66, 67, 68, 69, 70]⟩ : ByteArray)[2]'(by decide)) ((⟨#[a, b, c]⟩ : ByteArray)[2]'(show 2 < 3 by decide)) (by decide) hb
    have hext : ∀ b ∈ (((⟨#[48, 49, 50, 51, 52, 53, 54, 55, 56, 57, 65, 66, 67, 68, 69, 70]⟩ : ByteArray).extract 3 16).data.toList), b.toNat < 128 := by decide
    have hw : IntKind.i64.wrap 3 = 3 := by decide
    go_quiet (fail)
    go_wp2_with fail
    have hbq := Lib.hid (below_drewN (Below.refl w'.heap.size w') nq)
    generalize w'.drewN nq = wq at *
    go_quiet ((go_at_call 69; exact Calls.quiet_of_same (ib_high' _ _ hext hb _)))
    go_wp2_with fail
    rw [Exit.noGoto_ret]
    go_wp2_with fail
    rw [Exit.noGoto_ret]
    go_wp2_with fail
    go_ret
    exact ⟨rfl, below_drewN hbq.out _⟩
set_option maxRecDepth 100000 in
set_option maxHeartbeats 1000000 in
theorem irune_4 (r : Int) (a b c d : UInt8) (h0 : 128 ≤ r) (h1 : r ≤ 2147483647) (he : (r == 65533) = false) (hv : Lib.validRune r = true) (hrs : Utf8.encode r = ⟨#[a, b, c, d]⟩) (hb : 128 ≤ d.toNat) (w : World) :
    Calls Try.prog 61 #[.string ⟨#[48, 49, 50, 51, 52, 53, 54, 55, 56, 57, 65, 66, 67, 68, 69, 70]⟩, .int .i32 r] w fun e w' => e = .returned (.int .i64 (-1)) ∧ Below w.heap.size w w' := by
  have hx : decide (r < 128) = false := by simp; omega
  go_enter Try.func61, Try.ntmps61
  go_wp2_with (go_at_call 70; refine (Try.utf8_ValidRune _ _).mono ?_; rintro e w' ⟨rfl, rfl⟩)
  go_step3
  go_wp2_with fail
  go_loop [9, 10] (fun i f => i = .int .i64 3 ∧ f = .int .i64 0) (fun _ _ => 0)
  case atStart => exact ⟨rfl, rfl⟩
  case round =>
    obtain ⟨rfl, rfl⟩ := hrel
    go_wp2_with fail
    go_step3
    go_wp2_with fail
    have hne := byte_ne ((⟨#[48, 49, 50, 51, 52, 53, 54, 55, 56, 57, 65, 66, 67, 68, 69, 70]⟩ : ByteArray)[3]'(by decide)) ((⟨#[a, b, c, d]⟩ : ByteArray)[3]'(show 3 < 4 by decide)) (by decide) hb
    have hext : ∀ b ∈ (((⟨#[48, 49, 50, 51, 52, 53, 54, 55, 56, 57, 65, 66, 67, 68, 69, 70]⟩ : ByteArray).extract 4 16).data.toList), b.toNat < 128 := by decide
    have hw : IntKind.i64.wrap 4 = 4 := by decide
    go_quiet (fail)
    go_wp2_with fail
    have hbq := Lib.hid (below_drewN (Below.refl w'.heap.size w') nq)
    generalize w'.drewN nq = wq at *
    go_quiet ((go_at_call 69; exact Calls.quiet_of_same (ib_high' _ _ hext hb _)))
    go_wp2_with fail
    rw [Exit.noGoto_ret]
    go_wp2_with fail
    rw [Exit.noGoto_ret]
    go_wp2_with fail
    go_ret
    exact ⟨rfl, below_drewN hbq.out _⟩

theorem irune_any (r : Int) (h0 : 128 ≤ r) (h1 : r ≤ 2147483647) (w : World) :
    Calls Try.prog 61 #[.string digs, .int .i32 r] w fun e w' => e = .returned (.int .i64 (-1)) ∧ Below w.heap.size w w' := by
  cases he : r == 65533
  · cases hv : Lib.validRune r
    · exact irune_bad r h0 h1 he hv w
    · obtain ⟨f1, f2, f3⟩ := encode_facts r (by rw [validRune_eq]; exact hv) h0
      have hs : (Utf8.encode r).size = 2 ∨ (Utf8.encode r).size = 3 ∨ (Utf8.encode r).size = 4 := by omega
      generalize hrs : Utf8.encode r = rs at *
      rcases hs with hs | hs | hs
      · obtain ⟨a, b, rfl⟩ := bytes_2 rs hs
        exact irune_2 r a b h0 h1 he hv hrs (f3 (show 1 < 2 by decide)) w
      · obtain ⟨a, b, c, rfl⟩ := bytes_3 rs hs
        exact irune_3 r a b c h0 h1 he hv hrs (f3 (show 2 < 3 by decide)) w
      · obtain ⟨a, b, c, d, rfl⟩ := bytes_4 rs hs
        exact irune_4 r a b c d h0 h1 he hv hrs (f3 (show 3 < 4 by decide)) w
  · have : r = 65533 := by simpa using he
    subst this
    exact irune_err w
end Go.Proofs.Ytpbhaheginnkiaa
