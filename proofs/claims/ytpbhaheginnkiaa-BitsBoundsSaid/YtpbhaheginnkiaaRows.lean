/-
  No cell of these rows narrows 'for every input' (looked for: loops, veiled, ifaces, maps, wideKeys, modest, calm, conditions, laid).
  DERIVED. THE GIVEN ROWS OF THIS SEAT. 11 by the template 'for every input the law returns true; each argument reads behind the call as it read before'; 0 by the template 'total and deterministic' (their statements: YtpbhaheginnkiaaTotals.lean).
  GIVEN WITH THE SEED: the statements are not yours to turn. If you find one false, say at which input.
  Laid BY PROGRAM, IN A SANDBOX (cutbox-rows.mjs): the forced cells as the released guide's own fill.sh prints them over the translation 14b7c8ca279630fc… (all of the seat's roots in one cut). By AI agents, Wed Nov 11 2026. No macro, syntax, notation, axiom, sorry.
-/
import Derived.Test.YtpbhaheginnkiaaChecked
import GoSem.Claim
import GoSem.ClaimJoined
import GoSem.ClaimMapViews
import Derived.JoinedTies
import Derived.KernelRfl
namespace Go.Proofs.Ytpbhaheginnkiaa
/- THE CELL 'sum', in the pinned program and in every row, IS THE sha256 OF THE DUMP (.gsa) THAT YtpbhaheginnkiaaProg.lean LOADS. Nothing in Lean hashes anything: it is a label: what it is worth is what the hold of that sum in a sandbox is worth. -/
noncomputable def Try.pinned : Pinned := { name := "ytpbhaheginnkiaa", sum := "14b7c8ca279630fcd71adc41bf61f35d9293d1704c0382e740a20a12864c7629", checked := Try.checked }
namespace Rows
def none {H : Type} : Left H := { results := [], args := [] }

/-- 'plumblinelaw01.BitsClass': WHATEVER THE INPUT: true; the input reads as it did. -/
def bitsClassSpec : ChangeSpec := { name := "bitsClass", fn := fun _ => fun
  | [d] => { results := [.lit (.bool true)], args := [d] }
  | _ => none }
def bitsClassRow : OpenClaim := { program := "ytpbhaheginnkiaa", sum := "14b7c8ca279630fcd71adc41bf61f35d9293d1704c0382e740a20a12864c7629", func := "plumbline/plumblinelaw01.BitsClass", spec := "bitsClass", inPlace := ["math.Float64bits", "internal/abi.NoEscape"], unfollowed := true, recurses := true, apart := false }
def BitsClassSaid : Prop := bitsClassRow.holds Try.pinned (OpenSpec.ofChange bitsClassSpec)

/-- ITS FALSE NEIGHBOUR: 'it returns false'. Refute it at one input. -/
def bitsClassWrong : ChangeSpec := { name := "bitsClass", fn := fun _ => fun
  | [d] => { results := [.lit (.bool false)], args := [d] }
  | _ => none }
def BitsClassWrongFalsely : Prop := bitsClassRow.holds Try.pinned (OpenSpec.ofChange bitsClassWrong)

/-- 'plumblinelaw01.BitsFloat': WHATEVER THE INPUT: true; the input reads as it did. -/
def bitsFloatSpec : ChangeSpec := { name := "bitsFloat", fn := fun _ => fun
  | [d] => { results := [.lit (.bool true)], args := [d] }
  | _ => none }
def bitsFloatRow : OpenClaim := { program := "ytpbhaheginnkiaa", sum := "14b7c8ca279630fcd71adc41bf61f35d9293d1704c0382e740a20a12864c7629", func := "plumbline/plumblinelaw01.BitsFloat", spec := "bitsFloat", inPlace := ["math.Float64frombits", "math.Float64bits", "internal/abi.NoEscape"], unfollowed := true, recurses := true, apart := false }
def BitsFloatSaid : Prop := bitsFloatRow.holds Try.pinned (OpenSpec.ofChange bitsFloatSpec)

/-- ITS FALSE NEIGHBOUR: 'it returns false'. Refute it at one input. -/
def bitsFloatWrong : ChangeSpec := { name := "bitsFloat", fn := fun _ => fun
  | [d] => { results := [.lit (.bool false)], args := [d] }
  | _ => none }
def BitsFloatWrongFalsely : Prop := bitsFloatRow.holds Try.pinned (OpenSpec.ofChange bitsFloatWrong)

/-- 'plumblinelaw01.BitsParts': WHATEVER THE INPUT: true; the input reads as it did. -/
def bitsPartsSpec : ChangeSpec := { name := "bitsParts", fn := fun _ => fun
  | [d] => { results := [.lit (.bool true)], args := [d] }
  | _ => none }
def bitsPartsRow : OpenClaim := { program := "ytpbhaheginnkiaa", sum := "14b7c8ca279630fcd71adc41bf61f35d9293d1704c0382e740a20a12864c7629", func := "plumbline/plumblinelaw01.BitsParts", spec := "bitsParts", inPlace := ["math.Float64bits", "internal/abi.NoEscape"], unfollowed := true, recurses := true, apart := false }
def BitsPartsSaid : Prop := bitsPartsRow.holds Try.pinned (OpenSpec.ofChange bitsPartsSpec)

/-- ITS FALSE NEIGHBOUR: 'it returns false'. Refute it at one input. -/
def bitsPartsWrong : ChangeSpec := { name := "bitsParts", fn := fun _ => fun
  | [d] => { results := [.lit (.bool false)], args := [d] }
  | _ => none }
def BitsPartsWrongFalsely : Prop := bitsPartsRow.holds Try.pinned (OpenSpec.ofChange bitsPartsWrong)

/-- 'plumblinelaw01.BitsExact': WHATEVER THE INPUT: true; the input reads as it did. -/
def bitsExactSpec : ChangeSpec := { name := "bitsExact", fn := fun _ => fun
  | [d] => { results := [.lit (.bool true)], args := [d] }
  | _ => none }
def bitsExactRow : OpenClaim := { program := "ytpbhaheginnkiaa", sum := "14b7c8ca279630fcd71adc41bf61f35d9293d1704c0382e740a20a12864c7629", func := "plumbline/plumblinelaw01.BitsExact", spec := "bitsExact", inPlace := ["math.Float64bits", "internal/abi.NoEscape"], unfollowed := true, recurses := true, apart := false }
def BitsExactSaid : Prop := bitsExactRow.holds Try.pinned (OpenSpec.ofChange bitsExactSpec)

/-- ITS FALSE NEIGHBOUR: 'it returns false'. Refute it at one input. -/
def bitsExactWrong : ChangeSpec := { name := "bitsExact", fn := fun _ => fun
  | [d] => { results := [.lit (.bool false)], args := [d] }
  | _ => none }
def BitsExactWrongFalsely : Prop := bitsExactRow.holds Try.pinned (OpenSpec.ofChange bitsExactWrong)

/-- 'plumblinelaw01.BitsRound': WHATEVER THE INPUT: true; the input reads as it did. -/
def bitsRoundSpec : ChangeSpec := { name := "bitsRound", fn := fun _ => fun
  | [d1, d2] => { results := [.lit (.bool true)], args := [d1, d2] }
  | _ => none }
def bitsRoundRow : OpenClaim := { program := "ytpbhaheginnkiaa", sum := "14b7c8ca279630fcd71adc41bf61f35d9293d1704c0382e740a20a12864c7629", func := "plumbline/plumblinelaw01.BitsRound", spec := "bitsRound", inPlace := ["math.Float64bits", "internal/abi.NoEscape"], unfollowed := true, recurses := true, apart := false }
def BitsRoundSaid : Prop := bitsRoundRow.holds Try.pinned (OpenSpec.ofChange bitsRoundSpec)

/-- ITS FALSE NEIGHBOUR: 'it returns false'. Refute it at one input. -/
def bitsRoundWrong : ChangeSpec := { name := "bitsRound", fn := fun _ => fun
  | [d1, d2] => { results := [.lit (.bool false)], args := [d1, d2] }
  | _ => none }
def BitsRoundWrongFalsely : Prop := bitsRoundRow.holds Try.pinned (OpenSpec.ofChange bitsRoundWrong)

/-- 'plumblinelaw01.BitsScale': WHATEVER THE INPUT: true; the input reads as it did. -/
def bitsScaleSpec : ChangeSpec := { name := "bitsScale", fn := fun _ => fun
  | [d1, d2] => { results := [.lit (.bool true)], args := [d1, d2] }
  | _ => none }
def bitsScaleRow : OpenClaim := { program := "ytpbhaheginnkiaa", sum := "14b7c8ca279630fcd71adc41bf61f35d9293d1704c0382e740a20a12864c7629", func := "plumbline/plumblinelaw01.BitsScale", spec := "bitsScale", inPlace := ["math.Float64bits", "internal/abi.NoEscape"], unfollowed := true, recurses := true, apart := false }
def BitsScaleSaid : Prop := bitsScaleRow.holds Try.pinned (OpenSpec.ofChange bitsScaleSpec)

/-- ITS FALSE NEIGHBOUR: 'it returns false'. Refute it at one input. -/
def bitsScaleWrong : ChangeSpec := { name := "bitsScale", fn := fun _ => fun
  | [d1, d2] => { results := [.lit (.bool false)], args := [d1, d2] }
  | _ => none }
def BitsScaleWrongFalsely : Prop := bitsScaleRow.holds Try.pinned (OpenSpec.ofChange bitsScaleWrong)

/-- 'plumblinelaw01.BitsCompare': WHATEVER THE INPUT: true; the input reads as it did. -/
def bitsCompareSpec : ChangeSpec := { name := "bitsCompare", fn := fun _ => fun
  | [d1, d2] => { results := [.lit (.bool true)], args := [d1, d2] }
  | _ => none }
def bitsCompareRow : OpenClaim := { program := "ytpbhaheginnkiaa", sum := "14b7c8ca279630fcd71adc41bf61f35d9293d1704c0382e740a20a12864c7629", func := "plumbline/plumblinelaw01.BitsCompare", spec := "bitsCompare", inPlace := ["math.Float64bits", "internal/abi.NoEscape"], unfollowed := true, recurses := true, apart := false }
def BitsCompareSaid : Prop := bitsCompareRow.holds Try.pinned (OpenSpec.ofChange bitsCompareSpec)

/-- ITS FALSE NEIGHBOUR: 'it returns false'. Refute it at one input. -/
def bitsCompareWrong : ChangeSpec := { name := "bitsCompare", fn := fun _ => fun
  | [d1, d2] => { results := [.lit (.bool false)], args := [d1, d2] }
  | _ => none }
def BitsCompareWrongFalsely : Prop := bitsCompareRow.holds Try.pinned (OpenSpec.ofChange bitsCompareWrong)

/-- 'plumblinelaw01.BitsLog': WHATEVER THE INPUT: true; the input reads as it did. -/
def bitsLogSpec : ChangeSpec := { name := "bitsLog", fn := fun _ => fun
  | [d] => { results := [.lit (.bool true)], args := [d] }
  | _ => none }
def bitsLogRow : OpenClaim := { program := "ytpbhaheginnkiaa", sum := "14b7c8ca279630fcd71adc41bf61f35d9293d1704c0382e740a20a12864c7629", func := "plumbline/plumblinelaw01.BitsLog", spec := "bitsLog", inPlace := ["math.Float64bits", "internal/abi.NoEscape"], unfollowed := true, recurses := true, apart := false }
def BitsLogSaid : Prop := bitsLogRow.holds Try.pinned (OpenSpec.ofChange bitsLogSpec)

/-- ITS FALSE NEIGHBOUR: 'it returns false'. Refute it at one input. -/
def bitsLogWrong : ChangeSpec := { name := "bitsLog", fn := fun _ => fun
  | [d] => { results := [.lit (.bool false)], args := [d] }
  | _ => none }
def BitsLogWrongFalsely : Prop := bitsLogRow.holds Try.pinned (OpenSpec.ofChange bitsLogWrong)

/-- 'plumblinelaw01.BitsTexts': WHATEVER THE INPUT: true; the input reads as it did. -/
def bitsTextsSpec : ChangeSpec := { name := "bitsTexts", fn := fun _ => fun
  | [d1, d2] => { results := [.lit (.bool true)], args := [d1, d2] }
  | _ => none }
def bitsTextsRow : OpenClaim := { program := "ytpbhaheginnkiaa", sum := "14b7c8ca279630fcd71adc41bf61f35d9293d1704c0382e740a20a12864c7629", func := "plumbline/plumblinelaw01.BitsTexts", spec := "bitsTexts", inPlace := ["math.Float64bits", "internal/abi.NoEscape", "internal/bytealg.IndexByteString", "internal/bytealg.IndexString"], unfollowed := true, recurses := true, named := ["internal/bytealg.MaxLen"], apart := false }
def BitsTextsSaid : Prop := bitsTextsRow.holds Try.pinned (OpenSpec.ofChange bitsTextsSpec)

/-- ITS FALSE NEIGHBOUR: 'it returns false'. Refute it at one input. -/
def bitsTextsWrong : ChangeSpec := { name := "bitsTexts", fn := fun _ => fun
  | [d1, d2] => { results := [.lit (.bool false)], args := [d1, d2] }
  | _ => none }
def BitsTextsWrongFalsely : Prop := bitsTextsRow.holds Try.pinned (OpenSpec.ofChange bitsTextsWrong)

/-- 'plumblinelaw01.BitsMeans': WHATEVER THE INPUT: true; the input reads as it did. -/
def bitsMeansSpec : ChangeSpec := { name := "bitsMeans", fn := fun _ => fun
  | [d1, d2, d3, d4, d5] => { results := [.lit (.bool true)], args := [d1, d2, d3, d4, d5] }
  | _ => none }
def bitsMeansRow : OpenClaim := { program := "ytpbhaheginnkiaa", sum := "14b7c8ca279630fcd71adc41bf61f35d9293d1704c0382e740a20a12864c7629", func := "plumbline/plumblinelaw01.BitsMeans", spec := "bitsMeans", inPlace := ["math.Float64bits", "internal/abi.NoEscape"], unfollowed := true, recurses := true, apart := false }
def BitsMeansSaid : Prop := bitsMeansRow.holds Try.pinned (OpenSpec.ofChange bitsMeansSpec)

/-- ITS FALSE NEIGHBOUR: 'it returns false'. Refute it at one input. -/
def bitsMeansWrong : ChangeSpec := { name := "bitsMeans", fn := fun _ => fun
  | [d1, d2, d3, d4, d5] => { results := [.lit (.bool false)], args := [d1, d2, d3, d4, d5] }
  | _ => none }
def BitsMeansWrongFalsely : Prop := bitsMeansRow.holds Try.pinned (OpenSpec.ofChange bitsMeansWrong)

/-- 'plumblinelaw01.BitsBounds': WHATEVER THE INPUT: true; the input reads as it did. -/
def bitsBoundsSpec : ChangeSpec := { name := "bitsBounds", fn := fun _ => fun
  | [] => { results := [.lit (.bool true)], args := [] }
  | _ => none }
def bitsBoundsRow : OpenClaim := { program := "ytpbhaheginnkiaa", sum := "14b7c8ca279630fcd71adc41bf61f35d9293d1704c0382e740a20a12864c7629", func := "plumbline/plumblinelaw01.BitsBounds", spec := "bitsBounds", inPlace := ["internal/bytealg.IndexByteString", "internal/bytealg.IndexString", "math.Float64bits", "internal/abi.NoEscape"], unfollowed := true, recurses := true, named := ["internal/bytealg.MaxLen"], apart := false }
def BitsBoundsSaid : Prop := bitsBoundsRow.holds Try.pinned (OpenSpec.ofChange bitsBoundsSpec)

/-- ITS FALSE NEIGHBOUR: 'it returns false'. Refute it at one input. -/
def bitsBoundsWrong : ChangeSpec := { name := "bitsBounds", fn := fun _ => fun
  | [] => { results := [.lit (.bool false)], args := [] }
  | _ => none }
def BitsBoundsWrongFalsely : Prop := bitsBoundsRow.holds Try.pinned (OpenSpec.ofChange bitsBoundsWrong)

/- THE SECOND FORM. 'bulk': how many values and letters a reading holds, each counted each time it is reached (what is shared counts as often as it is met; a slice's spare places count too). A statement '..UptoSaid' is the law's where the arguments, and the package variables that the reading takes, are together of bulk at most 1048576: NARROWER than '..Said'. Prove '..Said' where nothing that the law and all that it calls make is longer than what came in: it says more and counts as full. Else prove '..UptoSaid'. A law counts once. -/
mutual
def uptoBulk {H : Type} : DataW H → Nat
  | .lit (.string bytes) => bytes.length + 1
  | .lit _ => 1
  | .nil => 1
  | .ptr d => uptoBulk d + 1
  | .slice elems spare => uptoBulkAll elems + uptoBulkAll spare + 1
  | .agg parts => uptoBulkAll parts + 1
  | .iface _ d => uptoBulk d + 1
  | .map entries => uptoBulkEntries entries + 1
  | .held _ => 1
def uptoBulkAll {H : Type} : List (DataW H) → Nat
  | [] => 0
  | d :: r => uptoBulk d + uptoBulkAll r
def uptoBulkEntries {H : Type} : List (Lit × DataW H) → Nat
  | [] => 0
  | x :: r => uptoBulkEntry x + uptoBulkEntries r
def uptoBulkEntry {H : Type} : Lit × DataW H → Nat
  | (.string bytes, d) => bytes.length + uptoBulk d + 1
  | (_, d) => uptoBulk d + 1
 end
def uptoSmall : (H : Type) → List (DataW H) → Bool := fun _ ds => decide (uptoBulkAll ds ≤ 1048576)
def OpenSpec.upto (s : _root_.Go.ChangeSpec) : _root_.Go.OpenSpec := { _root_.Go.OpenSpec.ofChange s with cond := some uptoSmall }

/-- 'plumblinelaw01.BitsClass', WHERE WHAT IT READS IS OF BULK AT MOST 1048576: true; the input reads as it did. -/
def bitsClassUptoRow : OpenClaim := { program := "ytpbhaheginnkiaa", sum := "14b7c8ca279630fcd71adc41bf61f35d9293d1704c0382e740a20a12864c7629", func := "plumbline/plumblinelaw01.BitsClass", spec := "bitsClass", inPlace := ["math.Float64bits", "internal/abi.NoEscape"], unfollowed := true, recurses := true, apart := false, narrowed := true }
def BitsClassUptoSaid : Prop := bitsClassUptoRow.holds Try.pinned (OpenSpec.upto bitsClassSpec)

/-- 'plumblinelaw01.BitsFloat', WHERE WHAT IT READS IS OF BULK AT MOST 1048576: true; the input reads as it did. -/
def bitsFloatUptoRow : OpenClaim := { program := "ytpbhaheginnkiaa", sum := "14b7c8ca279630fcd71adc41bf61f35d9293d1704c0382e740a20a12864c7629", func := "plumbline/plumblinelaw01.BitsFloat", spec := "bitsFloat", inPlace := ["math.Float64frombits", "math.Float64bits", "internal/abi.NoEscape"], unfollowed := true, recurses := true, apart := false, narrowed := true }
def BitsFloatUptoSaid : Prop := bitsFloatUptoRow.holds Try.pinned (OpenSpec.upto bitsFloatSpec)

/-- 'plumblinelaw01.BitsParts', WHERE WHAT IT READS IS OF BULK AT MOST 1048576: true; the input reads as it did. -/
def bitsPartsUptoRow : OpenClaim := { program := "ytpbhaheginnkiaa", sum := "14b7c8ca279630fcd71adc41bf61f35d9293d1704c0382e740a20a12864c7629", func := "plumbline/plumblinelaw01.BitsParts", spec := "bitsParts", inPlace := ["math.Float64bits", "internal/abi.NoEscape"], unfollowed := true, recurses := true, apart := false, narrowed := true }
def BitsPartsUptoSaid : Prop := bitsPartsUptoRow.holds Try.pinned (OpenSpec.upto bitsPartsSpec)

/-- 'plumblinelaw01.BitsExact', WHERE WHAT IT READS IS OF BULK AT MOST 1048576: true; the input reads as it did. -/
def bitsExactUptoRow : OpenClaim := { program := "ytpbhaheginnkiaa", sum := "14b7c8ca279630fcd71adc41bf61f35d9293d1704c0382e740a20a12864c7629", func := "plumbline/plumblinelaw01.BitsExact", spec := "bitsExact", inPlace := ["math.Float64bits", "internal/abi.NoEscape"], unfollowed := true, recurses := true, apart := false, narrowed := true }
def BitsExactUptoSaid : Prop := bitsExactUptoRow.holds Try.pinned (OpenSpec.upto bitsExactSpec)

/-- 'plumblinelaw01.BitsRound', WHERE WHAT IT READS IS OF BULK AT MOST 1048576: true; the input reads as it did. -/
def bitsRoundUptoRow : OpenClaim := { program := "ytpbhaheginnkiaa", sum := "14b7c8ca279630fcd71adc41bf61f35d9293d1704c0382e740a20a12864c7629", func := "plumbline/plumblinelaw01.BitsRound", spec := "bitsRound", inPlace := ["math.Float64bits", "internal/abi.NoEscape"], unfollowed := true, recurses := true, apart := false, narrowed := true }
def BitsRoundUptoSaid : Prop := bitsRoundUptoRow.holds Try.pinned (OpenSpec.upto bitsRoundSpec)

/-- 'plumblinelaw01.BitsScale', WHERE WHAT IT READS IS OF BULK AT MOST 1048576: true; the input reads as it did. -/
def bitsScaleUptoRow : OpenClaim := { program := "ytpbhaheginnkiaa", sum := "14b7c8ca279630fcd71adc41bf61f35d9293d1704c0382e740a20a12864c7629", func := "plumbline/plumblinelaw01.BitsScale", spec := "bitsScale", inPlace := ["math.Float64bits", "internal/abi.NoEscape"], unfollowed := true, recurses := true, apart := false, narrowed := true }
def BitsScaleUptoSaid : Prop := bitsScaleUptoRow.holds Try.pinned (OpenSpec.upto bitsScaleSpec)

/-- 'plumblinelaw01.BitsCompare', WHERE WHAT IT READS IS OF BULK AT MOST 1048576: true; the input reads as it did. -/
def bitsCompareUptoRow : OpenClaim := { program := "ytpbhaheginnkiaa", sum := "14b7c8ca279630fcd71adc41bf61f35d9293d1704c0382e740a20a12864c7629", func := "plumbline/plumblinelaw01.BitsCompare", spec := "bitsCompare", inPlace := ["math.Float64bits", "internal/abi.NoEscape"], unfollowed := true, recurses := true, apart := false, narrowed := true }
def BitsCompareUptoSaid : Prop := bitsCompareUptoRow.holds Try.pinned (OpenSpec.upto bitsCompareSpec)

/-- 'plumblinelaw01.BitsLog', WHERE WHAT IT READS IS OF BULK AT MOST 1048576: true; the input reads as it did. -/
def bitsLogUptoRow : OpenClaim := { program := "ytpbhaheginnkiaa", sum := "14b7c8ca279630fcd71adc41bf61f35d9293d1704c0382e740a20a12864c7629", func := "plumbline/plumblinelaw01.BitsLog", spec := "bitsLog", inPlace := ["math.Float64bits", "internal/abi.NoEscape"], unfollowed := true, recurses := true, apart := false, narrowed := true }
def BitsLogUptoSaid : Prop := bitsLogUptoRow.holds Try.pinned (OpenSpec.upto bitsLogSpec)

/-- 'plumblinelaw01.BitsTexts', WHERE WHAT IT READS IS OF BULK AT MOST 1048576: true; the input reads as it did. -/
def bitsTextsUptoRow : OpenClaim := { program := "ytpbhaheginnkiaa", sum := "14b7c8ca279630fcd71adc41bf61f35d9293d1704c0382e740a20a12864c7629", func := "plumbline/plumblinelaw01.BitsTexts", spec := "bitsTexts", inPlace := ["math.Float64bits", "internal/abi.NoEscape", "internal/bytealg.IndexByteString", "internal/bytealg.IndexString"], unfollowed := true, recurses := true, named := ["internal/bytealg.MaxLen"], apart := false, narrowed := true }
def BitsTextsUptoSaid : Prop := bitsTextsUptoRow.holds Try.pinned (OpenSpec.upto bitsTextsSpec)

/-- 'plumblinelaw01.BitsMeans', WHERE WHAT IT READS IS OF BULK AT MOST 1048576: true; the input reads as it did. -/
def bitsMeansUptoRow : OpenClaim := { program := "ytpbhaheginnkiaa", sum := "14b7c8ca279630fcd71adc41bf61f35d9293d1704c0382e740a20a12864c7629", func := "plumbline/plumblinelaw01.BitsMeans", spec := "bitsMeans", inPlace := ["math.Float64bits", "internal/abi.NoEscape"], unfollowed := true, recurses := true, apart := false, narrowed := true }
def BitsMeansUptoSaid : Prop := bitsMeansUptoRow.holds Try.pinned (OpenSpec.upto bitsMeansSpec)

/-- 'plumblinelaw01.BitsBounds', WHERE WHAT IT READS IS OF BULK AT MOST 1048576: true; the input reads as it did. -/
def bitsBoundsUptoRow : OpenClaim := { program := "ytpbhaheginnkiaa", sum := "14b7c8ca279630fcd71adc41bf61f35d9293d1704c0382e740a20a12864c7629", func := "plumbline/plumblinelaw01.BitsBounds", spec := "bitsBounds", inPlace := ["internal/bytealg.IndexByteString", "internal/bytealg.IndexString", "math.Float64bits", "internal/abi.NoEscape"], unfollowed := true, recurses := true, named := ["internal/bytealg.MaxLen"], apart := false, narrowed := true }
def BitsBoundsUptoSaid : Prop := bitsBoundsUptoRow.holds Try.pinned (OpenSpec.upto bitsBoundsSpec)

end Rows
end Go.Proofs.Ytpbhaheginnkiaa
