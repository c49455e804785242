/-
  NARROWER THAN 'FOR EVERY INPUT', by the rows' own cells (each row's printed sentence says how): DyadMay: laid · DyadOf: laid · DyadWholes: laid · DyadAdds: laid · DyadSubs: laid · DyadMuls: laid · DyadShifts: laid · DyadSums: laid · DyadMachine: laid · DyadRings: laid · DyadBounds: laid.
  DERIVED. THE GIVEN ROWS OF THIS SEAT. 11 by the template 'for every input the law returns true; each argument reads behind the call as it read before'; 0 by the template 'total and deterministic' (their statements: YtknomchkfamajaaGreatDoorTotals.lean).
  GIVEN WITH THE SEED: the statements are not yours to turn. If you find one false, say at which input.
  Laid BY PROGRAM, IN A SANDBOX (cutbox-rows.mjs): the forced cells as the released guide's own fill.sh prints them over the translation 37036c08720e68df… (all of the seat's roots in one cut). By AI agents, Wed Nov 11 2026. No macro, syntax, notation, axiom, sorry.
-/
import Derived.Test.YtknomchkfamajaaGreatDoorChecked
import GoSem.Claim
import GoSem.ClaimJoined
import GoSem.ClaimMapViews
import Derived.JoinedTies
import Derived.KernelRfl
namespace Go.Proofs.YtknomchkfamajaaGreatDoor
/- THE CELL 'sum', in the pinned program and in every row, IS THE sha256 OF THE DUMP (.gsa) THAT YtknomchkfamajaaGreatDoorProg.lean LOADS. Nothing in Lean hashes anything: it is a label: what it is worth is what the hold of that sum in a sandbox is worth. -/
noncomputable def Tryz.pinned : Pinned := { name := "ytknomchkfamajaagreatdoor", sum := "37036c08720e68df841844530859ebd8b1a22a46988d0cd1185e67399dcd53f6", checked := Tryz.checked }
namespace Rows
def none {H : Type} : Left H := { results := [], args := [] }

/- WHAT THE LISTED PACKAGE-LEVEL VARIABLES READ AS WHEN THE CALL BEGINS. Each datum BY PROGRAM (the guide's laid-datum.mjs) off the statement by which the dump's own 'gosem.cut.vars' lays the variable. In a bare row this is a premise. The card (YtknomchkfamajaaGreatDoorCards.lean) ties it to the program's text. -/
def laid_math_bits_deBruijn32tab {H : Type} : DataW H := .agg [.lit (.int .u8 0), .lit (.int .u8 1), .lit (.int .u8 28), .lit (.int .u8 2), .lit (.int .u8 29), .lit (.int .u8 14), .lit (.int .u8 24), .lit (.int .u8 3), .lit (.int .u8 30), .lit (.int .u8 22), .lit (.int .u8 20), .lit (.int .u8 15), .lit (.int .u8 25), .lit (.int .u8 17), .lit (.int .u8 4), .lit (.int .u8 8), .lit (.int .u8 31), .lit (.int .u8 27), .lit (.int .u8 13), .lit (.int .u8 23), .lit (.int .u8 21), .lit (.int .u8 19), .lit (.int .u8 16), .lit (.int .u8 7), .lit (.int .u8 26), .lit (.int .u8 12), .lit (.int .u8 18), .lit (.int .u8 6), .lit (.int .u8 11), .lit (.int .u8 5), .lit (.int .u8 10), .lit (.int .u8 9)]
def laid_math_bits_deBruijn64tab {H : Type} : DataW H := .agg [.lit (.int .u8 0), .lit (.int .u8 1), .lit (.int .u8 56), .lit (.int .u8 2), .lit (.int .u8 57), .lit (.int .u8 49), .lit (.int .u8 28), .lit (.int .u8 3), .lit (.int .u8 61), .lit (.int .u8 58), .lit (.int .u8 42), .lit (.int .u8 50), .lit (.int .u8 38), .lit (.int .u8 29), .lit (.int .u8 17), .lit (.int .u8 4), .lit (.int .u8 62), .lit (.int .u8 47), .lit (.int .u8 59), .lit (.int .u8 36), .lit (.int .u8 45), .lit (.int .u8 43), .lit (.int .u8 51), .lit (.int .u8 22), .lit (.int .u8 53), .lit (.int .u8 39), .lit (.int .u8 33), .lit (.int .u8 30), .lit (.int .u8 24), .lit (.int .u8 18), .lit (.int .u8 12), .lit (.int .u8 5), .lit (.int .u8 63), .lit (.int .u8 55), .lit (.int .u8 48), .lit (.int .u8 27), .lit (.int .u8 60), .lit (.int .u8 41), .lit (.int .u8 37), .lit (.int .u8 16), .lit (.int .u8 46), .lit (.int .u8 35), .lit (.int .u8 44), .lit (.int .u8 21), .lit (.int .u8 52), .lit (.int .u8 32), .lit (.int .u8 23), .lit (.int .u8 11), .lit (.int .u8 54), .lit (.int .u8 26), .lit (.int .u8 40), .lit (.int .u8 15), .lit (.int .u8 34), .lit (.int .u8 20), .lit (.int .u8 31), .lit (.int .u8 10), .lit (.int .u8 25), .lit (.int .u8 14), .lit (.int .u8 19), .lit (.int .u8 9), .lit (.int .u8 13), .lit (.int .u8 8), .lit (.int .u8 7), .lit (.int .u8 6)]
def laid_internal_strconv_uint64pow10 {H : Type} : DataW H := .agg [.lit (.int .u64 1), .lit (.int .u64 10), .lit (.int .u64 100), .lit (.int .u64 1000), .lit (.int .u64 10000), .lit (.int .u64 100000), .lit (.int .u64 1000000), .lit (.int .u64 10000000), .lit (.int .u64 100000000), .lit (.int .u64 1000000000), .lit (.int .u64 10000000000), .lit (.int .u64 100000000000), .lit (.int .u64 1000000000000), .lit (.int .u64 10000000000000), .lit (.int .u64 100000000000000), .lit (.int .u64 1000000000000000), .lit (.int .u64 10000000000000000), .lit (.int .u64 100000000000000000), .lit (.int .u64 1000000000000000000), .lit (.int .u64 10000000000000000000)]

/-- 'plumblinelaw03.DyadMay': WHATEVER THE INPUT: true; the input reads as it did. -/
def dyadMaySpec : ChangeSpec := { name := "dyadMay", fn := fun _ => fun
  | [d] => { results := [.lit (.bool true)], args := [d] }
  | _ => none }
def dyadMayRow : OpenClaim := { program := "ytknomchkfamajaagreatdoor", sum := "37036c08720e68df841844530859ebd8b1a22a46988d0cd1185e67399dcd53f6", func := "plumbline/plumblinelaw03.DyadMay", spec := "dyadMay", inPlace := ["math.Float64frombits", "math.Float64bits", "math/bits.Add64", "math/bits.Sub64"], unfollowed := true, recurses := true, named := ["math/bits.deBruijn64tab", "math/bits.divideError", "math/bits.overflowError", "internal/strconv.uint64pow10", "math/bits.deBruijn32tab"], apart := false, laid := [("math/bits.deBruijn32tab", laid_math_bits_deBruijn32tab), ("math/bits.deBruijn64tab", laid_math_bits_deBruijn64tab), ("internal/strconv.uint64pow10", laid_internal_strconv_uint64pow10)] }
def DyadMaySaid : Prop := dyadMayRow.holds Tryz.pinned (OpenSpec.ofChange dyadMaySpec)

/-- ITS FALSE NEIGHBOUR: 'it returns false'. Refute it at one input. -/
def dyadMayWrong : ChangeSpec := { name := "dyadMay", fn := fun _ => fun
  | [d] => { results := [.lit (.bool false)], args := [d] }
  | _ => none }
def DyadMayWrongFalsely : Prop := dyadMayRow.holds Tryz.pinned (OpenSpec.ofChange dyadMayWrong)

/-- 'plumblinelaw03.DyadOf': WHATEVER THE INPUT: true; the input reads as it did. -/
def dyadOfSpec : ChangeSpec := { name := "dyadOf", fn := fun _ => fun
  | [d] => { results := [.lit (.bool true)], args := [d] }
  | _ => none }
def dyadOfRow : OpenClaim := { program := "ytknomchkfamajaagreatdoor", sum := "37036c08720e68df841844530859ebd8b1a22a46988d0cd1185e67399dcd53f6", func := "plumbline/plumblinelaw03.DyadOf", spec := "dyadOf", inPlace := ["math.Float64frombits", "math.Float64bits", "math/bits.Add64", "math/bits.Sub64"], unfollowed := true, recurses := true, named := ["math/bits.deBruijn64tab", "math/bits.divideError", "math/bits.overflowError", "internal/strconv.uint64pow10", "math/bits.deBruijn32tab"], apart := false, laid := [("math/bits.deBruijn32tab", laid_math_bits_deBruijn32tab), ("math/bits.deBruijn64tab", laid_math_bits_deBruijn64tab), ("internal/strconv.uint64pow10", laid_internal_strconv_uint64pow10)] }
def DyadOfSaid : Prop := dyadOfRow.holds Tryz.pinned (OpenSpec.ofChange dyadOfSpec)

/-- ITS FALSE NEIGHBOUR: 'it returns false'. Refute it at one input. -/
def dyadOfWrong : ChangeSpec := { name := "dyadOf", fn := fun _ => fun
  | [d] => { results := [.lit (.bool false)], args := [d] }
  | _ => none }
def DyadOfWrongFalsely : Prop := dyadOfRow.holds Tryz.pinned (OpenSpec.ofChange dyadOfWrong)

/-- 'plumblinelaw03.DyadWholes': WHATEVER THE INPUT: true; the input reads as it did. -/
def dyadWholesSpec : ChangeSpec := { name := "dyadWholes", fn := fun _ => fun
  | [d1, d2] => { results := [.lit (.bool true)], args := [d1, d2] }
  | _ => none }
def dyadWholesRow : OpenClaim := { program := "ytknomchkfamajaagreatdoor", sum := "37036c08720e68df841844530859ebd8b1a22a46988d0cd1185e67399dcd53f6", func := "plumbline/plumblinelaw03.DyadWholes", spec := "dyadWholes", inPlace := ["math.Float64frombits", "math.Float64bits", "math/bits.Add64", "math/bits.Sub64"], unfollowed := true, recurses := true, named := ["math/bits.deBruijn64tab", "math/bits.divideError", "math/bits.overflowError", "internal/strconv.uint64pow10", "math/bits.deBruijn32tab"], apart := false, laid := [("math/bits.deBruijn32tab", laid_math_bits_deBruijn32tab), ("math/bits.deBruijn64tab", laid_math_bits_deBruijn64tab), ("internal/strconv.uint64pow10", laid_internal_strconv_uint64pow10)] }
def DyadWholesSaid : Prop := dyadWholesRow.holds Tryz.pinned (OpenSpec.ofChange dyadWholesSpec)

/-- ITS FALSE NEIGHBOUR: 'it returns false'. Refute it at one input. -/
def dyadWholesWrong : ChangeSpec := { name := "dyadWholes", fn := fun _ => fun
  | [d1, d2] => { results := [.lit (.bool false)], args := [d1, d2] }
  | _ => none }
def DyadWholesWrongFalsely : Prop := dyadWholesRow.holds Tryz.pinned (OpenSpec.ofChange dyadWholesWrong)

/-- 'plumblinelaw03.DyadAdds': WHATEVER THE INPUT: true; the input reads as it did. -/
def dyadAddsSpec : ChangeSpec := { name := "dyadAdds", fn := fun _ => fun
  | [d1, d2] => { results := [.lit (.bool true)], args := [d1, d2] }
  | _ => none }
def dyadAddsRow : OpenClaim := { program := "ytknomchkfamajaagreatdoor", sum := "37036c08720e68df841844530859ebd8b1a22a46988d0cd1185e67399dcd53f6", func := "plumbline/plumblinelaw03.DyadAdds", spec := "dyadAdds", inPlace := ["math.Float64frombits", "math.Float64bits", "math/bits.Add64", "math/bits.Sub64"], unfollowed := true, recurses := true, named := ["math/bits.deBruijn64tab", "math/bits.divideError", "math/bits.overflowError", "internal/strconv.uint64pow10", "math/bits.deBruijn32tab"], apart := false, laid := [("math/bits.deBruijn32tab", laid_math_bits_deBruijn32tab), ("math/bits.deBruijn64tab", laid_math_bits_deBruijn64tab), ("internal/strconv.uint64pow10", laid_internal_strconv_uint64pow10)] }
def DyadAddsSaid : Prop := dyadAddsRow.holds Tryz.pinned (OpenSpec.ofChange dyadAddsSpec)

/-- ITS FALSE NEIGHBOUR: 'it returns false'. Refute it at one input. -/
def dyadAddsWrong : ChangeSpec := { name := "dyadAdds", fn := fun _ => fun
  | [d1, d2] => { results := [.lit (.bool false)], args := [d1, d2] }
  | _ => none }
def DyadAddsWrongFalsely : Prop := dyadAddsRow.holds Tryz.pinned (OpenSpec.ofChange dyadAddsWrong)

/-- 'plumblinelaw03.DyadSubs': WHATEVER THE INPUT: true; the input reads as it did. -/
def dyadSubsSpec : ChangeSpec := { name := "dyadSubs", fn := fun _ => fun
  | [d1, d2] => { results := [.lit (.bool true)], args := [d1, d2] }
  | _ => none }
def dyadSubsRow : OpenClaim := { program := "ytknomchkfamajaagreatdoor", sum := "37036c08720e68df841844530859ebd8b1a22a46988d0cd1185e67399dcd53f6", func := "plumbline/plumblinelaw03.DyadSubs", spec := "dyadSubs", inPlace := ["math.Float64frombits", "math.Float64bits", "math/bits.Add64", "math/bits.Sub64"], unfollowed := true, recurses := true, named := ["math/bits.deBruijn64tab", "math/bits.divideError", "math/bits.overflowError", "internal/strconv.uint64pow10", "math/bits.deBruijn32tab"], apart := false, laid := [("math/bits.deBruijn32tab", laid_math_bits_deBruijn32tab), ("math/bits.deBruijn64tab", laid_math_bits_deBruijn64tab), ("internal/strconv.uint64pow10", laid_internal_strconv_uint64pow10)] }
def DyadSubsSaid : Prop := dyadSubsRow.holds Tryz.pinned (OpenSpec.ofChange dyadSubsSpec)

/-- ITS FALSE NEIGHBOUR: 'it returns false'. Refute it at one input. -/
def dyadSubsWrong : ChangeSpec := { name := "dyadSubs", fn := fun _ => fun
  | [d1, d2] => { results := [.lit (.bool false)], args := [d1, d2] }
  | _ => none }
def DyadSubsWrongFalsely : Prop := dyadSubsRow.holds Tryz.pinned (OpenSpec.ofChange dyadSubsWrong)

/-- 'plumblinelaw03.DyadMuls': WHATEVER THE INPUT: true; the input reads as it did. -/
def dyadMulsSpec : ChangeSpec := { name := "dyadMuls", fn := fun _ => fun
  | [d1, d2] => { results := [.lit (.bool true)], args := [d1, d2] }
  | _ => none }
def dyadMulsRow : OpenClaim := { program := "ytknomchkfamajaagreatdoor", sum := "37036c08720e68df841844530859ebd8b1a22a46988d0cd1185e67399dcd53f6", func := "plumbline/plumblinelaw03.DyadMuls", spec := "dyadMuls", inPlace := ["math.Float64frombits", "math.Float64bits", "math/bits.Add64", "math/bits.Sub64"], unfollowed := true, recurses := true, named := ["math/bits.deBruijn64tab", "math/bits.divideError", "math/bits.overflowError", "internal/strconv.uint64pow10", "math/bits.deBruijn32tab"], apart := false, laid := [("math/bits.deBruijn32tab", laid_math_bits_deBruijn32tab), ("math/bits.deBruijn64tab", laid_math_bits_deBruijn64tab), ("internal/strconv.uint64pow10", laid_internal_strconv_uint64pow10)] }
def DyadMulsSaid : Prop := dyadMulsRow.holds Tryz.pinned (OpenSpec.ofChange dyadMulsSpec)

/-- ITS FALSE NEIGHBOUR: 'it returns false'. Refute it at one input. -/
def dyadMulsWrong : ChangeSpec := { name := "dyadMuls", fn := fun _ => fun
  | [d1, d2] => { results := [.lit (.bool false)], args := [d1, d2] }
  | _ => none }
def DyadMulsWrongFalsely : Prop := dyadMulsRow.holds Tryz.pinned (OpenSpec.ofChange dyadMulsWrong)

/-- 'plumblinelaw03.DyadShifts': WHATEVER THE INPUT: true; the input reads as it did. -/
def dyadShiftsSpec : ChangeSpec := { name := "dyadShifts", fn := fun _ => fun
  | [d1, d2] => { results := [.lit (.bool true)], args := [d1, d2] }
  | _ => none }
def dyadShiftsRow : OpenClaim := { program := "ytknomchkfamajaagreatdoor", sum := "37036c08720e68df841844530859ebd8b1a22a46988d0cd1185e67399dcd53f6", func := "plumbline/plumblinelaw03.DyadShifts", spec := "dyadShifts", inPlace := ["math.Float64frombits", "math.Float64bits", "math/bits.Add64", "math/bits.Sub64"], unfollowed := true, recurses := true, named := ["math/bits.deBruijn64tab", "math/bits.divideError", "math/bits.overflowError", "internal/strconv.uint64pow10", "math/bits.deBruijn32tab"], apart := false, laid := [("math/bits.deBruijn32tab", laid_math_bits_deBruijn32tab), ("math/bits.deBruijn64tab", laid_math_bits_deBruijn64tab), ("internal/strconv.uint64pow10", laid_internal_strconv_uint64pow10)] }
def DyadShiftsSaid : Prop := dyadShiftsRow.holds Tryz.pinned (OpenSpec.ofChange dyadShiftsSpec)

/-- ITS FALSE NEIGHBOUR: 'it returns false'. Refute it at one input. -/
def dyadShiftsWrong : ChangeSpec := { name := "dyadShifts", fn := fun _ => fun
  | [d1, d2] => { results := [.lit (.bool false)], args := [d1, d2] }
  | _ => none }
def DyadShiftsWrongFalsely : Prop := dyadShiftsRow.holds Tryz.pinned (OpenSpec.ofChange dyadShiftsWrong)

/-- 'plumblinelaw03.DyadSums': WHATEVER THE INPUT: true; the input reads as it did. -/
def dyadSumsSpec : ChangeSpec := { name := "dyadSums", fn := fun _ => fun
  | [d1, d2] => { results := [.lit (.bool true)], args := [d1, d2] }
  | _ => none }
def dyadSumsRow : OpenClaim := { program := "ytknomchkfamajaagreatdoor", sum := "37036c08720e68df841844530859ebd8b1a22a46988d0cd1185e67399dcd53f6", func := "plumbline/plumblinelaw03.DyadSums", spec := "dyadSums", inPlace := ["math.Float64frombits", "math.Float64bits", "math/bits.Add64", "math/bits.Sub64"], unfollowed := true, recurses := true, named := ["math/bits.deBruijn64tab", "math/bits.divideError", "math/bits.overflowError", "internal/strconv.uint64pow10", "math/bits.deBruijn32tab"], apart := false, laid := [("math/bits.deBruijn32tab", laid_math_bits_deBruijn32tab), ("math/bits.deBruijn64tab", laid_math_bits_deBruijn64tab), ("internal/strconv.uint64pow10", laid_internal_strconv_uint64pow10)] }
def DyadSumsSaid : Prop := dyadSumsRow.holds Tryz.pinned (OpenSpec.ofChange dyadSumsSpec)

/-- ITS FALSE NEIGHBOUR: 'it returns false'. Refute it at one input. -/
def dyadSumsWrong : ChangeSpec := { name := "dyadSums", fn := fun _ => fun
  | [d1, d2] => { results := [.lit (.bool false)], args := [d1, d2] }
  | _ => none }
def DyadSumsWrongFalsely : Prop := dyadSumsRow.holds Tryz.pinned (OpenSpec.ofChange dyadSumsWrong)

/-- 'plumblinelaw03.DyadMachine': WHATEVER THE INPUT: true; the input reads as it did. -/
def dyadMachineSpec : ChangeSpec := { name := "dyadMachine", fn := fun _ => fun
  | [d1, d2] => { results := [.lit (.bool true)], args := [d1, d2] }
  | _ => none }
def dyadMachineRow : OpenClaim := { program := "ytknomchkfamajaagreatdoor", sum := "37036c08720e68df841844530859ebd8b1a22a46988d0cd1185e67399dcd53f6", func := "plumbline/plumblinelaw03.DyadMachine", spec := "dyadMachine", inPlace := ["math.Float64frombits", "math.Float64bits", "math/bits.Add64", "math/bits.Sub64"], unfollowed := true, recurses := true, named := ["math/bits.deBruijn64tab", "math/bits.divideError", "math/bits.overflowError", "internal/strconv.uint64pow10", "math/bits.deBruijn32tab"], apart := false, laid := [("math/bits.deBruijn32tab", laid_math_bits_deBruijn32tab), ("math/bits.deBruijn64tab", laid_math_bits_deBruijn64tab), ("internal/strconv.uint64pow10", laid_internal_strconv_uint64pow10)] }
def DyadMachineSaid : Prop := dyadMachineRow.holds Tryz.pinned (OpenSpec.ofChange dyadMachineSpec)

/-- ITS FALSE NEIGHBOUR: 'it returns false'. Refute it at one input. -/
def dyadMachineWrong : ChangeSpec := { name := "dyadMachine", fn := fun _ => fun
  | [d1, d2] => { results := [.lit (.bool false)], args := [d1, d2] }
  | _ => none }
def DyadMachineWrongFalsely : Prop := dyadMachineRow.holds Tryz.pinned (OpenSpec.ofChange dyadMachineWrong)

/-- 'plumblinelaw03.DyadRings': WHATEVER THE INPUT: true; the input reads as it did. -/
def dyadRingsSpec : ChangeSpec := { name := "dyadRings", fn := fun _ => fun
  | [d1, d2, d3] => { results := [.lit (.bool true)], args := [d1, d2, d3] }
  | _ => none }
def dyadRingsRow : OpenClaim := { program := "ytknomchkfamajaagreatdoor", sum := "37036c08720e68df841844530859ebd8b1a22a46988d0cd1185e67399dcd53f6", func := "plumbline/plumblinelaw03.DyadRings", spec := "dyadRings", inPlace := ["math.Float64frombits", "math.Float64bits", "math/bits.Add64", "math/bits.Sub64"], unfollowed := true, recurses := true, named := ["math/bits.deBruijn64tab", "math/bits.divideError", "math/bits.overflowError", "internal/strconv.uint64pow10", "math/bits.deBruijn32tab"], apart := false, laid := [("math/bits.deBruijn32tab", laid_math_bits_deBruijn32tab), ("math/bits.deBruijn64tab", laid_math_bits_deBruijn64tab), ("internal/strconv.uint64pow10", laid_internal_strconv_uint64pow10)] }
def DyadRingsSaid : Prop := dyadRingsRow.holds Tryz.pinned (OpenSpec.ofChange dyadRingsSpec)

/-- ITS FALSE NEIGHBOUR: 'it returns false'. Refute it at one input. -/
def dyadRingsWrong : ChangeSpec := { name := "dyadRings", fn := fun _ => fun
  | [d1, d2, d3] => { results := [.lit (.bool false)], args := [d1, d2, d3] }
  | _ => none }
def DyadRingsWrongFalsely : Prop := dyadRingsRow.holds Tryz.pinned (OpenSpec.ofChange dyadRingsWrong)

/-- 'plumblinelaw03.DyadBounds': WHATEVER THE INPUT: true; the input reads as it did. -/
def dyadBoundsSpec : ChangeSpec := { name := "dyadBounds", fn := fun _ => fun
  | [] => { results := [.lit (.bool true)], args := [] }
  | _ => none }
def dyadBoundsRow : OpenClaim := { program := "ytknomchkfamajaagreatdoor", sum := "37036c08720e68df841844530859ebd8b1a22a46988d0cd1185e67399dcd53f6", func := "plumbline/plumblinelaw03.DyadBounds", spec := "dyadBounds", inPlace := ["math/bits.Add64", "math/bits.Sub64", "math.Float64bits", "math.Float64frombits"], unfollowed := true, recurses := true, named := ["math/bits.deBruijn64tab", "math/bits.divideError", "math/bits.overflowError", "internal/strconv.uint64pow10", "math/bits.deBruijn32tab"], apart := false, laid := [("math/bits.deBruijn32tab", laid_math_bits_deBruijn32tab), ("math/bits.deBruijn64tab", laid_math_bits_deBruijn64tab), ("internal/strconv.uint64pow10", laid_internal_strconv_uint64pow10)] }
def DyadBoundsSaid : Prop := dyadBoundsRow.holds Tryz.pinned (OpenSpec.ofChange dyadBoundsSpec)

/-- ITS FALSE NEIGHBOUR: 'it returns false'. Refute it at one input. -/
def dyadBoundsWrong : ChangeSpec := { name := "dyadBounds", fn := fun _ => fun
  | [] => { results := [.lit (.bool false)], args := [] }
  | _ => none }
def DyadBoundsWrongFalsely : Prop := dyadBoundsRow.holds Tryz.pinned (OpenSpec.ofChange dyadBoundsWrong)

/- THE SECOND FORM. 'bulk': how many values and letters a reading holds, each counted each time it is reached (what is shared counts as often as it is met; a slice's spare places count too). A statement '..UptoSaid' is the law's where the arguments, and the package variables that the reading takes, are together of bulk at most 1048576: NARROWER than '..Said'. Prove '..Said' where nothing that the law and all that it calls make is longer than what came in: it says more and counts as full. Else prove '..UptoSaid'. A law counts once. -/
mutual
def uptoBulk {H : Type} : DataW H → Nat
  | .lit (.string bytes) => bytes.length + 1
  | .lit _ => 1
  | .nil => 1
  | .ptr d => uptoBulk d + 1
  | .slice elems spare => uptoBulkAll elems + uptoBulkAll spare + 1
  | .agg parts => uptoBulkAll parts + 1
  | .iface _ d => uptoBulk d + 1
  | .map entries => uptoBulkEntries entries + 1
  | .held _ => 1
def uptoBulkAll {H : Type} : List (DataW H) → Nat
  | [] => 0
  | d :: r => uptoBulk d + uptoBulkAll r
def uptoBulkEntries {H : Type} : List (Lit × DataW H) → Nat
  | [] => 0
  | x :: r => uptoBulkEntry x + uptoBulkEntries r
def uptoBulkEntry {H : Type} : Lit × DataW H → Nat
  | (.string bytes, d) => bytes.length + uptoBulk d + 1
  | (_, d) => uptoBulk d + 1
 end
def uptoSmall : (H : Type) → List (DataW H) → Bool := fun _ ds => decide (uptoBulkAll ds ≤ 1048576)
def OpenSpec.upto (s : _root_.Go.ChangeSpec) : _root_.Go.OpenSpec := { _root_.Go.OpenSpec.ofChange s with cond := some uptoSmall }

/-- 'plumblinelaw03.DyadMay', WHERE WHAT IT READS IS OF BULK AT MOST 1048576: true; the input reads as it did. -/
def dyadMayUptoRow : OpenClaim := { program := "ytknomchkfamajaagreatdoor", sum := "37036c08720e68df841844530859ebd8b1a22a46988d0cd1185e67399dcd53f6", func := "plumbline/plumblinelaw03.DyadMay", spec := "dyadMay", inPlace := ["math.Float64frombits", "math.Float64bits", "math/bits.Add64", "math/bits.Sub64"], unfollowed := true, recurses := true, named := ["math/bits.deBruijn64tab", "math/bits.divideError", "math/bits.overflowError", "internal/strconv.uint64pow10", "math/bits.deBruijn32tab"], apart := false, laid := [("math/bits.deBruijn32tab", laid_math_bits_deBruijn32tab), ("math/bits.deBruijn64tab", laid_math_bits_deBruijn64tab), ("internal/strconv.uint64pow10", laid_internal_strconv_uint64pow10)], narrowed := true }
def DyadMayUptoSaid : Prop := dyadMayUptoRow.holds Tryz.pinned (OpenSpec.upto dyadMaySpec)

/-- 'plumblinelaw03.DyadOf', WHERE WHAT IT READS IS OF BULK AT MOST 1048576: true; the input reads as it did. -/
def dyadOfUptoRow : OpenClaim := { program := "ytknomchkfamajaagreatdoor", sum := "37036c08720e68df841844530859ebd8b1a22a46988d0cd1185e67399dcd53f6", func := "plumbline/plumblinelaw03.DyadOf", spec := "dyadOf", inPlace := ["math.Float64frombits", "math.Float64bits", "math/bits.Add64", "math/bits.Sub64"], unfollowed := true, recurses := true, named := ["math/bits.deBruijn64tab", "math/bits.divideError", "math/bits.overflowError", "internal/strconv.uint64pow10", "math/bits.deBruijn32tab"], apart := false, laid := [("math/bits.deBruijn32tab", laid_math_bits_deBruijn32tab), ("math/bits.deBruijn64tab", laid_math_bits_deBruijn64tab), ("internal/strconv.uint64pow10", laid_internal_strconv_uint64pow10)], narrowed := true }
def DyadOfUptoSaid : Prop := dyadOfUptoRow.holds Tryz.pinned (OpenSpec.upto dyadOfSpec)

/-- 'plumblinelaw03.DyadWholes', WHERE WHAT IT READS IS OF BULK AT MOST 1048576: true; the input reads as it did. -/
def dyadWholesUptoRow : OpenClaim := { program := "ytknomchkfamajaagreatdoor", sum := "37036c08720e68df841844530859ebd8b1a22a46988d0cd1185e67399dcd53f6", func := "plumbline/plumblinelaw03.DyadWholes", spec := "dyadWholes", inPlace := ["math.Float64frombits", "math.Float64bits", "math/bits.Add64", "math/bits.Sub64"], unfollowed := true, recurses := true, named := ["math/bits.deBruijn64tab", "math/bits.divideError", "math/bits.overflowError", "internal/strconv.uint64pow10", "math/bits.deBruijn32tab"], apart := false, laid := [("math/bits.deBruijn32tab", laid_math_bits_deBruijn32tab), ("math/bits.deBruijn64tab", laid_math_bits_deBruijn64tab), ("internal/strconv.uint64pow10", laid_internal_strconv_uint64pow10)], narrowed := true }
def DyadWholesUptoSaid : Prop := dyadWholesUptoRow.holds Tryz.pinned (OpenSpec.upto dyadWholesSpec)

/-- 'plumblinelaw03.DyadAdds', WHERE WHAT IT READS IS OF BULK AT MOST 1048576: true; the input reads as it did. -/
def dyadAddsUptoRow : OpenClaim := { program := "ytknomchkfamajaagreatdoor", sum := "37036c08720e68df841844530859ebd8b1a22a46988d0cd1185e67399dcd53f6", func := "plumbline/plumblinelaw03.DyadAdds", spec := "dyadAdds", inPlace := ["math.Float64frombits", "math.Float64bits", "math/bits.Add64", "math/bits.Sub64"], unfollowed := true, recurses := true, named := ["math/bits.deBruijn64tab", "math/bits.divideError", "math/bits.overflowError", "internal/strconv.uint64pow10", "math/bits.deBruijn32tab"], apart := false, laid := [("math/bits.deBruijn32tab", laid_math_bits_deBruijn32tab), ("math/bits.deBruijn64tab", laid_math_bits_deBruijn64tab), ("internal/strconv.uint64pow10", laid_internal_strconv_uint64pow10)], narrowed := true }
def DyadAddsUptoSaid : Prop := dyadAddsUptoRow.holds Tryz.pinned (OpenSpec.upto dyadAddsSpec)

/-- 'plumblinelaw03.DyadSubs', WHERE WHAT IT READS IS OF BULK AT MOST 1048576: true; the input reads as it did. -/
def dyadSubsUptoRow : OpenClaim := { program := "ytknomchkfamajaagreatdoor", sum := "37036c08720e68df841844530859ebd8b1a22a46988d0cd1185e67399dcd53f6", func := "plumbline/plumblinelaw03.DyadSubs", spec := "dyadSubs", inPlace := ["math.Float64frombits", "math.Float64bits", "math/bits.Add64", "math/bits.Sub64"], unfollowed := true, recurses := true, named := ["math/bits.deBruijn64tab", "math/bits.divideError", "math/bits.overflowError", "internal/strconv.uint64pow10", "math/bits.deBruijn32tab"], apart := false, laid := [("math/bits.deBruijn32tab", laid_math_bits_deBruijn32tab), ("math/bits.deBruijn64tab", laid_math_bits_deBruijn64tab), ("internal/strconv.uint64pow10", laid_internal_strconv_uint64pow10)], narrowed := true }
def DyadSubsUptoSaid : Prop := dyadSubsUptoRow.holds Tryz.pinned (OpenSpec.upto dyadSubsSpec)

/-- 'plumblinelaw03.DyadMuls', WHERE WHAT IT READS IS OF BULK AT MOST 1048576: true; the input reads as it did. -/
def dyadMulsUptoRow : OpenClaim := { program := "ytknomchkfamajaagreatdoor", sum := "37036c08720e68df841844530859ebd8b1a22a46988d0cd1185e67399dcd53f6", func := "plumbline/plumblinelaw03.DyadMuls", spec := "dyadMuls", inPlace := ["math.Float64frombits", "math.Float64bits", "math/bits.Add64", "math/bits.Sub64"], unfollowed := true, recurses := true, named := ["math/bits.deBruijn64tab", "math/bits.divideError", "math/bits.overflowError", "internal/strconv.uint64pow10", "math/bits.deBruijn32tab"], apart := false, laid := [("math/bits.deBruijn32tab", laid_math_bits_deBruijn32tab), ("math/bits.deBruijn64tab", laid_math_bits_deBruijn64tab), ("internal/strconv.uint64pow10", laid_internal_strconv_uint64pow10)], narrowed := true }
def DyadMulsUptoSaid : Prop := dyadMulsUptoRow.holds Tryz.pinned (OpenSpec.upto dyadMulsSpec)

/-- 'plumblinelaw03.DyadShifts', WHERE WHAT IT READS IS OF BULK AT MOST 1048576: true; the input reads as it did. -/
def dyadShiftsUptoRow : OpenClaim := { program := "ytknomchkfamajaagreatdoor", sum := "37036c08720e68df841844530859ebd8b1a22a46988d0cd1185e67399dcd53f6", func := "plumbline/plumblinelaw03.DyadShifts", spec := "dyadShifts", inPlace := ["math.Float64frombits", "math.Float64bits", "math/bits.Add64", "math/bits.Sub64"], unfollowed := true, recurses := true, named := ["math/bits.deBruijn64tab", "math/bits.divideError", "math/bits.overflowError", "internal/strconv.uint64pow10", "math/bits.deBruijn32tab"], apart := false, laid := [("math/bits.deBruijn32tab", laid_math_bits_deBruijn32tab), ("math/bits.deBruijn64tab", laid_math_bits_deBruijn64tab), ("internal/strconv.uint64pow10", laid_internal_strconv_uint64pow10)], narrowed := true }
def DyadShiftsUptoSaid : Prop := dyadShiftsUptoRow.holds Tryz.pinned (OpenSpec.upto dyadShiftsSpec)

/-- 'plumblinelaw03.DyadSums', WHERE WHAT IT READS IS OF BULK AT MOST 1048576: true; the input reads as it did. -/
def dyadSumsUptoRow : OpenClaim := { program := "ytknomchkfamajaagreatdoor", sum := "37036c08720e68df841844530859ebd8b1a22a46988d0cd1185e67399dcd53f6", func := "plumbline/plumblinelaw03.DyadSums", spec := "dyadSums", inPlace := ["math.Float64frombits", "math.Float64bits", "math/bits.Add64", "math/bits.Sub64"], unfollowed := true, recurses := true, named := ["math/bits.deBruijn64tab", "math/bits.divideError", "math/bits.overflowError", "internal/strconv.uint64pow10", "math/bits.deBruijn32tab"], apart := false, laid := [("math/bits.deBruijn32tab", laid_math_bits_deBruijn32tab), ("math/bits.deBruijn64tab", laid_math_bits_deBruijn64tab), ("internal/strconv.uint64pow10", laid_internal_strconv_uint64pow10)], narrowed := true }
def DyadSumsUptoSaid : Prop := dyadSumsUptoRow.holds Tryz.pinned (OpenSpec.upto dyadSumsSpec)

/-- 'plumblinelaw03.DyadMachine', WHERE WHAT IT READS IS OF BULK AT MOST 1048576: true; the input reads as it did. -/
def dyadMachineUptoRow : OpenClaim := { program := "ytknomchkfamajaagreatdoor", sum := "37036c08720e68df841844530859ebd8b1a22a46988d0cd1185e67399dcd53f6", func := "plumbline/plumblinelaw03.DyadMachine", spec := "dyadMachine", inPlace := ["math.Float64frombits", "math.Float64bits", "math/bits.Add64", "math/bits.Sub64"], unfollowed := true, recurses := true, named := ["math/bits.deBruijn64tab", "math/bits.divideError", "math/bits.overflowError", "internal/strconv.uint64pow10", "math/bits.deBruijn32tab"], apart := false, laid := [("math/bits.deBruijn32tab", laid_math_bits_deBruijn32tab), ("math/bits.deBruijn64tab", laid_math_bits_deBruijn64tab), ("internal/strconv.uint64pow10", laid_internal_strconv_uint64pow10)], narrowed := true }
def DyadMachineUptoSaid : Prop := dyadMachineUptoRow.holds Tryz.pinned (OpenSpec.upto dyadMachineSpec)

/-- 'plumblinelaw03.DyadRings', WHERE WHAT IT READS IS OF BULK AT MOST 1048576: true; the input reads as it did. -/
def dyadRingsUptoRow : OpenClaim := { program := "ytknomchkfamajaagreatdoor", sum := "37036c08720e68df841844530859ebd8b1a22a46988d0cd1185e67399dcd53f6", func := "plumbline/plumblinelaw03.DyadRings", spec := "dyadRings", inPlace := ["math.Float64frombits", "math.Float64bits", "math/bits.Add64", "math/bits.Sub64"], unfollowed := true, recurses := true, named := ["math/bits.deBruijn64tab", "math/bits.divideError", "math/bits.overflowError", "internal/strconv.uint64pow10", "math/bits.deBruijn32tab"], apart := false, laid := [("math/bits.deBruijn32tab", laid_math_bits_deBruijn32tab), ("math/bits.deBruijn64tab", laid_math_bits_deBruijn64tab), ("internal/strconv.uint64pow10", laid_internal_strconv_uint64pow10)], narrowed := true }
def DyadRingsUptoSaid : Prop := dyadRingsUptoRow.holds Tryz.pinned (OpenSpec.upto dyadRingsSpec)

/-- 'plumblinelaw03.DyadBounds', WHERE WHAT IT READS IS OF BULK AT MOST 1048576: true; the input reads as it did. -/
def dyadBoundsUptoRow : OpenClaim := { program := "ytknomchkfamajaagreatdoor", sum := "37036c08720e68df841844530859ebd8b1a22a46988d0cd1185e67399dcd53f6", func := "plumbline/plumblinelaw03.DyadBounds", spec := "dyadBounds", inPlace := ["math/bits.Add64", "math/bits.Sub64", "math.Float64bits", "math.Float64frombits"], unfollowed := true, recurses := true, named := ["math/bits.deBruijn64tab", "math/bits.divideError", "math/bits.overflowError", "internal/strconv.uint64pow10", "math/bits.deBruijn32tab"], apart := false, laid := [("math/bits.deBruijn32tab", laid_math_bits_deBruijn32tab), ("math/bits.deBruijn64tab", laid_math_bits_deBruijn64tab), ("internal/strconv.uint64pow10", laid_internal_strconv_uint64pow10)], narrowed := true }
def DyadBoundsUptoSaid : Prop := dyadBoundsUptoRow.holds Tryz.pinned (OpenSpec.upto dyadBoundsSpec)

end Rows
end Go.Proofs.YtknomchkfamajaaGreatDoor
