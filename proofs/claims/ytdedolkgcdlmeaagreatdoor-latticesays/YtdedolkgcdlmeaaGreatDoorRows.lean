/-
  NARROWER THAN 'FOR EVERY INPUT', by the rows' own cells (each row's printed sentence says how): DetSays: laid · SmithSays: laid · LatticeSays: laid · BasisSays: laid · IndexSays: laid · TopSecond: laid.
  DERIVED. THE GIVEN ROWS OF THIS SEAT. 6 by the template 'for every input the law returns true; each argument reads behind the call as it read before'; 0 by the template 'total and deterministic' (their statements: YtdedolkgcdlmeaaGreatDoorTotals.lean).
  GIVEN WITH THE SEED: the statements are not yours to turn. If you find one false, say at which input.
  Laid BY PROGRAM, IN A SANDBOX (cutbox-rows.mjs): the forced cells as the released guide's own fill.sh prints them over the translation 329838ed5cfc243c… (all of the seat's roots in one cut). By AI agents, Wed Nov 11 2026. No macro, syntax, notation, axiom, sorry.
-/
import Derived.Test.YtdedolkgcdlmeaaGreatDoorChecked
import GoSem.Claim
import GoSem.ClaimJoined
import GoSem.ClaimMapViews
import Derived.JoinedTies
import Derived.KernelRfl
namespace Go.Proofs.YtdedolkgcdlmeaaGreatDoor
/- THE CELL 'sum', in the pinned program and in every row, IS THE sha256 OF THE DUMP (.gsa) THAT YtdedolkgcdlmeaaGreatDoorProg.lean LOADS. Nothing in Lean hashes anything: it is a label: what it is worth is what the hold of that sum in a sandbox is worth. -/
noncomputable def Tryz.pinned : Pinned := { name := "ytdedolkgcdlmeaagreatdoor", sum := "329838ed5cfc243c55176aa9fda886bbffda04c4a8c0ac3d9c92c8ea8ffe6c3e", checked := Tryz.checked }
namespace Rows
def none {H : Type} : Left H := { results := [], args := [] }

/- WHAT THE LISTED PACKAGE-LEVEL VARIABLES READ AS WHEN THE CALL BEGINS. Each datum BY PROGRAM (the guide's laid-datum.mjs) off the statement by which the dump's own 'gosem.cut.vars' lays the variable. In a bare row this is a premise. The card (YtdedolkgcdlmeaaGreatDoorCards.lean) ties it to the program's text. -/
def laid_math_bits_deBruijn32tab {H : Type} : DataW H := .agg [.lit (.int .u8 0), .lit (.int .u8 1), .lit (.int .u8 28), .lit (.int .u8 2), .lit (.int .u8 29), .lit (.int .u8 14), .lit (.int .u8 24), .lit (.int .u8 3), .lit (.int .u8 30), .lit (.int .u8 22), .lit (.int .u8 20), .lit (.int .u8 15), .lit (.int .u8 25), .lit (.int .u8 17), .lit (.int .u8 4), .lit (.int .u8 8), .lit (.int .u8 31), .lit (.int .u8 27), .lit (.int .u8 13), .lit (.int .u8 23), .lit (.int .u8 21), .lit (.int .u8 19), .lit (.int .u8 16), .lit (.int .u8 7), .lit (.int .u8 26), .lit (.int .u8 12), .lit (.int .u8 18), .lit (.int .u8 6), .lit (.int .u8 11), .lit (.int .u8 5), .lit (.int .u8 10), .lit (.int .u8 9)]
def laid_math_bits_deBruijn64tab {H : Type} : DataW H := .agg [.lit (.int .u8 0), .lit (.int .u8 1), .lit (.int .u8 56), .lit (.int .u8 2), .lit (.int .u8 57), .lit (.int .u8 49), .lit (.int .u8 28), .lit (.int .u8 3), .lit (.int .u8 61), .lit (.int .u8 58), .lit (.int .u8 42), .lit (.int .u8 50), .lit (.int .u8 38), .lit (.int .u8 29), .lit (.int .u8 17), .lit (.int .u8 4), .lit (.int .u8 62), .lit (.int .u8 47), .lit (.int .u8 59), .lit (.int .u8 36), .lit (.int .u8 45), .lit (.int .u8 43), .lit (.int .u8 51), .lit (.int .u8 22), .lit (.int .u8 53), .lit (.int .u8 39), .lit (.int .u8 33), .lit (.int .u8 30), .lit (.int .u8 24), .lit (.int .u8 18), .lit (.int .u8 12), .lit (.int .u8 5), .lit (.int .u8 63), .lit (.int .u8 55), .lit (.int .u8 48), .lit (.int .u8 27), .lit (.int .u8 60), .lit (.int .u8 41), .lit (.int .u8 37), .lit (.int .u8 16), .lit (.int .u8 46), .lit (.int .u8 35), .lit (.int .u8 44), .lit (.int .u8 21), .lit (.int .u8 52), .lit (.int .u8 32), .lit (.int .u8 23), .lit (.int .u8 11), .lit (.int .u8 54), .lit (.int .u8 26), .lit (.int .u8 40), .lit (.int .u8 15), .lit (.int .u8 34), .lit (.int .u8 20), .lit (.int .u8 31), .lit (.int .u8 10), .lit (.int .u8 25), .lit (.int .u8 14), .lit (.int .u8 19), .lit (.int .u8 9), .lit (.int .u8 13), .lit (.int .u8 8), .lit (.int .u8 7), .lit (.int .u8 6)]
def laid_internal_strconv_uint64pow10 {H : Type} : DataW H := .agg [.lit (.int .u64 1), .lit (.int .u64 10), .lit (.int .u64 100), .lit (.int .u64 1000), .lit (.int .u64 10000), .lit (.int .u64 100000), .lit (.int .u64 1000000), .lit (.int .u64 10000000), .lit (.int .u64 100000000), .lit (.int .u64 1000000000), .lit (.int .u64 10000000000), .lit (.int .u64 100000000000), .lit (.int .u64 1000000000000), .lit (.int .u64 10000000000000), .lit (.int .u64 100000000000000), .lit (.int .u64 1000000000000000), .lit (.int .u64 10000000000000000), .lit (.int .u64 100000000000000000), .lit (.int .u64 1000000000000000000), .lit (.int .u64 10000000000000000000)]

/-- 'basiskeeplaw.DetSays': WHATEVER THE INPUT: true; the input reads as it did. -/
def detSaysSpec : ChangeSpec := { name := "detSays", fn := fun _ => fun
  | [d] => { results := [.lit (.bool true)], args := [d] }
  | _ => none }
def detSaysRow : OpenClaim := { program := "ytdedolkgcdlmeaagreatdoor", sum := "329838ed5cfc243c55176aa9fda886bbffda04c4a8c0ac3d9c92c8ea8ffe6c3e", func := "basiskeep/basiskeeplaw.DetSays", spec := "detSays", inPlace := ["internal/abi.NoEscape", "internal/bytealg.MakeNoZero"], recurses := true, named := ["math/bits.overflowError", "internal/strconv.uint64pow10", "math/bits.deBruijn32tab", "math/bits.deBruijn64tab"], apart := false, laid := [("math/bits.deBruijn32tab", laid_math_bits_deBruijn32tab), ("math/bits.deBruijn64tab", laid_math_bits_deBruijn64tab), ("internal/strconv.uint64pow10", laid_internal_strconv_uint64pow10)] }
def DetSaysSaid : Prop := detSaysRow.holds Tryz.pinned (OpenSpec.ofChange detSaysSpec)

/-- ITS FALSE NEIGHBOUR: 'it returns false'. Refute it at one input. -/
def detSaysWrong : ChangeSpec := { name := "detSays", fn := fun _ => fun
  | [d] => { results := [.lit (.bool false)], args := [d] }
  | _ => none }
def DetSaysWrongFalsely : Prop := detSaysRow.holds Tryz.pinned (OpenSpec.ofChange detSaysWrong)

/-- 'basiskeeplaw.SmithSays': WHATEVER THE INPUT: true; the input reads as it did. -/
def smithSaysSpec : ChangeSpec := { name := "smithSays", fn := fun _ => fun
  | [d1, d2] => { results := [.lit (.bool true)], args := [d1, d2] }
  | _ => none }
def smithSaysRow : OpenClaim := { program := "ytdedolkgcdlmeaagreatdoor", sum := "329838ed5cfc243c55176aa9fda886bbffda04c4a8c0ac3d9c92c8ea8ffe6c3e", func := "basiskeep/basiskeeplaw.SmithSays", spec := "smithSays", inPlace := ["internal/abi.NoEscape", "internal/bytealg.MakeNoZero"], recurses := true, named := ["math/bits.overflowError", "internal/strconv.uint64pow10", "math/bits.deBruijn32tab", "math/bits.deBruijn64tab"], apart := false, laid := [("math/bits.deBruijn32tab", laid_math_bits_deBruijn32tab), ("math/bits.deBruijn64tab", laid_math_bits_deBruijn64tab), ("internal/strconv.uint64pow10", laid_internal_strconv_uint64pow10)] }
def SmithSaysSaid : Prop := smithSaysRow.holds Tryz.pinned (OpenSpec.ofChange smithSaysSpec)

/-- ITS FALSE NEIGHBOUR: 'it returns false'. Refute it at one input. -/
def smithSaysWrong : ChangeSpec := { name := "smithSays", fn := fun _ => fun
  | [d1, d2] => { results := [.lit (.bool false)], args := [d1, d2] }
  | _ => none }
def SmithSaysWrongFalsely : Prop := smithSaysRow.holds Tryz.pinned (OpenSpec.ofChange smithSaysWrong)

/-- 'basiskeeplaw.LatticeSays': WHATEVER THE INPUT: true; the input reads as it did. -/
def latticeSaysSpec : ChangeSpec := { name := "latticeSays", fn := fun _ => fun
  | [d1, d2, d3] => { results := [.lit (.bool true)], args := [d1, d2, d3] }
  | _ => none }
def latticeSaysRow : OpenClaim := { program := "ytdedolkgcdlmeaagreatdoor", sum := "329838ed5cfc243c55176aa9fda886bbffda04c4a8c0ac3d9c92c8ea8ffe6c3e", func := "basiskeep/basiskeeplaw.LatticeSays", spec := "latticeSays", inPlace := ["internal/abi.NoEscape", "internal/bytealg.MakeNoZero"], unfollowed := true, recurses := true, named := ["math/bits.overflowError", "internal/strconv.uint64pow10", "math/bits.deBruijn32tab", "math/bits.deBruijn64tab"], apart := false, laid := [("math/bits.deBruijn32tab", laid_math_bits_deBruijn32tab), ("math/bits.deBruijn64tab", laid_math_bits_deBruijn64tab), ("internal/strconv.uint64pow10", laid_internal_strconv_uint64pow10)] }
def LatticeSaysSaid : Prop := latticeSaysRow.holds Tryz.pinned (OpenSpec.ofChange latticeSaysSpec)

/-- ITS FALSE NEIGHBOUR: 'it returns false'. Refute it at one input. -/
def latticeSaysWrong : ChangeSpec := { name := "latticeSays", fn := fun _ => fun
  | [d1, d2, d3] => { results := [.lit (.bool false)], args := [d1, d2, d3] }
  | _ => none }
def LatticeSaysWrongFalsely : Prop := latticeSaysRow.holds Tryz.pinned (OpenSpec.ofChange latticeSaysWrong)

/-- 'basiskeeplaw.BasisSays': WHATEVER THE INPUT: true; the input reads as it did. -/
def basisSaysSpec : ChangeSpec := { name := "basisSays", fn := fun _ => fun
  | [d1, d2, d3] => { results := [.lit (.bool true)], args := [d1, d2, d3] }
  | _ => none }
def basisSaysRow : OpenClaim := { program := "ytdedolkgcdlmeaagreatdoor", sum := "329838ed5cfc243c55176aa9fda886bbffda04c4a8c0ac3d9c92c8ea8ffe6c3e", func := "basiskeep/basiskeeplaw.BasisSays", spec := "basisSays", inPlace := ["internal/abi.NoEscape", "internal/bytealg.MakeNoZero"], unfollowed := true, recurses := true, named := ["math/bits.overflowError", "internal/strconv.uint64pow10", "math/bits.deBruijn32tab", "math/bits.deBruijn64tab"], apart := false, laid := [("math/bits.deBruijn32tab", laid_math_bits_deBruijn32tab), ("math/bits.deBruijn64tab", laid_math_bits_deBruijn64tab), ("internal/strconv.uint64pow10", laid_internal_strconv_uint64pow10)] }
def BasisSaysSaid : Prop := basisSaysRow.holds Tryz.pinned (OpenSpec.ofChange basisSaysSpec)

/-- ITS FALSE NEIGHBOUR: 'it returns false'. Refute it at one input. -/
def basisSaysWrong : ChangeSpec := { name := "basisSays", fn := fun _ => fun
  | [d1, d2, d3] => { results := [.lit (.bool false)], args := [d1, d2, d3] }
  | _ => none }
def BasisSaysWrongFalsely : Prop := basisSaysRow.holds Tryz.pinned (OpenSpec.ofChange basisSaysWrong)

/-- 'basiskeeplaw.IndexSays': WHATEVER THE INPUT: true; the input reads as it did. -/
def indexSaysSpec : ChangeSpec := { name := "indexSays", fn := fun _ => fun
  | [d1, d2] => { results := [.lit (.bool true)], args := [d1, d2] }
  | _ => none }
def indexSaysRow : OpenClaim := { program := "ytdedolkgcdlmeaagreatdoor", sum := "329838ed5cfc243c55176aa9fda886bbffda04c4a8c0ac3d9c92c8ea8ffe6c3e", func := "basiskeep/basiskeeplaw.IndexSays", spec := "indexSays", inPlace := ["internal/abi.NoEscape", "internal/bytealg.MakeNoZero"], unfollowed := true, recurses := true, named := ["math/bits.overflowError", "internal/strconv.uint64pow10", "math/bits.deBruijn32tab", "math/bits.deBruijn64tab"], apart := false, laid := [("math/bits.deBruijn32tab", laid_math_bits_deBruijn32tab), ("math/bits.deBruijn64tab", laid_math_bits_deBruijn64tab), ("internal/strconv.uint64pow10", laid_internal_strconv_uint64pow10)] }
def IndexSaysSaid : Prop := indexSaysRow.holds Tryz.pinned (OpenSpec.ofChange indexSaysSpec)

/-- ITS FALSE NEIGHBOUR: 'it returns false'. Refute it at one input. -/
def indexSaysWrong : ChangeSpec := { name := "indexSays", fn := fun _ => fun
  | [d1, d2] => { results := [.lit (.bool false)], args := [d1, d2] }
  | _ => none }
def IndexSaysWrongFalsely : Prop := indexSaysRow.holds Tryz.pinned (OpenSpec.ofChange indexSaysWrong)

/-- 'basiskeeptop.TopSecond': WHATEVER THE INPUT: true; the input reads as it did. -/
def topSecondSpec : ChangeSpec := { name := "topSecond", fn := fun _ => fun
  | [d1, d2] => { results := [.lit (.bool true)], args := [d1, d2] }
  | _ => none }
def topSecondRow : OpenClaim := { program := "ytdedolkgcdlmeaagreatdoor", sum := "329838ed5cfc243c55176aa9fda886bbffda04c4a8c0ac3d9c92c8ea8ffe6c3e", func := "basiskeep/basiskeeptop.TopSecond", spec := "topSecond", inPlace := ["internal/abi.NoEscape", "internal/bytealg.MakeNoZero"], unfollowed := true, recurses := true, named := ["math/bits.overflowError", "internal/strconv.uint64pow10", "math/bits.deBruijn32tab", "math/bits.deBruijn64tab"], apart := false, laid := [("math/bits.deBruijn32tab", laid_math_bits_deBruijn32tab), ("math/bits.deBruijn64tab", laid_math_bits_deBruijn64tab), ("internal/strconv.uint64pow10", laid_internal_strconv_uint64pow10)] }
def TopSecondSaid : Prop := topSecondRow.holds Tryz.pinned (OpenSpec.ofChange topSecondSpec)

/-- ITS FALSE NEIGHBOUR: 'it returns false'. Refute it at one input. -/
def topSecondWrong : ChangeSpec := { name := "topSecond", fn := fun _ => fun
  | [d1, d2] => { results := [.lit (.bool false)], args := [d1, d2] }
  | _ => none }
def TopSecondWrongFalsely : Prop := topSecondRow.holds Tryz.pinned (OpenSpec.ofChange topSecondWrong)

/- THE SECOND FORM. 'bulk': how many values and letters a reading holds, each counted each time it is reached (what is shared counts as often as it is met; a slice's spare places count too). A statement '..UptoSaid' is the law's where the arguments, and the package variables that the reading takes, are together of bulk at most 1048576: NARROWER than '..Said'. Prove '..Said' where nothing that the law and all that it calls make is longer than what came in: it says more and counts as full. Else prove '..UptoSaid'. A law counts once. -/
mutual
def uptoBulk {H : Type} : DataW H → Nat
  | .lit (.string bytes) => bytes.length + 1
  | .lit _ => 1
  | .nil => 1
  | .ptr d => uptoBulk d + 1
  | .slice elems spare => uptoBulkAll elems + uptoBulkAll spare + 1
  | .agg parts => uptoBulkAll parts + 1
  | .iface _ d => uptoBulk d + 1
  | .map entries => uptoBulkEntries entries + 1
  | .held _ => 1
def uptoBulkAll {H : Type} : List (DataW H) → Nat
  | [] => 0
  | d :: r => uptoBulk d + uptoBulkAll r
def uptoBulkEntries {H : Type} : List (Lit × DataW H) → Nat
  | [] => 0
  | x :: r => uptoBulkEntry x + uptoBulkEntries r
def uptoBulkEntry {H : Type} : Lit × DataW H → Nat
  | (.string bytes, d) => bytes.length + uptoBulk d + 1
  | (_, d) => uptoBulk d + 1
 end
def uptoSmall : (H : Type) → List (DataW H) → Bool := fun _ ds => decide (uptoBulkAll ds ≤ 1048576)
def OpenSpec.upto (s : _root_.Go.ChangeSpec) : _root_.Go.OpenSpec := { _root_.Go.OpenSpec.ofChange s with cond := some uptoSmall }

/-- 'basiskeeplaw.DetSays', WHERE WHAT IT READS IS OF BULK AT MOST 1048576: true; the input reads as it did. -/
def detSaysUptoRow : OpenClaim := { program := "ytdedolkgcdlmeaagreatdoor", sum := "329838ed5cfc243c55176aa9fda886bbffda04c4a8c0ac3d9c92c8ea8ffe6c3e", func := "basiskeep/basiskeeplaw.DetSays", spec := "detSays", inPlace := ["internal/abi.NoEscape", "internal/bytealg.MakeNoZero"], recurses := true, named := ["math/bits.overflowError", "internal/strconv.uint64pow10", "math/bits.deBruijn32tab", "math/bits.deBruijn64tab"], apart := false, laid := [("math/bits.deBruijn32tab", laid_math_bits_deBruijn32tab), ("math/bits.deBruijn64tab", laid_math_bits_deBruijn64tab), ("internal/strconv.uint64pow10", laid_internal_strconv_uint64pow10)], narrowed := true }
def DetSaysUptoSaid : Prop := detSaysUptoRow.holds Tryz.pinned (OpenSpec.upto detSaysSpec)

/-- 'basiskeeplaw.SmithSays', WHERE WHAT IT READS IS OF BULK AT MOST 1048576: true; the input reads as it did. -/
def smithSaysUptoRow : OpenClaim := { program := "ytdedolkgcdlmeaagreatdoor", sum := "329838ed5cfc243c55176aa9fda886bbffda04c4a8c0ac3d9c92c8ea8ffe6c3e", func := "basiskeep/basiskeeplaw.SmithSays", spec := "smithSays", inPlace := ["internal/abi.NoEscape", "internal/bytealg.MakeNoZero"], recurses := true, named := ["math/bits.overflowError", "internal/strconv.uint64pow10", "math/bits.deBruijn32tab", "math/bits.deBruijn64tab"], apart := false, laid := [("math/bits.deBruijn32tab", laid_math_bits_deBruijn32tab), ("math/bits.deBruijn64tab", laid_math_bits_deBruijn64tab), ("internal/strconv.uint64pow10", laid_internal_strconv_uint64pow10)], narrowed := true }
def SmithSaysUptoSaid : Prop := smithSaysUptoRow.holds Tryz.pinned (OpenSpec.upto smithSaysSpec)

/-- 'basiskeeplaw.LatticeSays', WHERE WHAT IT READS IS OF BULK AT MOST 1048576: true; the input reads as it did. -/
def latticeSaysUptoRow : OpenClaim := { program := "ytdedolkgcdlmeaagreatdoor", sum := "329838ed5cfc243c55176aa9fda886bbffda04c4a8c0ac3d9c92c8ea8ffe6c3e", func := "basiskeep/basiskeeplaw.LatticeSays", spec := "latticeSays", inPlace := ["internal/abi.NoEscape", "internal/bytealg.MakeNoZero"], unfollowed := true, recurses := true, named := ["math/bits.overflowError", "internal/strconv.uint64pow10", "math/bits.deBruijn32tab", "math/bits.deBruijn64tab"], apart := false, laid := [("math/bits.deBruijn32tab", laid_math_bits_deBruijn32tab), ("math/bits.deBruijn64tab", laid_math_bits_deBruijn64tab), ("internal/strconv.uint64pow10", laid_internal_strconv_uint64pow10)], narrowed := true }
def LatticeSaysUptoSaid : Prop := latticeSaysUptoRow.holds Tryz.pinned (OpenSpec.upto latticeSaysSpec)

/-- 'basiskeeplaw.BasisSays', WHERE WHAT IT READS IS OF BULK AT MOST 1048576: true; the input reads as it did. -/
def basisSaysUptoRow : OpenClaim := { program := "ytdedolkgcdlmeaagreatdoor", sum := "329838ed5cfc243c55176aa9fda886bbffda04c4a8c0ac3d9c92c8ea8ffe6c3e", func := "basiskeep/basiskeeplaw.BasisSays", spec := "basisSays", inPlace := ["internal/abi.NoEscape", "internal/bytealg.MakeNoZero"], unfollowed := true, recurses := true, named := ["math/bits.overflowError", "internal/strconv.uint64pow10", "math/bits.deBruijn32tab", "math/bits.deBruijn64tab"], apart := false, laid := [("math/bits.deBruijn32tab", laid_math_bits_deBruijn32tab), ("math/bits.deBruijn64tab", laid_math_bits_deBruijn64tab), ("internal/strconv.uint64pow10", laid_internal_strconv_uint64pow10)], narrowed := true }
def BasisSaysUptoSaid : Prop := basisSaysUptoRow.holds Tryz.pinned (OpenSpec.upto basisSaysSpec)

/-- 'basiskeeplaw.IndexSays', WHERE WHAT IT READS IS OF BULK AT MOST 1048576: true; the input reads as it did. -/
def indexSaysUptoRow : OpenClaim := { program := "ytdedolkgcdlmeaagreatdoor", sum := "329838ed5cfc243c55176aa9fda886bbffda04c4a8c0ac3d9c92c8ea8ffe6c3e", func := "basiskeep/basiskeeplaw.IndexSays", spec := "indexSays", inPlace := ["internal/abi.NoEscape", "internal/bytealg.MakeNoZero"], unfollowed := true, recurses := true, named := ["math/bits.overflowError", "internal/strconv.uint64pow10", "math/bits.deBruijn32tab", "math/bits.deBruijn64tab"], apart := false, laid := [("math/bits.deBruijn32tab", laid_math_bits_deBruijn32tab), ("math/bits.deBruijn64tab", laid_math_bits_deBruijn64tab), ("internal/strconv.uint64pow10", laid_internal_strconv_uint64pow10)], narrowed := true }
def IndexSaysUptoSaid : Prop := indexSaysUptoRow.holds Tryz.pinned (OpenSpec.upto indexSaysSpec)

/-- 'basiskeeptop.TopSecond', WHERE WHAT IT READS IS OF BULK AT MOST 1048576: true; the input reads as it did. -/
def topSecondUptoRow : OpenClaim := { program := "ytdedolkgcdlmeaagreatdoor", sum := "329838ed5cfc243c55176aa9fda886bbffda04c4a8c0ac3d9c92c8ea8ffe6c3e", func := "basiskeep/basiskeeptop.TopSecond", spec := "topSecond", inPlace := ["internal/abi.NoEscape", "internal/bytealg.MakeNoZero"], unfollowed := true, recurses := true, named := ["math/bits.overflowError", "internal/strconv.uint64pow10", "math/bits.deBruijn32tab", "math/bits.deBruijn64tab"], apart := false, laid := [("math/bits.deBruijn32tab", laid_math_bits_deBruijn32tab), ("math/bits.deBruijn64tab", laid_math_bits_deBruijn64tab), ("internal/strconv.uint64pow10", laid_internal_strconv_uint64pow10)], narrowed := true }
def TopSecondUptoSaid : Prop := topSecondUptoRow.holds Tryz.pinned (OpenSpec.upto topSecondSpec)

end Rows
end Go.Proofs.YtdedolkgcdlmeaaGreatDoor
