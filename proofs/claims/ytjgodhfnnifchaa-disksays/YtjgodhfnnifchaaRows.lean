/-
  No cell of these rows narrows 'for every input' (looked for: loops, veiled, ifaces, maps, wideKeys, modest, calm, conditions, laid).
  DERIVED. THE GIVEN ROWS OF THIS SEAT. 4 by the template 'for every input the law returns true; each argument reads behind the call as it read before'; 0 by the template 'total and deterministic' (their statements: YtjgodhfnnifchaaTotals.lean).
  GIVEN WITH THE SEED: the statements are not yours to turn. If you find one false, say at which input.
  Laid BY PROGRAM, IN A SANDBOX (cutbox-rows.mjs): the forced cells as the released guide's own fill.sh prints them over the translation d50e83b9d9007d6d… (all of the seat's roots in one cut). By AI agents, Wed Nov 11 2026. No macro, syntax, notation, axiom, sorry.
-/
import Derived.Test.YtjgodhfnnifchaaChecked
import GoSem.Claim
import GoSem.ClaimJoined
import GoSem.ClaimMapViews
import Derived.JoinedTies
import Derived.KernelRfl
namespace Go.Proofs.Ytjgodhfnnifchaa
/- THE CELL 'sum', in the pinned program and in every row, IS THE sha256 OF THE DUMP (.gsa) THAT YtjgodhfnnifchaaProg.lean LOADS. Nothing in Lean hashes anything: it is a label: what it is worth is what the hold of that sum in a sandbox is worth. -/
noncomputable def Try.pinned : Pinned := { name := "ytjgodhfnnifchaa", sum := "d50e83b9d9007d6df1b95d418aedc375e3fd222284c5b28874d9cb6d73212f88", checked := Try.checked }
namespace Rows
def none {H : Type} : Left H := { results := [], args := [] }

/-- 'basiskeeplaw.DiskSays': WHATEVER THE INPUT: true; the input reads as it did. -/
def diskSaysSpec : ChangeSpec := { name := "diskSays", fn := fun _ => fun
  | [d1, d2] => { results := [.lit (.bool true)], args := [d1, d2] }
  | _ => none }
def diskSaysRow : OpenClaim := { program := "ytjgodhfnnifchaa", sum := "d50e83b9d9007d6df1b95d418aedc375e3fd222284c5b28874d9cb6d73212f88", func := "basiskeep/basiskeeplaw.DiskSays", spec := "diskSays", unfollowed := true, recurses := true, apart := false }
def DiskSaysSaid : Prop := diskSaysRow.holds Try.pinned (OpenSpec.ofChange diskSaysSpec)

/-- ITS FALSE NEIGHBOUR: 'it returns false'. Refute it at one input. -/
def diskSaysWrong : ChangeSpec := { name := "diskSays", fn := fun _ => fun
  | [d1, d2] => { results := [.lit (.bool false)], args := [d1, d2] }
  | _ => none }
def DiskSaysWrongFalsely : Prop := diskSaysRow.holds Try.pinned (OpenSpec.ofChange diskSaysWrong)

/-- 'basiskeeplaw.WalSays': WHATEVER THE INPUT: true; the input reads as it did. -/
def walSaysSpec : ChangeSpec := { name := "walSays", fn := fun _ => fun
  | [d1, d2, d3, d4, d5] => { results := [.lit (.bool true)], args := [d1, d2, d3, d4, d5] }
  | _ => none }
def walSaysRow : OpenClaim := { program := "ytjgodhfnnifchaa", sum := "d50e83b9d9007d6df1b95d418aedc375e3fd222284c5b28874d9cb6d73212f88", func := "basiskeep/basiskeeplaw.WalSays", spec := "walSays", unfollowed := true, recurses := true, apart := false }
def WalSaysSaid : Prop := walSaysRow.holds Try.pinned (OpenSpec.ofChange walSaysSpec)

/-- ITS FALSE NEIGHBOUR: 'it returns false'. Refute it at one input. -/
def walSaysWrong : ChangeSpec := { name := "walSays", fn := fun _ => fun
  | [d1, d2, d3, d4, d5] => { results := [.lit (.bool false)], args := [d1, d2, d3, d4, d5] }
  | _ => none }
def WalSaysWrongFalsely : Prop := walSaysRow.holds Try.pinned (OpenSpec.ofChange walSaysWrong)

/-- 'basiskeeptop.TopDisk': WHATEVER THE INPUT: true; the input reads as it did. -/
def topDiskSpec : ChangeSpec := { name := "topDisk", fn := fun _ => fun
  | [d1, d2, d3] => { results := [.lit (.bool true)], args := [d1, d2, d3] }
  | _ => none }
def topDiskRow : OpenClaim := { program := "ytjgodhfnnifchaa", sum := "d50e83b9d9007d6df1b95d418aedc375e3fd222284c5b28874d9cb6d73212f88", func := "basiskeep/basiskeeptop.TopDisk", spec := "topDisk", unfollowed := true, recurses := true, apart := false }
def TopDiskSaid : Prop := topDiskRow.holds Try.pinned (OpenSpec.ofChange topDiskSpec)

/-- ITS FALSE NEIGHBOUR: 'it returns false'. Refute it at one input. -/
def topDiskWrong : ChangeSpec := { name := "topDisk", fn := fun _ => fun
  | [d1, d2, d3] => { results := [.lit (.bool false)], args := [d1, d2, d3] }
  | _ => none }
def TopDiskWrongFalsely : Prop := topDiskRow.holds Try.pinned (OpenSpec.ofChange topDiskWrong)

/-- 'basiskeeptop.TopWal': WHATEVER THE INPUT: true; the input reads as it did. -/
def topWalSpec : ChangeSpec := { name := "topWal", fn := fun _ => fun
  | [d1, d2, d3] => { results := [.lit (.bool true)], args := [d1, d2, d3] }
  | _ => none }
def topWalRow : OpenClaim := { program := "ytjgodhfnnifchaa", sum := "d50e83b9d9007d6df1b95d418aedc375e3fd222284c5b28874d9cb6d73212f88", func := "basiskeep/basiskeeptop.TopWal", spec := "topWal", unfollowed := true, recurses := true, apart := false }
def TopWalSaid : Prop := topWalRow.holds Try.pinned (OpenSpec.ofChange topWalSpec)

/-- ITS FALSE NEIGHBOUR: 'it returns false'. Refute it at one input. -/
def topWalWrong : ChangeSpec := { name := "topWal", fn := fun _ => fun
  | [d1, d2, d3] => { results := [.lit (.bool false)], args := [d1, d2, d3] }
  | _ => none }
def TopWalWrongFalsely : Prop := topWalRow.holds Try.pinned (OpenSpec.ofChange topWalWrong)

/- THE SECOND FORM. 'bulk': how many values and letters a reading holds, each counted each time it is reached (what is shared counts as often as it is met; a slice's spare places count too). A statement '..UptoSaid' is the law's where the arguments, and the package variables that the reading takes, are together of bulk at most 1048576: NARROWER than '..Said'. Prove '..Said' where nothing that the law and all that it calls make is longer than what came in: it says more and counts as full. Else prove '..UptoSaid'. A law counts once. -/
mutual
def uptoBulk {H : Type} : DataW H → Nat
  | .lit (.string bytes) => bytes.length + 1
  | .lit _ => 1
  | .nil => 1
  | .ptr d => uptoBulk d + 1
  | .slice elems spare => uptoBulkAll elems + uptoBulkAll spare + 1
  | .agg parts => uptoBulkAll parts + 1
  | .iface _ d => uptoBulk d + 1
  | .map entries => uptoBulkEntries entries + 1
  | .held _ => 1
def uptoBulkAll {H : Type} : List (DataW H) → Nat
  | [] => 0
  | d :: r => uptoBulk d + uptoBulkAll r
def uptoBulkEntries {H : Type} : List (Lit × DataW H) → Nat
  | [] => 0
  | x :: r => uptoBulkEntry x + uptoBulkEntries r
def uptoBulkEntry {H : Type} : Lit × DataW H → Nat
  | (.string bytes, d) => bytes.length + uptoBulk d + 1
  | (_, d) => uptoBulk d + 1
 end
def uptoSmall : (H : Type) → List (DataW H) → Bool := fun _ ds => decide (uptoBulkAll ds ≤ 1048576)
def OpenSpec.upto (s : _root_.Go.ChangeSpec) : _root_.Go.OpenSpec := { _root_.Go.OpenSpec.ofChange s with cond := some uptoSmall }

/-- 'basiskeeplaw.DiskSays', WHERE WHAT IT READS IS OF BULK AT MOST 1048576: true; the input reads as it did. -/
def diskSaysUptoRow : OpenClaim := { program := "ytjgodhfnnifchaa", sum := "d50e83b9d9007d6df1b95d418aedc375e3fd222284c5b28874d9cb6d73212f88", func := "basiskeep/basiskeeplaw.DiskSays", spec := "diskSays", unfollowed := true, recurses := true, apart := false, narrowed := true }
def DiskSaysUptoSaid : Prop := diskSaysUptoRow.holds Try.pinned (OpenSpec.upto diskSaysSpec)

/-- 'basiskeeplaw.WalSays', WHERE WHAT IT READS IS OF BULK AT MOST 1048576: true; the input reads as it did. -/
def walSaysUptoRow : OpenClaim := { program := "ytjgodhfnnifchaa", sum := "d50e83b9d9007d6df1b95d418aedc375e3fd222284c5b28874d9cb6d73212f88", func := "basiskeep/basiskeeplaw.WalSays", spec := "walSays", unfollowed := true, recurses := true, apart := false, narrowed := true }
def WalSaysUptoSaid : Prop := walSaysUptoRow.holds Try.pinned (OpenSpec.upto walSaysSpec)

/-- 'basiskeeptop.TopDisk', WHERE WHAT IT READS IS OF BULK AT MOST 1048576: true; the input reads as it did. -/
def topDiskUptoRow : OpenClaim := { program := "ytjgodhfnnifchaa", sum := "d50e83b9d9007d6df1b95d418aedc375e3fd222284c5b28874d9cb6d73212f88", func := "basiskeep/basiskeeptop.TopDisk", spec := "topDisk", unfollowed := true, recurses := true, apart := false, narrowed := true }
def TopDiskUptoSaid : Prop := topDiskUptoRow.holds Try.pinned (OpenSpec.upto topDiskSpec)

/-- 'basiskeeptop.TopWal', WHERE WHAT IT READS IS OF BULK AT MOST 1048576: true; the input reads as it did. -/
def topWalUptoRow : OpenClaim := { program := "ytjgodhfnnifchaa", sum := "d50e83b9d9007d6df1b95d418aedc375e3fd222284c5b28874d9cb6d73212f88", func := "basiskeep/basiskeeptop.TopWal", spec := "topWal", unfollowed := true, recurses := true, apart := false, narrowed := true }
def TopWalUptoSaid : Prop := topWalUptoRow.holds Try.pinned (OpenSpec.upto topWalSpec)

end Rows
end Go.Proofs.Ytjgodhfnnifchaa
