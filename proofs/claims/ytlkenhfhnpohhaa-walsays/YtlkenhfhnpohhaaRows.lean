/-
  No cell of these rows narrows 'for every input' (looked for: loops, veiled, ifaces, maps, wideKeys, modest, calm, conditions, laid).
  DERIVED. THE GIVEN ROWS OF THIS SEAT. 2 by the template 'for every input the law returns true; each argument reads behind the call as it read before'; 0 by the template 'total and deterministic' (their statements: YtlkenhfhnpohhaaTotals.lean).
  GIVEN WITH THE SEED: the statements are not yours to turn. If you find one false, say at which input.
  Laid BY PROGRAM, IN A SANDBOX (cutbox-rows.mjs): the forced cells as the released guide's own fill.sh prints them over the translation 9f5ad9ad0080900e… (all of the seat's roots in one cut). By AI agents, Wed Nov 11 2026. No macro, syntax, notation, axiom, sorry.
-/
import Derived.Test.YtlkenhfhnpohhaaChecked
import GoSem.Claim
import GoSem.ClaimJoined
import GoSem.ClaimMapViews
import Derived.JoinedTies
import Derived.KernelRfl
namespace Go.Proofs.Ytlkenhfhnpohhaa
/- THE CELL 'sum', in the pinned program and in every row, IS THE sha256 OF THE DUMP (.gsa) THAT YtlkenhfhnpohhaaProg.lean LOADS. Nothing in Lean hashes anything: it is a label: what it is worth is what the hold of that sum in a sandbox is worth. -/
noncomputable def Try.pinned : Pinned := { name := "ytlkenhfhnpohhaa", sum := "9f5ad9ad0080900e27e5ea94ae4317497a4826a4215426dceedb968225bf91a6", checked := Try.checked }
namespace Rows
def none {H : Type} : Left H := { results := [], args := [] }

/-- 'basiskeeplaw.WalSays': WHATEVER THE INPUT: true; the input reads as it did. -/
def walSaysSpec : ChangeSpec := { name := "walSays", fn := fun _ => fun
  | [d1, d2, d3, d4, d5] => { results := [.lit (.bool true)], args := [d1, d2, d3, d4, d5] }
  | _ => none }
def walSaysRow : OpenClaim := { program := "ytlkenhfhnpohhaa", sum := "9f5ad9ad0080900e27e5ea94ae4317497a4826a4215426dceedb968225bf91a6", func := "basiskeep/basiskeeplaw.WalSays", spec := "walSays", unfollowed := true, recurses := true, apart := false }
def WalSaysSaid : Prop := walSaysRow.holds Try.pinned (OpenSpec.ofChange walSaysSpec)

/-- ITS FALSE NEIGHBOUR: 'it returns false'. Refute it at one input. -/
def walSaysWrong : ChangeSpec := { name := "walSays", fn := fun _ => fun
  | [d1, d2, d3, d4, d5] => { results := [.lit (.bool false)], args := [d1, d2, d3, d4, d5] }
  | _ => none }
def WalSaysWrongFalsely : Prop := walSaysRow.holds Try.pinned (OpenSpec.ofChange walSaysWrong)

/-- 'basiskeeptop.TopWal': WHATEVER THE INPUT: true; the input reads as it did. -/
def topWalSpec : ChangeSpec := { name := "topWal", fn := fun _ => fun
  | [d1, d2, d3] => { results := [.lit (.bool true)], args := [d1, d2, d3] }
  | _ => none }
def topWalRow : OpenClaim := { program := "ytlkenhfhnpohhaa", sum := "9f5ad9ad0080900e27e5ea94ae4317497a4826a4215426dceedb968225bf91a6", func := "basiskeep/basiskeeptop.TopWal", spec := "topWal", unfollowed := true, recurses := true, apart := false }
def TopWalSaid : Prop := topWalRow.holds Try.pinned (OpenSpec.ofChange topWalSpec)

/-- ITS FALSE NEIGHBOUR: 'it returns false'. Refute it at one input. -/
def topWalWrong : ChangeSpec := { name := "topWal", fn := fun _ => fun
  | [d1, d2, d3] => { results := [.lit (.bool false)], args := [d1, d2, d3] }
  | _ => none }
def TopWalWrongFalsely : Prop := topWalRow.holds Try.pinned (OpenSpec.ofChange topWalWrong)

/- THE SECOND FORM. 'bulk': how many values and letters a reading holds, each counted each time it is reached (what is shared counts as often as it is met; a slice's spare places count too). A statement '..UptoSaid' is the law's where the arguments, and the package variables that the reading takes, are together of bulk at most 1048576: NARROWER than '..Said'. Prove '..Said' where nothing that the law and all that it calls make is longer than what came in: it says more and counts as full. Else prove '..UptoSaid'. A law counts once. -/
mutual
def uptoBulk {H : Type} : DataW H → Nat
  | .lit (.string bytes) => bytes.length + 1
  | .lit _ => 1
  | .nil => 1
  | .ptr d => uptoBulk d + 1
  | .slice elems spare => uptoBulkAll elems + uptoBulkAll spare + 1
  | .agg parts => uptoBulkAll parts + 1
  | .iface _ d => uptoBulk d + 1
  | .map entries => uptoBulkEntries entries + 1
  | .held _ => 1
def uptoBulkAll {H : Type} : List (DataW H) → Nat
  | [] => 0
  | d :: r => uptoBulk d + uptoBulkAll r
def uptoBulkEntries {H : Type} : List (Lit × DataW H) → Nat
  | [] => 0
  | x :: r => uptoBulkEntry x + uptoBulkEntries r
def uptoBulkEntry {H : Type} : Lit × DataW H → Nat
  | (.string bytes, d) => bytes.length + uptoBulk d + 1
  | (_, d) => uptoBulk d + 1
 end
def uptoSmall : (H : Type) → List (DataW H) → Bool := fun _ ds => decide (uptoBulkAll ds ≤ 1048576)
def OpenSpec.upto (s : _root_.Go.ChangeSpec) : _root_.Go.OpenSpec := { _root_.Go.OpenSpec.ofChange s with cond := some uptoSmall }

/-- 'basiskeeplaw.WalSays', WHERE WHAT IT READS IS OF BULK AT MOST 1048576: true; the input reads as it did. -/
def walSaysUptoRow : OpenClaim := { program := "ytlkenhfhnpohhaa", sum := "9f5ad9ad0080900e27e5ea94ae4317497a4826a4215426dceedb968225bf91a6", func := "basiskeep/basiskeeplaw.WalSays", spec := "walSays", unfollowed := true, recurses := true, apart := false, narrowed := true }
def WalSaysUptoSaid : Prop := walSaysUptoRow.holds Try.pinned (OpenSpec.upto walSaysSpec)

/-- 'basiskeeptop.TopWal', WHERE WHAT IT READS IS OF BULK AT MOST 1048576: true; the input reads as it did. -/
def topWalUptoRow : OpenClaim := { program := "ytlkenhfhnpohhaa", sum := "9f5ad9ad0080900e27e5ea94ae4317497a4826a4215426dceedb968225bf91a6", func := "basiskeep/basiskeeptop.TopWal", spec := "topWal", unfollowed := true, recurses := true, apart := false, narrowed := true }
def TopWalUptoSaid : Prop := topWalUptoRow.holds Try.pinned (OpenSpec.upto topWalSpec)

end Rows
end Go.Proofs.Ytlkenhfhnpohhaa
