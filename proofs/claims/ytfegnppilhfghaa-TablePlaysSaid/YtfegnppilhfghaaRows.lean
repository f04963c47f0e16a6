/-
  No cell of these rows narrows 'for every input' (looked for: loops, veiled, ifaces, maps, wideKeys, modest, calm, conditions, laid).
  DERIVED. THE GIVEN ROWS OF THIS SEAT. 5 by the template 'for every input the law returns true; each argument reads behind the call as it read before'; 0 by the template 'total and deterministic' (their statements: YtfegnppilhfghaaTotals.lean).
  GIVEN WITH THE SEED: the statements are not yours to turn. If you find one false, say at which input.
  Laid BY PROGRAM, IN A SANDBOX (cutbox-rows.mjs): the forced cells as the released guide's own fill.sh prints them over the translation 973588fa5edbcb3e… (all of the seat's roots in one cut). By AI agents, Wed Nov 11 2026. No macro, syntax, notation, axiom, sorry.
-/
import Derived.Test.YtfegnppilhfghaaChecked
import GoSem.Claim
import GoSem.ClaimJoined
import GoSem.ClaimMapViews
import Derived.JoinedTies
import Derived.KernelRfl
namespace Go.Proofs.Ytfegnppilhfghaa
/- THE CELL 'sum', in the pinned program and in every row, IS THE sha256 OF THE DUMP (.gsa) THAT YtfegnppilhfghaaProg.lean LOADS. Nothing in Lean hashes anything: it is a label: what it is worth is what the hold of that sum in a sandbox is worth. -/
noncomputable def Try.pinned : Pinned := { name := "ytfegnppilhfghaa", sum := "973588fa5edbcb3eac2912313a879c1625b0b352a496a50645506b68977f4d9a", checked := Try.checked }
namespace Rows
def none {H : Type} : Left H := { results := [], args := [] }

/-- 'binnaclelaw14.TablePlays': WHATEVER THE INPUT: true; the input reads as it did. -/
def tablePlaysSpec : ChangeSpec := { name := "tablePlays", fn := fun _ => fun
  | [d] => { results := [.lit (.bool true)], args := [d] }
  | _ => none }
def tablePlaysRow : OpenClaim := { program := "ytfegnppilhfghaa", sum := "973588fa5edbcb3eac2912313a879c1625b0b352a496a50645506b68977f4d9a", func := "binnacle/binnaclelaw14.TablePlays", spec := "tablePlays", apart := false }
def TablePlaysSaid : Prop := tablePlaysRow.holds Try.pinned (OpenSpec.ofChange tablePlaysSpec)

/-- ITS FALSE NEIGHBOUR: 'it returns false'. Refute it at one input. -/
def tablePlaysWrong : ChangeSpec := { name := "tablePlays", fn := fun _ => fun
  | [d] => { results := [.lit (.bool false)], args := [d] }
  | _ => none }
def TablePlaysWrongFalsely : Prop := tablePlaysRow.holds Try.pinned (OpenSpec.ofChange tablePlaysWrong)

/-- 'binnaclelaw14.TableOnce': WHATEVER THE INPUT: true; the input reads as it did. -/
def tableOnceSpec : ChangeSpec := { name := "tableOnce", fn := fun _ => fun
  | [d] => { results := [.lit (.bool true)], args := [d] }
  | _ => none }
def tableOnceRow : OpenClaim := { program := "ytfegnppilhfghaa", sum := "973588fa5edbcb3eac2912313a879c1625b0b352a496a50645506b68977f4d9a", func := "binnacle/binnaclelaw14.TableOnce", spec := "tableOnce", apart := false }
def TableOnceSaid : Prop := tableOnceRow.holds Try.pinned (OpenSpec.ofChange tableOnceSpec)

/-- ITS FALSE NEIGHBOUR: 'it returns false'. Refute it at one input. -/
def tableOnceWrong : ChangeSpec := { name := "tableOnce", fn := fun _ => fun
  | [d] => { results := [.lit (.bool false)], args := [d] }
  | _ => none }
def TableOnceWrongFalsely : Prop := tableOnceRow.holds Try.pinned (OpenSpec.ofChange tableOnceWrong)

/-- 'binnaclelaw14.TableFair': WHATEVER THE INPUT: true; the input reads as it did. -/
def tableFairSpec : ChangeSpec := { name := "tableFair", fn := fun _ => fun
  | [d] => { results := [.lit (.bool true)], args := [d] }
  | _ => none }
def tableFairRow : OpenClaim := { program := "ytfegnppilhfghaa", sum := "973588fa5edbcb3eac2912313a879c1625b0b352a496a50645506b68977f4d9a", func := "binnacle/binnaclelaw14.TableFair", spec := "tableFair", apart := false }
def TableFairSaid : Prop := tableFairRow.holds Try.pinned (OpenSpec.ofChange tableFairSpec)

/-- ITS FALSE NEIGHBOUR: 'it returns false'. Refute it at one input. -/
def tableFairWrong : ChangeSpec := { name := "tableFair", fn := fun _ => fun
  | [d] => { results := [.lit (.bool false)], args := [d] }
  | _ => none }
def TableFairWrongFalsely : Prop := tableFairRow.holds Try.pinned (OpenSpec.ofChange tableFairWrong)

/-- 'binnaclelaw14.TableForks': WHATEVER THE INPUT: true; the input reads as it did. -/
def tableForksSpec : ChangeSpec := { name := "tableForks", fn := fun _ => fun
  | [d1, d2] => { results := [.lit (.bool true)], args := [d1, d2] }
  | _ => none }
def tableForksRow : OpenClaim := { program := "ytfegnppilhfghaa", sum := "973588fa5edbcb3eac2912313a879c1625b0b352a496a50645506b68977f4d9a", func := "binnacle/binnaclelaw14.TableForks", spec := "tableForks", apart := false }
def TableForksSaid : Prop := tableForksRow.holds Try.pinned (OpenSpec.ofChange tableForksSpec)

/-- ITS FALSE NEIGHBOUR: 'it returns false'. Refute it at one input. -/
def tableForksWrong : ChangeSpec := { name := "tableForks", fn := fun _ => fun
  | [d1, d2] => { results := [.lit (.bool false)], args := [d1, d2] }
  | _ => none }
def TableForksWrongFalsely : Prop := tableForksRow.holds Try.pinned (OpenSpec.ofChange tableForksWrong)

/-- 'binnaclelaw14.TableWaits': WHATEVER THE INPUT: true; the input reads as it did. -/
def tableWaitsSpec : ChangeSpec := { name := "tableWaits", fn := fun _ => fun
  | [d1, d2, d3] => { results := [.lit (.bool true)], args := [d1, d2, d3] }
  | _ => none }
def tableWaitsRow : OpenClaim := { program := "ytfegnppilhfghaa", sum := "973588fa5edbcb3eac2912313a879c1625b0b352a496a50645506b68977f4d9a", func := "binnacle/binnaclelaw14.TableWaits", spec := "tableWaits", apart := false }
def TableWaitsSaid : Prop := tableWaitsRow.holds Try.pinned (OpenSpec.ofChange tableWaitsSpec)

/-- ITS FALSE NEIGHBOUR: 'it returns false'. Refute it at one input. -/
def tableWaitsWrong : ChangeSpec := { name := "tableWaits", fn := fun _ => fun
  | [d1, d2, d3] => { results := [.lit (.bool false)], args := [d1, d2, d3] }
  | _ => none }
def TableWaitsWrongFalsely : Prop := tableWaitsRow.holds Try.pinned (OpenSpec.ofChange tableWaitsWrong)

/- THE SECOND FORM. 'bulk': how many values and letters a reading holds, each counted each time it is reached (what is shared counts as often as it is met; a slice's spare places count too). A statement '..UptoSaid' is the law's where the arguments, and the package variables that the reading takes, are together of bulk at most 1048576: NARROWER than '..Said'. Prove '..Said' where nothing that the law and all that it calls make is longer than what came in: it says more and counts as full. Else prove '..UptoSaid'. A law counts once. -/
mutual
def uptoBulk {H : Type} : DataW H → Nat
  | .lit (.string bytes) => bytes.length + 1
  | .lit _ => 1
  | .nil => 1
  | .ptr d => uptoBulk d + 1
  | .slice elems spare => uptoBulkAll elems + uptoBulkAll spare + 1
  | .agg parts => uptoBulkAll parts + 1
  | .iface _ d => uptoBulk d + 1
  | .map entries => uptoBulkEntries entries + 1
  | .held _ => 1
def uptoBulkAll {H : Type} : List (DataW H) → Nat
  | [] => 0
  | d :: r => uptoBulk d + uptoBulkAll r
def uptoBulkEntries {H : Type} : List (Lit × DataW H) → Nat
  | [] => 0
  | x :: r => uptoBulkEntry x + uptoBulkEntries r
def uptoBulkEntry {H : Type} : Lit × DataW H → Nat
  | (.string bytes, d) => bytes.length + uptoBulk d + 1
  | (_, d) => uptoBulk d + 1
 end
def uptoSmall : (H : Type) → List (DataW H) → Bool := fun _ ds => decide (uptoBulkAll ds ≤ 1048576)
def OpenSpec.upto (s : _root_.Go.ChangeSpec) : _root_.Go.OpenSpec := { _root_.Go.OpenSpec.ofChange s with cond := some uptoSmall }

/-- 'binnaclelaw14.TablePlays', WHERE WHAT IT READS IS OF BULK AT MOST 1048576: true; the input reads as it did. -/
def tablePlaysUptoRow : OpenClaim := { program := "ytfegnppilhfghaa", sum := "973588fa5edbcb3eac2912313a879c1625b0b352a496a50645506b68977f4d9a", func := "binnacle/binnaclelaw14.TablePlays", spec := "tablePlays", apart := false, narrowed := true }
def TablePlaysUptoSaid : Prop := tablePlaysUptoRow.holds Try.pinned (OpenSpec.upto tablePlaysSpec)

/-- 'binnaclelaw14.TableOnce', WHERE WHAT IT READS IS OF BULK AT MOST 1048576: true; the input reads as it did. -/
def tableOnceUptoRow : OpenClaim := { program := "ytfegnppilhfghaa", sum := "973588fa5edbcb3eac2912313a879c1625b0b352a496a50645506b68977f4d9a", func := "binnacle/binnaclelaw14.TableOnce", spec := "tableOnce", apart := false, narrowed := true }
def TableOnceUptoSaid : Prop := tableOnceUptoRow.holds Try.pinned (OpenSpec.upto tableOnceSpec)

/-- 'binnaclelaw14.TableFair', WHERE WHAT IT READS IS OF BULK AT MOST 1048576: true; the input reads as it did. -/
def tableFairUptoRow : OpenClaim := { program := "ytfegnppilhfghaa", sum := "973588fa5edbcb3eac2912313a879c1625b0b352a496a50645506b68977f4d9a", func := "binnacle/binnaclelaw14.TableFair", spec := "tableFair", apart := false, narrowed := true }
def TableFairUptoSaid : Prop := tableFairUptoRow.holds Try.pinned (OpenSpec.upto tableFairSpec)

/-- 'binnaclelaw14.TableForks', WHERE WHAT IT READS IS OF BULK AT MOST 1048576: true; the input reads as it did. -/
def tableForksUptoRow : OpenClaim := { program := "ytfegnppilhfghaa", sum := "973588fa5edbcb3eac2912313a879c1625b0b352a496a50645506b68977f4d9a", func := "binnacle/binnaclelaw14.TableForks", spec := "tableForks", apart := false, narrowed := true }
def TableForksUptoSaid : Prop := tableForksUptoRow.holds Try.pinned (OpenSpec.upto tableForksSpec)

/-- 'binnaclelaw14.TableWaits', WHERE WHAT IT READS IS OF BULK AT MOST 1048576: true; the input reads as it did. -/
def tableWaitsUptoRow : OpenClaim := { program := "ytfegnppilhfghaa", sum := "973588fa5edbcb3eac2912313a879c1625b0b352a496a50645506b68977f4d9a", func := "binnacle/binnaclelaw14.TableWaits", spec := "tableWaits", apart := false, narrowed := true }
def TableWaitsUptoSaid : Prop := tableWaitsUptoRow.holds Try.pinned (OpenSpec.upto tableWaitsSpec)

end Rows
end Go.Proofs.Ytfegnppilhfghaa
