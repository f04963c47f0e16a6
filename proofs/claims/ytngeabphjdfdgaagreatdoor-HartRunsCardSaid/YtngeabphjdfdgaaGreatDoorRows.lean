/-
  NARROWER THAN 'FOR EVERY INPUT', by the rows' own cells (each row's printed sentence says how): HartSteps: laid · HartRuns: laid.
  DERIVED. THE GIVEN ROWS OF THIS SEAT. 2 by the template 'for every input the law returns true; each argument reads behind the call as it read before'; 0 by the template 'total and deterministic' (their statements: YtngeabphjdfdgaaGreatDoorTotals.lean).
  GIVEN WITH THE SEED: the statements are not yours to turn. If you find one false, say at which input.
  Laid BY PROGRAM, IN A SANDBOX (cutbox-rows.mjs): the forced cells as the released guide's own fill.sh prints them over the translation 1decc3b0e2c62b17… (all of the seat's roots in one cut). By AI agents, Wed Nov 11 2026. No macro, syntax, notation, axiom, sorry.
-/
import Derived.Test.YtngeabphjdfdgaaGreatDoorChecked
import GoSem.Claim
import GoSem.ClaimJoined
import GoSem.ClaimMapViews
import Derived.JoinedTies
import Derived.KernelRfl
namespace Go.Proofs.YtngeabphjdfdgaaGreatDoor
/- THE CELL 'sum', in the pinned program and in every row, IS THE sha256 OF THE DUMP (.gsa) THAT YtngeabphjdfdgaaGreatDoorProg.lean LOADS. Nothing in Lean hashes anything: it is a label: what it is worth is what the hold of that sum in a sandbox is worth. -/
noncomputable def Tryz.pinned : Pinned := { name := "ytngeabphjdfdgaagreatdoor", sum := "1decc3b0e2c62b1798a4599a7734315936de199313931c641d8b2b5c235fd2ae", checked := Tryz.checked }
namespace Rows
def none {H : Type} : Left H := { results := [], args := [] }

/- WHAT THE LISTED PACKAGE-LEVEL VARIABLES READ AS WHEN THE CALL BEGINS. Each datum BY PROGRAM (the guide's laid-datum.mjs) off the statement by which the dump's own 'gosem.cut.vars' lays the variable. In a bare row this is a premise. The card (YtngeabphjdfdgaaGreatDoorCards.lean) ties it to the program's text. -/
def laid_binnacle_inst_forms {H : Type} : DataW H := .agg [.lit (.int .u8 45), .lit (.int .u8 85), .lit (.int .u8 85), .lit (.int .u8 74), .lit (.int .u8 73), .lit (.int .u8 66), .lit (.int .u8 66), .lit (.int .u8 66), .lit (.int .u8 66), .lit (.int .u8 66), .lit (.int .u8 66), .lit (.int .u8 73), .lit (.int .u8 73), .lit (.int .u8 73), .lit (.int .u8 73), .lit (.int .u8 73), .lit (.int .u8 73), .lit (.int .u8 73), .lit (.int .u8 83), .lit (.int .u8 83), .lit (.int .u8 83), .lit (.int .u8 83), .lit (.int .u8 73), .lit (.int .u8 73), .lit (.int .u8 73), .lit (.int .u8 73), .lit (.int .u8 73), .lit (.int .u8 73), .lit (.int .u8 72), .lit (.int .u8 72), .lit (.int .u8 72), .lit (.int .u8 73), .lit (.int .u8 86), .lit (.int .u8 86), .lit (.int .u8 86), .lit (.int .u8 82), .lit (.int .u8 82), .lit (.int .u8 82), .lit (.int .u8 82), .lit (.int .u8 82), .lit (.int .u8 82), .lit (.int .u8 82), .lit (.int .u8 82), .lit (.int .u8 82), .lit (.int .u8 82), .lit (.int .u8 82), .lit (.int .u8 82), .lit (.int .u8 82), .lit (.int .u8 82), .lit (.int .u8 82), .lit (.int .u8 82), .lit (.int .u8 82), .lit (.int .u8 82), .lit (.int .u8 82), .lit (.int .u8 82), .lit (.int .u8 82), .lit (.int .u8 82), .lit (.int .u8 82), .lit (.int .u8 82), .lit (.int .u8 82), .lit (.int .u8 82), .lit (.int .u8 82), .lit (.int .u8 82), .lit (.int .u8 78), .lit (.int .u8 78), .lit (.int .u8 78), .lit (.int .u8 65), .lit (.int .u8 65), .lit (.int .u8 65), .lit (.int .u8 65), .lit (.int .u8 65), .lit (.int .u8 65), .lit (.int .u8 65), .lit (.int .u8 65), .lit (.int .u8 65), .lit (.int .u8 65), .lit (.int .u8 65), .lit (.int .u8 65), .lit (.int .u8 65), .lit (.int .u8 65), .lit (.int .u8 65), .lit (.int .u8 65), .lit (.int .u8 65), .lit (.int .u8 65), .lit (.int .u8 65), .lit (.int .u8 65), .lit (.int .u8 65), .lit (.int .u8 65)]
def laid_binnacle_hart_plain {H : Type} : DataW H := .agg [.lit (.int .i64 35), .lit (.int .i64 38), .lit (.int .i64 39), .lit (.int .i64 40), .lit (.int .i64 43), .lit (.int .i64 44), .lit (.int .i64 37), .lit (.int .i64 41), .lit (.int .i64 42), .lit (.int .i64 45), .lit (.int .i64 47), .lit (.int .i64 48), .lit (.int .i64 49)]

/-- 'binnaclelaw05.HartSteps': WHATEVER THE INPUT: true; the input reads as it did. -/
def hartStepsSpec : ChangeSpec := { name := "hartSteps", fn := fun _ => fun
  | [d1, d2] => { results := [.lit (.bool true)], args := [d1, d2] }
  | _ => none }
def hartStepsRow : OpenClaim := { program := "ytngeabphjdfdgaagreatdoor", sum := "1decc3b0e2c62b1798a4599a7734315936de199313931c641d8b2b5c235fd2ae", func := "binnacle/binnaclelaw05.HartSteps", spec := "hartSteps", inPlace := ["sync/atomic.LoadUint32", "(*internal/sync.Mutex).Lock", "internal/race.Disable", "sync/atomic.CompareAndSwapInt32", "internal/race.Enable", "internal/race.Acquire", "(*internal/sync.Mutex).lockSlow", "internal/sync.runtime_canSpin", "internal/sync.runtime_doSpin", "internal/sync.throw", "internal/sync.runtime_nanotime", "internal/sync.runtime_SemacquireMutex", "sync/atomic.AddInt32", "(*internal/sync.Mutex).Unlock", "internal/race.ReleaseMerge", "(*internal/sync.Mutex).unlockSlow", "internal/sync.fatal", "internal/sync.runtime_Semrelease", "sync/atomic.StoreUint32", "sync/atomic.AddUint64"], unfollowed := true, recurses := true, named := ["binnacle/inst.forms", "binnacle/hart.plain"], apart := false, laid := [("binnacle/inst.forms", laid_binnacle_inst_forms), ("binnacle/hart.plain", laid_binnacle_hart_plain)] }
def HartStepsSaid : Prop := hartStepsRow.holds Tryz.pinned (OpenSpec.ofChange hartStepsSpec)

/-- ITS FALSE NEIGHBOUR: 'it returns false'. Refute it at one input. -/
def hartStepsWrong : ChangeSpec := { name := "hartSteps", fn := fun _ => fun
  | [d1, d2] => { results := [.lit (.bool false)], args := [d1, d2] }
  | _ => none }
def HartStepsWrongFalsely : Prop := hartStepsRow.holds Tryz.pinned (OpenSpec.ofChange hartStepsWrong)

/-- 'binnaclelaw05.HartRuns': WHATEVER THE INPUT: true; the input reads as it did. -/
def hartRunsSpec : ChangeSpec := { name := "hartRuns", fn := fun _ => fun
  | [d1, d2] => { results := [.lit (.bool true)], args := [d1, d2] }
  | _ => none }
def hartRunsRow : OpenClaim := { program := "ytngeabphjdfdgaagreatdoor", sum := "1decc3b0e2c62b1798a4599a7734315936de199313931c641d8b2b5c235fd2ae", func := "binnacle/binnaclelaw05.HartRuns", spec := "hartRuns", inPlace := ["sync/atomic.LoadUint32", "(*internal/sync.Mutex).Lock", "internal/race.Disable", "sync/atomic.CompareAndSwapInt32", "internal/race.Enable", "internal/race.Acquire", "(*internal/sync.Mutex).lockSlow", "internal/sync.runtime_canSpin", "internal/sync.runtime_doSpin", "internal/sync.throw", "internal/sync.runtime_nanotime", "internal/sync.runtime_SemacquireMutex", "sync/atomic.AddInt32", "(*internal/sync.Mutex).Unlock", "internal/race.ReleaseMerge", "(*internal/sync.Mutex).unlockSlow", "internal/sync.fatal", "internal/sync.runtime_Semrelease", "sync/atomic.StoreUint32", "sync/atomic.AddUint64"], unfollowed := true, recurses := true, named := ["binnacle/inst.forms", "binnacle/hart.plain"], apart := false, laid := [("binnacle/inst.forms", laid_binnacle_inst_forms), ("binnacle/hart.plain", laid_binnacle_hart_plain)] }
def HartRunsSaid : Prop := hartRunsRow.holds Tryz.pinned (OpenSpec.ofChange hartRunsSpec)

/-- ITS FALSE NEIGHBOUR: 'it returns false'. Refute it at one input. -/
def hartRunsWrong : ChangeSpec := { name := "hartRuns", fn := fun _ => fun
  | [d1, d2] => { results := [.lit (.bool false)], args := [d1, d2] }
  | _ => none }
def HartRunsWrongFalsely : Prop := hartRunsRow.holds Tryz.pinned (OpenSpec.ofChange hartRunsWrong)

/- THE SECOND FORM. 'bulk': how many values and letters a reading holds, each counted each time it is reached (what is shared counts as often as it is met; a slice's spare places count too). A statement '..UptoSaid' is the law's where the arguments, and the package variables that the reading takes, are together of bulk at most 1048576: NARROWER than '..Said'. Prove '..Said' where nothing that the law and all that it calls make is longer than what came in: it says more and counts as full. Else prove '..UptoSaid'. A law counts once. -/
mutual
def uptoBulk {H : Type} : DataW H → Nat
  | .lit (.string bytes) => bytes.length + 1
  | .lit _ => 1
  | .nil => 1
  | .ptr d => uptoBulk d + 1
  | .slice elems spare => uptoBulkAll elems + uptoBulkAll spare + 1
  | .agg parts => uptoBulkAll parts + 1
  | .iface _ d => uptoBulk d + 1
  | .map entries => uptoBulkEntries entries + 1
  | .held _ => 1
def uptoBulkAll {H : Type} : List (DataW H) → Nat
  | [] => 0
  | d :: r => uptoBulk d + uptoBulkAll r
def uptoBulkEntries {H : Type} : List (Lit × DataW H) → Nat
  | [] => 0
  | x :: r => uptoBulkEntry x + uptoBulkEntries r
def uptoBulkEntry {H : Type} : Lit × DataW H → Nat
  | (.string bytes, d) => bytes.length + uptoBulk d + 1
  | (_, d) => uptoBulk d + 1
 end
def uptoSmall : (H : Type) → List (DataW H) → Bool := fun _ ds => decide (uptoBulkAll ds ≤ 1048576)
def OpenSpec.upto (s : _root_.Go.ChangeSpec) : _root_.Go.OpenSpec := { _root_.Go.OpenSpec.ofChange s with cond := some uptoSmall }

/-- 'binnaclelaw05.HartSteps', WHERE WHAT IT READS IS OF BULK AT MOST 1048576: true; the input reads as it did. -/
def hartStepsUptoRow : OpenClaim := { program := "ytngeabphjdfdgaagreatdoor", sum := "1decc3b0e2c62b1798a4599a7734315936de199313931c641d8b2b5c235fd2ae", func := "binnacle/binnaclelaw05.HartSteps", spec := "hartSteps", inPlace := ["sync/atomic.LoadUint32", "(*internal/sync.Mutex).Lock", "internal/race.Disable", "sync/atomic.CompareAndSwapInt32", "internal/race.Enable", "internal/race.Acquire", "(*internal/sync.Mutex).lockSlow", "internal/sync.runtime_canSpin", "internal/sync.runtime_doSpin", "internal/sync.throw", "internal/sync.runtime_nanotime", "internal/sync.runtime_SemacquireMutex", "sync/atomic.AddInt32", "(*internal/sync.Mutex).Unlock", "internal/race.ReleaseMerge", "(*internal/sync.Mutex).unlockSlow", "internal/sync.fatal", "internal/sync.runtime_Semrelease", "sync/atomic.StoreUint32", "sync/atomic.AddUint64"], unfollowed := true, recurses := true, named := ["binnacle/inst.forms", "binnacle/hart.plain"], apart := false, laid := [("binnacle/inst.forms", laid_binnacle_inst_forms), ("binnacle/hart.plain", laid_binnacle_hart_plain)], narrowed := true }
def HartStepsUptoSaid : Prop := hartStepsUptoRow.holds Tryz.pinned (OpenSpec.upto hartStepsSpec)

/-- 'binnaclelaw05.HartRuns', WHERE WHAT IT READS IS OF BULK AT MOST 1048576: true; the input reads as it did. -/
def hartRunsUptoRow : OpenClaim := { program := "ytngeabphjdfdgaagreatdoor", sum := "1decc3b0e2c62b1798a4599a7734315936de199313931c641d8b2b5c235fd2ae", func := "binnacle/binnaclelaw05.HartRuns", spec := "hartRuns", inPlace := ["sync/atomic.LoadUint32", "(*internal/sync.Mutex).Lock", "internal/race.Disable", "sync/atomic.CompareAndSwapInt32", "internal/race.Enable", "internal/race.Acquire", "(*internal/sync.Mutex).lockSlow", "internal/sync.runtime_canSpin", "internal/sync.runtime_doSpin", "internal/sync.throw", "internal/sync.runtime_nanotime", "internal/sync.runtime_SemacquireMutex", "sync/atomic.AddInt32", "(*internal/sync.Mutex).Unlock", "internal/race.ReleaseMerge", "(*internal/sync.Mutex).unlockSlow", "internal/sync.fatal", "internal/sync.runtime_Semrelease", "sync/atomic.StoreUint32", "sync/atomic.AddUint64"], unfollowed := true, recurses := true, named := ["binnacle/inst.forms", "binnacle/hart.plain"], apart := false, laid := [("binnacle/inst.forms", laid_binnacle_inst_forms), ("binnacle/hart.plain", laid_binnacle_hart_plain)], narrowed := true }
def HartRunsUptoSaid : Prop := hartRunsUptoRow.holds Tryz.pinned (OpenSpec.upto hartRunsSpec)

end Rows
end Go.Proofs.YtngeabphjdfdgaaGreatDoor
