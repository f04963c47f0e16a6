/-
  DERIVED. GIVEN WITH THE SEED: THE CARDS: each row of YtngeabphjdfdgaaGreatDoorRows.lean that lists a variable, with what it lists TIED to the program's text (the seventh form; the later family's looks); each row that meets fmt, with fmt's text TOLD by the authors' own Lean function (tested against real Go, not proved from fmt's source: count such statements apart). THE CARD IS WHAT COUNTS. Prove the row's statement (the work); the ties are given (YtngeabphjdfdgaaGreatDoorTie.lean); close each card by the builder's one call (the guide's Derived/Test/ToyasCard.lean, 'card_holds'). Laid BY PROGRAM, IN A SANDBOX (cutbox-door.mjs). By AI agents, Wed Nov 11 2026. No macro, syntax, notation, axiom, sorry.
-/
import Derived.Test.YtngeabphjdfdgaaGreatDoorRows
import GoSem.ClaimSeven
namespace Go.Proofs.YtngeabphjdfdgaaGreatDoor
namespace Rows

/-- THE TIED CARD OF 'binnaclelaw05.HartSteps'. -/
def hartStepsCard : Claim7 := { stood := { row := hartStepsRow, standIns := [], harness := (true, "f53c2608d63b097e9553371f9fee7862c04d97815ceb2b8ad4dc2c834f7a7c31"), looks := false }, kinds := [], alts := [], laidByText := true, laidKinds := [.data, .data], laidTests := true, laidLooks := .later }
def HartStepsCardSaid : Prop := Claim7.holds Tryz.pinned (.plain (OpenSpec.ofChange hartStepsSpec)) hartStepsCard

/-- THE TIED CARD OF 'binnaclelaw05.HartRuns'. -/
def hartRunsCard : Claim7 := { stood := { row := hartRunsRow, standIns := [], harness := (true, "f53c2608d63b097e9553371f9fee7862c04d97815ceb2b8ad4dc2c834f7a7c31"), looks := false }, kinds := [], alts := [], laidByText := true, laidKinds := [.data, .data], laidTests := true, laidLooks := .later }
def HartRunsCardSaid : Prop := Claim7.holds Tryz.pinned (.plain (OpenSpec.ofChange hartRunsSpec)) hartRunsCard

/-- THE SECOND FORM's CARD OF 'binnaclelaw05.HartSteps'. -/
def hartStepsUptoCard : Claim7 := { stood := { row := hartStepsUptoRow, standIns := [], harness := (true, "f53c2608d63b097e9553371f9fee7862c04d97815ceb2b8ad4dc2c834f7a7c31"), looks := false }, kinds := [], alts := [], laidByText := true, laidKinds := [.data, .data], laidTests := true, laidLooks := .later }
def HartStepsUptoCardSaid : Prop := Claim7.holds Tryz.pinned (.plain (OpenSpec.upto hartStepsSpec)) hartStepsUptoCard

/-- THE SECOND FORM's CARD OF 'binnaclelaw05.HartRuns'. -/
def hartRunsUptoCard : Claim7 := { stood := { row := hartRunsUptoRow, standIns := [], harness := (true, "f53c2608d63b097e9553371f9fee7862c04d97815ceb2b8ad4dc2c834f7a7c31"), looks := false }, kinds := [], alts := [], laidByText := true, laidKinds := [.data, .data], laidTests := true, laidLooks := .later }
def HartRunsUptoCardSaid : Prop := Claim7.holds Tryz.pinned (.plain (OpenSpec.upto hartRunsSpec)) hartRunsUptoCard
end Rows
end Go.Proofs.YtngeabphjdfdgaaGreatDoor
