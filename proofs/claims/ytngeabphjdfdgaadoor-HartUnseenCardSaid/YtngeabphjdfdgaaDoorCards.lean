/-
  DERIVED. GIVEN WITH THE SEED: THE CARDS: each row of YtngeabphjdfdgaaDoorRows.lean that lists a variable, with what it lists TIED to the program's text (the seventh form; the later family's looks); each row that meets fmt, with fmt's text TOLD by the authors' own Lean function (tested against real Go, not proved from fmt's source: count such statements apart). THE CARD IS WHAT COUNTS. Prove the row's statement (the work); the ties are given (YtngeabphjdfdgaaDoorTie.lean); close each card by the builder's one call (the guide's Derived/Test/ToyasCard.lean, 'card_holds'). Laid BY PROGRAM, IN A SANDBOX (cutbox-door.mjs). By AI agents, Wed Nov 11 2026. No macro, syntax, notation, axiom, sorry.
-/
import Derived.Test.YtngeabphjdfdgaaDoorRows
import GoSem.ClaimSeven
namespace Go.Proofs.YtngeabphjdfdgaaDoor
namespace Rows

/-- THE TIED CARD OF 'binnaclelaw05.HartStays'. -/
def hartStaysCard : Claim7 := { stood := { row := hartStaysRow, standIns := [], harness := (true, "80776aaf82653071d11e0642e6182ad4ed53c5b798638f460218734ed0b6e757"), looks := false }, kinds := [], alts := [], laidByText := true, laidKinds := [.data, .data], laidTests := true, laidLooks := .later }
def HartStaysCardSaid : Prop := Claim7.holds Tryd.pinned (.plain (OpenSpec.ofChange hartStaysSpec)) hartStaysCard

/-- THE TIED CARD OF 'binnaclelaw05.HartStops'. -/
def hartStopsCard : Claim7 := { stood := { row := hartStopsRow, standIns := [], harness := (true, "80776aaf82653071d11e0642e6182ad4ed53c5b798638f460218734ed0b6e757"), looks := false }, kinds := [], alts := [], laidByText := true, laidKinds := [.data, .data], laidTests := true, laidLooks := .later }
def HartStopsCardSaid : Prop := Claim7.holds Tryd.pinned (.plain (OpenSpec.ofChange hartStopsSpec)) hartStopsCard

/-- THE TIED CARD OF 'binnaclelaw05.HartNil'. -/
def hartNilCard : Claim7 := { stood := { row := hartNilRow, standIns := [], harness := (true, "80776aaf82653071d11e0642e6182ad4ed53c5b798638f460218734ed0b6e757"), looks := false }, kinds := [], alts := [], laidByText := true, laidKinds := [.data, .data], laidTests := true, laidLooks := .later }
def HartNilCardSaid : Prop := Claim7.holds Tryd.pinned (.plain (OpenSpec.ofChange hartNilSpec)) hartNilCard

/-- THE TIED CARD OF 'binnaclelaw05.HartUnseen'. -/
def hartUnseenCard : Claim7 := { stood := { row := hartUnseenRow, standIns := [], harness := (true, "80776aaf82653071d11e0642e6182ad4ed53c5b798638f460218734ed0b6e757"), looks := false }, kinds := [], alts := [], laidByText := true, laidKinds := [.data, .data], laidTests := true, laidLooks := .later }
def HartUnseenCardSaid : Prop := Claim7.holds Tryd.pinned (.plain (OpenSpec.ofChange hartUnseenSpec)) hartUnseenCard

/-- THE TIED CARD OF 'binnaclelaw05.HartReserves'. -/
def hartReservesCard : Claim7 := { stood := { row := hartReservesRow, standIns := [], harness := (true, "80776aaf82653071d11e0642e6182ad4ed53c5b798638f460218734ed0b6e757"), looks := false }, kinds := [], alts := [], laidByText := true, laidKinds := [.data, .data], laidTests := true, laidLooks := .later }
def HartReservesCardSaid : Prop := Claim7.holds Tryd.pinned (.plain (OpenSpec.ofChange hartReservesSpec)) hartReservesCard

/-- THE SECOND FORM's CARD OF 'binnaclelaw05.HartStays'. -/
def hartStaysUptoCard : Claim7 := { stood := { row := hartStaysUptoRow, standIns := [], harness := (true, "80776aaf82653071d11e0642e6182ad4ed53c5b798638f460218734ed0b6e757"), looks := false }, kinds := [], alts := [], laidByText := true, laidKinds := [.data, .data], laidTests := true, laidLooks := .later }
def HartStaysUptoCardSaid : Prop := Claim7.holds Tryd.pinned (.plain (OpenSpec.upto hartStaysSpec)) hartStaysUptoCard

/-- THE SECOND FORM's CARD OF 'binnaclelaw05.HartStops'. -/
def hartStopsUptoCard : Claim7 := { stood := { row := hartStopsUptoRow, standIns := [], harness := (true, "80776aaf82653071d11e0642e6182ad4ed53c5b798638f460218734ed0b6e757"), looks := false }, kinds := [], alts := [], laidByText := true, laidKinds := [.data, .data], laidTests := true, laidLooks := .later }
def HartStopsUptoCardSaid : Prop := Claim7.holds Tryd.pinned (.plain (OpenSpec.upto hartStopsSpec)) hartStopsUptoCard

/-- THE SECOND FORM's CARD OF 'binnaclelaw05.HartNil'. -/
def hartNilUptoCard : Claim7 := { stood := { row := hartNilUptoRow, standIns := [], harness := (true, "80776aaf82653071d11e0642e6182ad4ed53c5b798638f460218734ed0b6e757"), looks := false }, kinds := [], alts := [], laidByText := true, laidKinds := [.data, .data], laidTests := true, laidLooks := .later }
def HartNilUptoCardSaid : Prop := Claim7.holds Tryd.pinned (.plain (OpenSpec.upto hartNilSpec)) hartNilUptoCard

/-- THE SECOND FORM's CARD OF 'binnaclelaw05.HartUnseen'. -/
def hartUnseenUptoCard : Claim7 := { stood := { row := hartUnseenUptoRow, standIns := [], harness := (true, "80776aaf82653071d11e0642e6182ad4ed53c5b798638f460218734ed0b6e757"), looks := false }, kinds := [], alts := [], laidByText := true, laidKinds := [.data, .data], laidTests := true, laidLooks := .later }
def HartUnseenUptoCardSaid : Prop := Claim7.holds Tryd.pinned (.plain (OpenSpec.upto hartUnseenSpec)) hartUnseenUptoCard

/-- THE SECOND FORM's CARD OF 'binnaclelaw05.HartReserves'. -/
def hartReservesUptoCard : Claim7 := { stood := { row := hartReservesUptoRow, standIns := [], harness := (true, "80776aaf82653071d11e0642e6182ad4ed53c5b798638f460218734ed0b6e757"), looks := false }, kinds := [], alts := [], laidByText := true, laidKinds := [.data, .data], laidTests := true, laidLooks := .later }
def HartReservesUptoCardSaid : Prop := Claim7.holds Tryd.pinned (.plain (OpenSpec.upto hartReservesSpec)) hartReservesUptoCard
end Rows
end Go.Proofs.YtngeabphjdfdgaaDoor
