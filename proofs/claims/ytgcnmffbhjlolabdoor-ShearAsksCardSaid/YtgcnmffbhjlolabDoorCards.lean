/-
  DERIVED. GIVEN WITH THE SEED: THE CARDS: each row of YtgcnmffbhjlolabDoorRows.lean that lists a variable, with what it lists TIED to the program's text (the seventh form; the later family's looks); each row that meets fmt, with fmt's text TOLD by the authors' own Lean function (tested against real Go, not proved from fmt's source: count such statements apart). THE CARD IS WHAT COUNTS. Prove the row's statement (the work); the ties are given (YtgcnmffbhjlolabDoorTie.lean); close each card by the builder's one call (the guide's Derived/Test/ToyasCard.lean, 'card_holds'). Laid BY PROGRAM, IN A SANDBOX (cutbox-door.mjs). By AI agents, Wed Nov 11 2026. No macro, syntax, notation, axiom, sorry.
-/
import Derived.Test.YtgcnmffbhjlolabDoorRows
import GoSem.ClaimSeven
namespace Go.Proofs.YtgcnmffbhjlolabDoor
namespace Rows

/-- THE TIED CARD OF 'anamorphlaw22.ShearAsks'. -/
def shearAsksCard : Claim7 := { stood := { row := shearAsksRow, standIns := [], harness := (true, "a5abd551dc12f2cba5280951f50c4a004ef16112919a215d7eff76fba9f9c1a0"), looks := false }, kinds := [], alts := [], laidByText := true, laidKinds := [.data], laidTests := true, laidLooks := .later }
def ShearAsksCardSaid : Prop := Claim7.holds Tryd.pinned (.plain (OpenSpec.ofChange shearAsksSpec)) shearAsksCard

/-- THE TIED CARD OF 'anamorphlaw22.ShearOnce'. -/
def shearOnceCard : Claim7 := { stood := { row := shearOnceRow, standIns := [], harness := (true, "a5abd551dc12f2cba5280951f50c4a004ef16112919a215d7eff76fba9f9c1a0"), looks := false }, kinds := [], alts := [], laidByText := true, laidKinds := [.data], laidTests := true, laidLooks := .later }
def ShearOnceCardSaid : Prop := Claim7.holds Tryd.pinned (.plain (OpenSpec.ofChange shearOnceSpec)) shearOnceCard

/-- THE TIED CARD OF 'anamorphlaw22.ShearNear'. -/
def shearNearCard : Claim7 := { stood := { row := shearNearRow, standIns := [], harness := (true, "a5abd551dc12f2cba5280951f50c4a004ef16112919a215d7eff76fba9f9c1a0"), looks := false }, kinds := [], alts := [], laidByText := true, laidKinds := [.data], laidTests := true, laidLooks := .later }
def ShearNearCardSaid : Prop := Claim7.holds Tryd.pinned (.plain (OpenSpec.ofChange shearNearSpec)) shearNearCard

/-- THE TIED CARD OF 'anamorphlaw22.ShearQuarters'. -/
def shearQuartersCard : Claim7 := { stood := { row := shearQuartersRow, standIns := [], harness := (true, "a5abd551dc12f2cba5280951f50c4a004ef16112919a215d7eff76fba9f9c1a0"), looks := false }, kinds := [], alts := [], laidByText := true, laidKinds := [.data], laidTests := true, laidLooks := .later }
def ShearQuartersCardSaid : Prop := Claim7.holds Tryd.pinned (.plain (OpenSpec.ofChange shearQuartersSpec)) shearQuartersCard

/-- THE SECOND FORM's CARD OF 'anamorphlaw22.ShearAsks'. -/
def shearAsksUptoCard : Claim7 := { stood := { row := shearAsksUptoRow, standIns := [], harness := (true, "a5abd551dc12f2cba5280951f50c4a004ef16112919a215d7eff76fba9f9c1a0"), looks := false }, kinds := [], alts := [], laidByText := true, laidKinds := [.data], laidTests := true, laidLooks := .later }
def ShearAsksUptoCardSaid : Prop := Claim7.holds Tryd.pinned (.plain (OpenSpec.upto shearAsksSpec)) shearAsksUptoCard

/-- THE SECOND FORM's CARD OF 'anamorphlaw22.ShearOnce'. -/
def shearOnceUptoCard : Claim7 := { stood := { row := shearOnceUptoRow, standIns := [], harness := (true, "a5abd551dc12f2cba5280951f50c4a004ef16112919a215d7eff76fba9f9c1a0"), looks := false }, kinds := [], alts := [], laidByText := true, laidKinds := [.data], laidTests := true, laidLooks := .later }
def ShearOnceUptoCardSaid : Prop := Claim7.holds Tryd.pinned (.plain (OpenSpec.upto shearOnceSpec)) shearOnceUptoCard

/-- THE SECOND FORM's CARD OF 'anamorphlaw22.ShearNear'. -/
def shearNearUptoCard : Claim7 := { stood := { row := shearNearUptoRow, standIns := [], harness := (true, "a5abd551dc12f2cba5280951f50c4a004ef16112919a215d7eff76fba9f9c1a0"), looks := false }, kinds := [], alts := [], laidByText := true, laidKinds := [.data], laidTests := true, laidLooks := .later }
def ShearNearUptoCardSaid : Prop := Claim7.holds Tryd.pinned (.plain (OpenSpec.upto shearNearSpec)) shearNearUptoCard

/-- THE SECOND FORM's CARD OF 'anamorphlaw22.ShearQuarters'. -/
def shearQuartersUptoCard : Claim7 := { stood := { row := shearQuartersUptoRow, standIns := [], harness := (true, "a5abd551dc12f2cba5280951f50c4a004ef16112919a215d7eff76fba9f9c1a0"), looks := false }, kinds := [], alts := [], laidByText := true, laidKinds := [.data], laidTests := true, laidLooks := .later }
def ShearQuartersUptoCardSaid : Prop := Claim7.holds Tryd.pinned (.plain (OpenSpec.upto shearQuartersSpec)) shearQuartersUptoCard
end Rows
end Go.Proofs.YtgcnmffbhjlolabDoor
