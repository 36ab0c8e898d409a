/-
  DERIVED. GIVEN WITH THE SEED: THE CARDS: each row of YtdjhempfpgcigaaDoorRows.lean that lists a variable, with what it lists TIED to the program's text (the seventh form; the later family's looks); each row that meets fmt, with fmt's text TOLD by the authors' own Lean function (tested against real Go, not proved from fmt's source: count such statements apart). THE CARD IS WHAT COUNTS. Prove the row's statement (the work); the ties are given (YtdjhempfpgcigaaDoorTie.lean); close each card by the builder's one call (the guide's Derived/Test/ToyasCard.lean, 'card_holds'). Laid BY PROGRAM, IN A SANDBOX (cutbox-door.mjs). By AI agents, Wed Nov 11 2026. No macro, syntax, notation, axiom, sorry.
-/
import Derived.Test.YtdjhempfpgcigaaDoorRows
import GoSem.ClaimSeven
namespace Go.Proofs.YtdjhempfpgcigaaDoor
namespace Rows

/-- THE TIED CARD OF 'tollgatelaw14.KeysSteps'. -/
def keysStepsCard : Claim7 := { stood := { row := keysStepsRow, standIns := [], harness := (true, "150ef5adae6a47b7b387ee67d75f746690865f0958b6304c3a008325767148e3"), looks := false }, kinds := [], alts := [], laidByText := true, laidKinds := [.data, .data], laidTests := true, laidLooks := .later }
def KeysStepsCardSaid : Prop := Claim7.holds Tryd.pinned (.plain (OpenSpec.ofChange keysStepsSpec)) keysStepsCard

/-- THE TIED CARD OF 'tollgatelaw14.KeysMarks'. -/
def keysMarksCard : Claim7 := { stood := { row := keysMarksRow, standIns := [], harness := (true, "150ef5adae6a47b7b387ee67d75f746690865f0958b6304c3a008325767148e3"), looks := false }, kinds := [], alts := [], laidByText := true, laidKinds := [.data, .data], laidTests := true, laidLooks := .later }
def KeysMarksCardSaid : Prop := Claim7.holds Tryd.pinned (.plain (OpenSpec.ofChange keysMarksSpec)) keysMarksCard

/-- THE TIED CARD OF 'tollgatelaw14.KeysExports'. -/
def keysExportsCard : Claim7 := { stood := { row := keysExportsRow, standIns := [], harness := (true, "150ef5adae6a47b7b387ee67d75f746690865f0958b6304c3a008325767148e3"), looks := false }, kinds := [], alts := [], laidByText := true, laidKinds := [.data, .data], laidTests := true, laidLooks := .later }
def KeysExportsCardSaid : Prop := Claim7.holds Tryd.pinned (.plain (OpenSpec.ofChange keysExportsSpec)) keysExportsCard

/-- THE TIED CARD OF 'tollgatelaw03.MacDerives'. -/
def macDerivesCard : Claim7 := { stood := { row := macDerivesRow, standIns := [], harness := (true, "150ef5adae6a47b7b387ee67d75f746690865f0958b6304c3a008325767148e3"), looks := false }, kinds := [], alts := [], laidByText := true, laidKinds := [.data, .data], laidTests := true, laidLooks := .later }
def MacDerivesCardSaid : Prop := Claim7.holds Tryd.pinned (.plain (OpenSpec.ofChange macDerivesSpec)) macDerivesCard

/-- THE SECOND FORM's CARD OF 'tollgatelaw14.KeysSteps'. -/
def keysStepsUptoCard : Claim7 := { stood := { row := keysStepsUptoRow, standIns := [], harness := (true, "150ef5adae6a47b7b387ee67d75f746690865f0958b6304c3a008325767148e3"), looks := false }, kinds := [], alts := [], laidByText := true, laidKinds := [.data, .data], laidTests := true, laidLooks := .later }
def KeysStepsUptoCardSaid : Prop := Claim7.holds Tryd.pinned (.plain (OpenSpec.upto keysStepsSpec)) keysStepsUptoCard

/-- THE SECOND FORM's CARD OF 'tollgatelaw14.KeysMarks'. -/
def keysMarksUptoCard : Claim7 := { stood := { row := keysMarksUptoRow, standIns := [], harness := (true, "150ef5adae6a47b7b387ee67d75f746690865f0958b6304c3a008325767148e3"), looks := false }, kinds := [], alts := [], laidByText := true, laidKinds := [.data, .data], laidTests := true, laidLooks := .later }
def KeysMarksUptoCardSaid : Prop := Claim7.holds Tryd.pinned (.plain (OpenSpec.upto keysMarksSpec)) keysMarksUptoCard

/-- THE SECOND FORM's CARD OF 'tollgatelaw14.KeysExports'. -/
def keysExportsUptoCard : Claim7 := { stood := { row := keysExportsUptoRow, standIns := [], harness := (true, "150ef5adae6a47b7b387ee67d75f746690865f0958b6304c3a008325767148e3"), looks := false }, kinds := [], alts := [], laidByText := true, laidKinds := [.data, .data], laidTests := true, laidLooks := .later }
def KeysExportsUptoCardSaid : Prop := Claim7.holds Tryd.pinned (.plain (OpenSpec.upto keysExportsSpec)) keysExportsUptoCard

/-- THE SECOND FORM's CARD OF 'tollgatelaw03.MacDerives'. -/
def macDerivesUptoCard : Claim7 := { stood := { row := macDerivesUptoRow, standIns := [], harness := (true, "150ef5adae6a47b7b387ee67d75f746690865f0958b6304c3a008325767148e3"), looks := false }, kinds := [], alts := [], laidByText := true, laidKinds := [.data, .data], laidTests := true, laidLooks := .later }
def MacDerivesUptoCardSaid : Prop := Claim7.holds Tryd.pinned (.plain (OpenSpec.upto macDerivesSpec)) macDerivesUptoCard
end Rows
end Go.Proofs.YtdjhempfpgcigaaDoor
