/-
  DERIVED. GIVEN WITH THE SEED: THE CARDS: each row of YtnjpcbbdhimacaaDoorRows.lean that lists a variable, with what it lists TIED to the program's text (the seventh form; the later family's looks); each row that meets fmt, with fmt's text TOLD by the authors' own Lean function (tested against real Go, not proved from fmt's source: count such statements apart). THE CARD IS WHAT COUNTS. Prove the row's statement (the work); the ties are given (YtnjpcbbdhimacaaDoorTie.lean); close each card by the builder's one call (the guide's Derived/Test/ToyasCard.lean, 'card_holds'). Laid BY PROGRAM, IN A SANDBOX (cutbox-door.mjs). By AI agents, Wed Nov 11 2026. No macro, syntax, notation, axiom, sorry.
-/
import Derived.Test.YtnjpcbbdhimacaaDoorRows
import GoSem.ClaimSeven
namespace Go.Proofs.YtnjpcbbdhimacaaDoor
namespace Rows

/-- THE TIED CARD OF 'tollgatelaw12.RecordSeals'. -/
def recordSealsCard : Claim7 := { stood := { row := recordSealsRow, standIns := [], harness := (true, "3841c0a21280af01ad6db0a28a0634549c51abe3e43a850126e4ef35e0e4e71d"), looks := false }, kinds := [], alts := [], laidByText := true, laidKinds := [.data, .data], laidTests := true, laidLooks := .later }
def RecordSealsCardSaid : Prop := Claim7.holds Tryd.pinned (.plain (OpenSpec.ofChange recordSealsSpec)) recordSealsCard

/-- THE TIED CARD OF 'tollgatelaw12.RecordOpens'. -/
def recordOpensCard : Claim7 := { stood := { row := recordOpensRow, standIns := [], harness := (true, "3841c0a21280af01ad6db0a28a0634549c51abe3e43a850126e4ef35e0e4e71d"), looks := false }, kinds := [], alts := [], laidByText := true, laidKinds := [.data, .data], laidTests := true, laidLooks := .later }
def RecordOpensCardSaid : Prop := Claim7.holds Tryd.pinned (.plain (OpenSpec.ofChange recordOpensSpec)) recordOpensCard

/-- THE TIED CARD OF 'tollgatelaw12.RecordLong'. -/
def recordLongCard : Claim7 := { stood := { row := recordLongRow, standIns := [], harness := (true, "3841c0a21280af01ad6db0a28a0634549c51abe3e43a850126e4ef35e0e4e71d"), looks := false }, kinds := [], alts := [], laidByText := true, laidKinds := [.data, .data], laidTests := true, laidLooks := .later }
def RecordLongCardSaid : Prop := Claim7.holds Tryd.pinned (.plain (OpenSpec.ofChange recordLongSpec)) recordLongCard

/-- THE TIED CARD OF 'tollgatelaw12.RecordPads'. -/
def recordPadsCard : Claim7 := { stood := { row := recordPadsRow, standIns := [], harness := (true, "3841c0a21280af01ad6db0a28a0634549c51abe3e43a850126e4ef35e0e4e71d"), looks := false }, kinds := [], alts := [], laidByText := true, laidKinds := [.data, .data], laidTests := true, laidLooks := .later }
def RecordPadsCardSaid : Prop := Claim7.holds Tryd.pinned (.plain (OpenSpec.ofChange recordPadsSpec)) recordPadsCard

/-- THE TIED CARD OF 'tollgatetop.TollgateBoxes'. -/
def tollgateBoxesCard : Claim7 := { stood := { row := tollgateBoxesRow, standIns := [], harness := (true, "3841c0a21280af01ad6db0a28a0634549c51abe3e43a850126e4ef35e0e4e71d"), looks := false }, kinds := [], alts := [], laidByText := true, laidKinds := [.data, .data], laidTests := true, laidLooks := .later }
def TollgateBoxesCardSaid : Prop := Claim7.holds Tryd.pinned (.plain (OpenSpec.ofChange tollgateBoxesSpec)) tollgateBoxesCard

/-- THE TIED CARD OF 'tollgatetop.TollgateLines'. -/
def tollgateLinesCard : Claim7 := { stood := { row := tollgateLinesRow, standIns := [], harness := (true, "3841c0a21280af01ad6db0a28a0634549c51abe3e43a850126e4ef35e0e4e71d"), looks := false }, kinds := [], alts := [], laidByText := true, laidKinds := [.data, .data], laidTests := true, laidLooks := .later }
def TollgateLinesCardSaid : Prop := Claim7.holds Tryd.pinned (.plain (OpenSpec.ofChange tollgateLinesSpec)) tollgateLinesCard

/-- THE SECOND FORM's CARD OF 'tollgatelaw12.RecordSeals'. -/
def recordSealsUptoCard : Claim7 := { stood := { row := recordSealsUptoRow, standIns := [], harness := (true, "3841c0a21280af01ad6db0a28a0634549c51abe3e43a850126e4ef35e0e4e71d"), looks := false }, kinds := [], alts := [], laidByText := true, laidKinds := [.data, .data], laidTests := true, laidLooks := .later }
def RecordSealsUptoCardSaid : Prop := Claim7.holds Tryd.pinned (.plain (OpenSpec.upto recordSealsSpec)) recordSealsUptoCard

/-- THE SECOND FORM's CARD OF 'tollgatelaw12.RecordOpens'. -/
def recordOpensUptoCard : Claim7 := { stood := { row := recordOpensUptoRow, standIns := [], harness := (true, "3841c0a21280af01ad6db0a28a0634549c51abe3e43a850126e4ef35e0e4e71d"), looks := false }, kinds := [], alts := [], laidByText := true, laidKinds := [.data, .data], laidTests := true, laidLooks := .later }
def RecordOpensUptoCardSaid : Prop := Claim7.holds Tryd.pinned (.plain (OpenSpec.upto recordOpensSpec)) recordOpensUptoCard

/-- THE SECOND FORM's CARD OF 'tollgatelaw12.RecordLong'. -/
def recordLongUptoCard : Claim7 := { stood := { row := recordLongUptoRow, standIns := [], harness := (true, "3841c0a21280af01ad6db0a28a0634549c51abe3e43a850126e4ef35e0e4e71d"), looks := false }, kinds := [], alts := [], laidByText := true, laidKinds := [.data, .data], laidTests := true, laidLooks := .later }
def RecordLongUptoCardSaid : Prop := Claim7.holds Tryd.pinned (.plain (OpenSpec.upto recordLongSpec)) recordLongUptoCard

/-- THE SECOND FORM's CARD OF 'tollgatelaw12.RecordPads'. -/
def recordPadsUptoCard : Claim7 := { stood := { row := recordPadsUptoRow, standIns := [], harness := (true, "3841c0a21280af01ad6db0a28a0634549c51abe3e43a850126e4ef35e0e4e71d"), looks := false }, kinds := [], alts := [], laidByText := true, laidKinds := [.data, .data], laidTests := true, laidLooks := .later }
def RecordPadsUptoCardSaid : Prop := Claim7.holds Tryd.pinned (.plain (OpenSpec.upto recordPadsSpec)) recordPadsUptoCard

/-- THE SECOND FORM's CARD OF 'tollgatetop.TollgateBoxes'. -/
def tollgateBoxesUptoCard : Claim7 := { stood := { row := tollgateBoxesUptoRow, standIns := [], harness := (true, "3841c0a21280af01ad6db0a28a0634549c51abe3e43a850126e4ef35e0e4e71d"), looks := false }, kinds := [], alts := [], laidByText := true, laidKinds := [.data, .data], laidTests := true, laidLooks := .later }
def TollgateBoxesUptoCardSaid : Prop := Claim7.holds Tryd.pinned (.plain (OpenSpec.upto tollgateBoxesSpec)) tollgateBoxesUptoCard

/-- THE SECOND FORM's CARD OF 'tollgatetop.TollgateLines'. -/
def tollgateLinesUptoCard : Claim7 := { stood := { row := tollgateLinesUptoRow, standIns := [], harness := (true, "3841c0a21280af01ad6db0a28a0634549c51abe3e43a850126e4ef35e0e4e71d"), looks := false }, kinds := [], alts := [], laidByText := true, laidKinds := [.data, .data], laidTests := true, laidLooks := .later }
def TollgateLinesUptoCardSaid : Prop := Claim7.holds Tryd.pinned (.plain (OpenSpec.upto tollgateLinesSpec)) tollgateLinesUptoCard
end Rows
end Go.Proofs.YtnjpcbbdhimacaaDoor
