/-
  DERIVED. GIVEN WITH THE SEED: THE CARDS: each row of YtofijdbabagilaaDoorRows.lean that lists a variable, with what it lists TIED to the program's text (the seventh form; the later family's looks); each row that meets fmt, with fmt's text TOLD by the authors' own Lean function (tested against real Go, not proved from fmt's source: count such statements apart). THE CARD IS WHAT COUNTS. Prove the row's statement (the work); the ties are given (YtofijdbabagilaaDoorTie.lean); close each card by the builder's one call (the guide's Derived/Test/ToyasCard.lean, 'card_holds'). Laid BY PROGRAM, IN A SANDBOX (cutbox-door.mjs). By AI agents, Wed Nov 11 2026. No macro, syntax, notation, axiom, sorry.
-/
import Derived.Test.YtofijdbabagilaaDoorRows
import GoSem.ClaimSeven
namespace Go.Proofs.YtofijdbabagilaaDoor
namespace Rows

/-- THE TIED CARD OF 'tollgatelaw12.RecordBares'. -/
def recordBaresCard : Claim7 := { stood := { row := recordBaresRow, standIns := [], harness := (true, "54eb1c74729567db3b72e79d4550a5291cf0d64f01f56e2f3099cc1109431dbf"), looks := false }, kinds := [], alts := [], laidByText := true, laidKinds := [.data, .data], laidTests := true, laidLooks := .later }
def RecordBaresCardSaid : Prop := Claim7.holds Tryd.pinned (.plain (OpenSpec.ofChange recordBaresSpec)) recordBaresCard

/-- THE TIED CARD OF 'tollgatelaw12.RecordSeals'. -/
def recordSealsCard : Claim7 := { stood := { row := recordSealsRow, standIns := [], harness := (true, "54eb1c74729567db3b72e79d4550a5291cf0d64f01f56e2f3099cc1109431dbf"), looks := false }, kinds := [], alts := [], laidByText := true, laidKinds := [.data, .data], laidTests := true, laidLooks := .later }
def RecordSealsCardSaid : Prop := Claim7.holds Tryd.pinned (.plain (OpenSpec.ofChange recordSealsSpec)) recordSealsCard

/-- THE TIED CARD OF 'tollgatelaw12.RecordOpens'. -/
def recordOpensCard : Claim7 := { stood := { row := recordOpensRow, standIns := [], harness := (true, "54eb1c74729567db3b72e79d4550a5291cf0d64f01f56e2f3099cc1109431dbf"), looks := false }, kinds := [], alts := [], laidByText := true, laidKinds := [.data, .data], laidTests := true, laidLooks := .later }
def RecordOpensCardSaid : Prop := Claim7.holds Tryd.pinned (.plain (OpenSpec.ofChange recordOpensSpec)) recordOpensCard

/-- THE TIED CARD OF 'tollgatetop.TollgateBoxes'. -/
def tollgateBoxesCard : Claim7 := { stood := { row := tollgateBoxesRow, standIns := [], harness := (true, "54eb1c74729567db3b72e79d4550a5291cf0d64f01f56e2f3099cc1109431dbf"), looks := false }, kinds := [], alts := [], laidByText := true, laidKinds := [.data, .data], laidTests := true, laidLooks := .later }
def TollgateBoxesCardSaid : Prop := Claim7.holds Tryd.pinned (.plain (OpenSpec.ofChange tollgateBoxesSpec)) tollgateBoxesCard

/-- THE SECOND FORM's CARD OF 'tollgatelaw12.RecordBares'. -/
def recordBaresUptoCard : Claim7 := { stood := { row := recordBaresUptoRow, standIns := [], harness := (true, "54eb1c74729567db3b72e79d4550a5291cf0d64f01f56e2f3099cc1109431dbf"), looks := false }, kinds := [], alts := [], laidByText := true, laidKinds := [.data, .data], laidTests := true, laidLooks := .later }
def RecordBaresUptoCardSaid : Prop := Claim7.holds Tryd.pinned (.plain (OpenSpec.upto recordBaresSpec)) recordBaresUptoCard

/-- THE SECOND FORM's CARD OF 'tollgatelaw12.RecordSeals'. -/
def recordSealsUptoCard : Claim7 := { stood := { row := recordSealsUptoRow, standIns := [], harness := (true, "54eb1c74729567db3b72e79d4550a5291cf0d64f01f56e2f3099cc1109431dbf"), looks := false }, kinds := [], alts := [], laidByText := true, laidKinds := [.data, .data], laidTests := true, laidLooks := .later }
def RecordSealsUptoCardSaid : Prop := Claim7.holds Tryd.pinned (.plain (OpenSpec.upto recordSealsSpec)) recordSealsUptoCard

/-- THE SECOND FORM's CARD OF 'tollgatelaw12.RecordOpens'. -/
def recordOpensUptoCard : Claim7 := { stood := { row := recordOpensUptoRow, standIns := [], harness := (true, "54eb1c74729567db3b72e79d4550a5291cf0d64f01f56e2f3099cc1109431dbf"), looks := false }, kinds := [], alts := [], laidByText := true, laidKinds := [.data, .data], laidTests := true, laidLooks := .later }
def RecordOpensUptoCardSaid : Prop := Claim7.holds Tryd.pinned (.plain (OpenSpec.upto recordOpensSpec)) recordOpensUptoCard

/-- THE SECOND FORM's CARD OF 'tollgatetop.TollgateBoxes'. -/
def tollgateBoxesUptoCard : Claim7 := { stood := { row := tollgateBoxesUptoRow, standIns := [], harness := (true, "54eb1c74729567db3b72e79d4550a5291cf0d64f01f56e2f3099cc1109431dbf"), looks := false }, kinds := [], alts := [], laidByText := true, laidKinds := [.data, .data], laidTests := true, laidLooks := .later }
def TollgateBoxesUptoCardSaid : Prop := Claim7.holds Tryd.pinned (.plain (OpenSpec.upto tollgateBoxesSpec)) tollgateBoxesUptoCard
end Rows
end Go.Proofs.YtofijdbabagilaaDoor
