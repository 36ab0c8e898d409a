/-
  DERIVED. GIVEN WITH THE SEED: THE CARDS: each row of YtagblbfbjemfhaaDoorRows.lean that lists a variable, with what it lists TIED to the program's text (the seventh form; the later family's looks); each row that meets fmt, with fmt's text TOLD by the authors' own Lean function (tested against real Go, not proved from fmt's source: count such statements apart). THE CARD IS WHAT COUNTS. Prove the row's statement (the work); the ties are given (YtagblbfbjemfhaaDoorTie.lean); close each card by the builder's one call (the guide's Derived/Test/ToyasCard.lean, 'card_holds'). Laid BY PROGRAM, IN A SANDBOX (cutbox-door.mjs). By AI agents, Wed Nov 11 2026. No macro, syntax, notation, axiom, sorry.
-/
import Derived.Test.YtagblbfbjemfhaaDoorRows
import GoSem.ClaimSeven
namespace Go.Proofs.YtagblbfbjemfhaaDoor
namespace Rows

/-- THE TIED CARD OF 'tollgatelaw13.HelloWrites'. -/
def helloWritesCard : Claim7 := { stood := { row := helloWritesRow, standIns := [], harness := (true, "ca6e406580490fe957d776f3baa31e8e0f33cded9d94690c20201f3b1c1b7cd3"), looks := false }, kinds := [], alts := [], laidByText := true, laidKinds := [.data], laidTests := true, laidLooks := .later }
def HelloWritesCardSaid : Prop := Claim7.holds Tryd.pinned (.plain (OpenSpec.ofChange helloWritesSpec)) helloWritesCard

/-- THE TIED CARD OF 'tollgatelaw13.HelloReads'. -/
def helloReadsCard : Claim7 := { stood := { row := helloReadsRow, standIns := [], harness := (true, "ca6e406580490fe957d776f3baa31e8e0f33cded9d94690c20201f3b1c1b7cd3"), looks := false }, kinds := [], alts := [], laidByText := true, laidKinds := [.data], laidTests := true, laidLooks := .later }
def HelloReadsCardSaid : Prop := Claim7.holds Tryd.pinned (.plain (OpenSpec.ofChange helloReadsSpec)) helloReadsCard

/-- THE TIED CARD OF 'tollgatelaw13.HelloBack'. -/
def helloBackCard : Claim7 := { stood := { row := helloBackRow, standIns := [], harness := (true, "ca6e406580490fe957d776f3baa31e8e0f33cded9d94690c20201f3b1c1b7cd3"), looks := false }, kinds := [], alts := [], laidByText := true, laidKinds := [.data], laidTests := true, laidLooks := .later }
def HelloBackCardSaid : Prop := Claim7.holds Tryd.pinned (.plain (OpenSpec.ofChange helloBackSpec)) helloBackCard

/-- THE TIED CARD OF 'tollgatelaw13.HelloRows'. -/
def helloRowsCard : Claim7 := { stood := { row := helloRowsRow, standIns := [], harness := (true, "ca6e406580490fe957d776f3baa31e8e0f33cded9d94690c20201f3b1c1b7cd3"), looks := false }, kinds := [], alts := [], laidByText := true, laidKinds := [.data], laidTests := true, laidLooks := .later }
def HelloRowsCardSaid : Prop := Claim7.holds Tryd.pinned (.plain (OpenSpec.ofChange helloRowsSpec)) helloRowsCard

/-- THE TIED CARD OF 'tollgatelaw13.HelloShort'. -/
def helloShortCard : Claim7 := { stood := { row := helloShortRow, standIns := [], harness := (true, "ca6e406580490fe957d776f3baa31e8e0f33cded9d94690c20201f3b1c1b7cd3"), looks := false }, kinds := [], alts := [], laidByText := true, laidKinds := [.data], laidTests := true, laidLooks := .later }
def HelloShortCardSaid : Prop := Claim7.holds Tryd.pinned (.plain (OpenSpec.ofChange helloShortSpec)) helloShortCard

/-- THE TIED CARD OF 'tollgatelaw13.HelloSizes'. -/
def helloSizesCard : Claim7 := { stood := { row := helloSizesRow, standIns := [], harness := (true, "ca6e406580490fe957d776f3baa31e8e0f33cded9d94690c20201f3b1c1b7cd3"), looks := false }, kinds := [], alts := [], laidByText := true, laidKinds := [.data], laidTests := true, laidLooks := .later }
def HelloSizesCardSaid : Prop := Claim7.holds Tryd.pinned (.plain (OpenSpec.ofChange helloSizesSpec)) helloSizesCard

/-- THE SECOND FORM's CARD OF 'tollgatelaw13.HelloWrites'. -/
def helloWritesUptoCard : Claim7 := { stood := { row := helloWritesUptoRow, standIns := [], harness := (true, "ca6e406580490fe957d776f3baa31e8e0f33cded9d94690c20201f3b1c1b7cd3"), looks := false }, kinds := [], alts := [], laidByText := true, laidKinds := [.data], laidTests := true, laidLooks := .later }
def HelloWritesUptoCardSaid : Prop := Claim7.holds Tryd.pinned (.plain (OpenSpec.upto helloWritesSpec)) helloWritesUptoCard

/-- THE SECOND FORM's CARD OF 'tollgatelaw13.HelloReads'. -/
def helloReadsUptoCard : Claim7 := { stood := { row := helloReadsUptoRow, standIns := [], harness := (true, "ca6e406580490fe957d776f3baa31e8e0f33cded9d94690c20201f3b1c1b7cd3"), looks := false }, kinds := [], alts := [], laidByText := true, laidKinds := [.data], laidTests := true, laidLooks := .later }
def HelloReadsUptoCardSaid : Prop := Claim7.holds Tryd.pinned (.plain (OpenSpec.upto helloReadsSpec)) helloReadsUptoCard

/-- THE SECOND FORM's CARD OF 'tollgatelaw13.HelloBack'. -/
def helloBackUptoCard : Claim7 := { stood := { row := helloBackUptoRow, standIns := [], harness := (true, "ca6e406580490fe957d776f3baa31e8e0f33cded9d94690c20201f3b1c1b7cd3"), looks := false }, kinds := [], alts := [], laidByText := true, laidKinds := [.data], laidTests := true, laidLooks := .later }
def HelloBackUptoCardSaid : Prop := Claim7.holds Tryd.pinned (.plain (OpenSpec.upto helloBackSpec)) helloBackUptoCard

/-- THE SECOND FORM's CARD OF 'tollgatelaw13.HelloRows'. -/
def helloRowsUptoCard : Claim7 := { stood := { row := helloRowsUptoRow, standIns := [], harness := (true, "ca6e406580490fe957d776f3baa31e8e0f33cded9d94690c20201f3b1c1b7cd3"), looks := false }, kinds := [], alts := [], laidByText := true, laidKinds := [.data], laidTests := true, laidLooks := .later }
def HelloRowsUptoCardSaid : Prop := Claim7.holds Tryd.pinned (.plain (OpenSpec.upto helloRowsSpec)) helloRowsUptoCard

/-- THE SECOND FORM's CARD OF 'tollgatelaw13.HelloShort'. -/
def helloShortUptoCard : Claim7 := { stood := { row := helloShortUptoRow, standIns := [], harness := (true, "ca6e406580490fe957d776f3baa31e8e0f33cded9d94690c20201f3b1c1b7cd3"), looks := false }, kinds := [], alts := [], laidByText := true, laidKinds := [.data], laidTests := true, laidLooks := .later }
def HelloShortUptoCardSaid : Prop := Claim7.holds Tryd.pinned (.plain (OpenSpec.upto helloShortSpec)) helloShortUptoCard

/-- THE SECOND FORM's CARD OF 'tollgatelaw13.HelloSizes'. -/
def helloSizesUptoCard : Claim7 := { stood := { row := helloSizesUptoRow, standIns := [], harness := (true, "ca6e406580490fe957d776f3baa31e8e0f33cded9d94690c20201f3b1c1b7cd3"), looks := false }, kinds := [], alts := [], laidByText := true, laidKinds := [.data], laidTests := true, laidLooks := .later }
def HelloSizesUptoCardSaid : Prop := Claim7.holds Tryd.pinned (.plain (OpenSpec.upto helloSizesSpec)) helloSizesUptoCard
end Rows
end Go.Proofs.YtagblbfbjemfhaaDoor
