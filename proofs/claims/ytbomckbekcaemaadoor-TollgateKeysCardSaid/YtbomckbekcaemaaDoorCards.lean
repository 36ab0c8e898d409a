/-
  DERIVED. GIVEN WITH THE SEED: THE CARDS: each row of YtbomckbekcaemaaDoorRows.lean that lists a variable, with what it lists TIED to the program's text (the seventh form; the later family's looks); each row that meets fmt, with fmt's text TOLD by the authors' own Lean function (tested against real Go, not proved from fmt's source: count such statements apart). THE CARD IS WHAT COUNTS. Prove the row's statement (the work); the ties are given (YtbomckbekcaemaaDoorTie.lean); close each card by the builder's one call (the guide's Derived/Test/ToyasCard.lean, 'card_holds'). Laid BY PROGRAM, IN A SANDBOX (cutbox-door.mjs). By AI agents, Wed Nov 11 2026. No macro, syntax, notation, axiom, sorry.
-/
import Derived.Test.YtbomckbekcaemaaDoorRows
import GoSem.ClaimSeven
namespace Go.Proofs.YtbomckbekcaemaaDoor
namespace Rows

/-- THE TIED CARD OF 'tollgatelaw19.RadiusWrites'. -/
def radiusWritesCard : Claim7 := { stood := { row := radiusWritesRow, standIns := [], harness := (true, "17c65c28433dd2d93bdd12868be5df101e78f2fa7b7fe81c245fa2cf84b9cc88"), looks := false }, kinds := [], alts := [], laidByText := true, laidKinds := [.data, .data], laidTests := true, laidLooks := .later }
def RadiusWritesCardSaid : Prop := Claim7.holds Tryd.pinned (.plain (OpenSpec.ofChange radiusWritesSpec)) radiusWritesCard

/-- THE TIED CARD OF 'tollgatelaw19.RadiusSeals'. -/
def radiusSealsCard : Claim7 := { stood := { row := radiusSealsRow, standIns := [], harness := (true, "17c65c28433dd2d93bdd12868be5df101e78f2fa7b7fe81c245fa2cf84b9cc88"), looks := false }, kinds := [], alts := [], laidByText := true, laidKinds := [.data, .data], laidTests := true, laidLooks := .later }
def RadiusSealsCardSaid : Prop := Claim7.holds Tryd.pinned (.plain (OpenSpec.ofChange radiusSealsSpec)) radiusSealsCard

/-- THE TIED CARD OF 'tollgatelaw19.RadiusOpens'. -/
def radiusOpensCard : Claim7 := { stood := { row := radiusOpensRow, standIns := [], harness := (true, "17c65c28433dd2d93bdd12868be5df101e78f2fa7b7fe81c245fa2cf84b9cc88"), looks := false }, kinds := [], alts := [], laidByText := true, laidKinds := [.data, .data], laidTests := true, laidLooks := .later }
def RadiusOpensCardSaid : Prop := Claim7.holds Tryd.pinned (.plain (OpenSpec.ofChange radiusOpensSpec)) radiusOpensCard

/-- THE TIED CARD OF 'tollgatelaw19.RadiusSplits'. -/
def radiusSplitsCard : Claim7 := { stood := { row := radiusSplitsRow, standIns := [], harness := (true, "17c65c28433dd2d93bdd12868be5df101e78f2fa7b7fe81c245fa2cf84b9cc88"), looks := false }, kinds := [], alts := [], laidByText := true, laidKinds := [.data, .data], laidTests := true, laidLooks := .later }
def RadiusSplitsCardSaid : Prop := Claim7.holds Tryd.pinned (.plain (OpenSpec.ofChange radiusSplitsSpec)) radiusSplitsCard

/-- THE TIED CARD OF 'tollgatelaw19.RadiusRooms'. -/
def radiusRoomsCard : Claim7 := { stood := { row := radiusRoomsRow, standIns := [], harness := (true, "17c65c28433dd2d93bdd12868be5df101e78f2fa7b7fe81c245fa2cf84b9cc88"), looks := false }, kinds := [], alts := [], laidByText := true, laidKinds := [.data, .data], laidTests := true, laidLooks := .later }
def RadiusRoomsCardSaid : Prop := Claim7.holds Tryd.pinned (.plain (OpenSpec.ofChange radiusRoomsSpec)) radiusRoomsCard

/-- THE TIED CARD OF 'tollgatelaw20.WrapWraps'. -/
def wrapWrapsCard : Claim7 := { stood := { row := wrapWrapsRow, standIns := [], harness := (true, "17c65c28433dd2d93bdd12868be5df101e78f2fa7b7fe81c245fa2cf84b9cc88"), looks := false }, kinds := [], alts := [], laidByText := true, laidKinds := [.data, .data], laidTests := true, laidLooks := .later }
def WrapWrapsCardSaid : Prop := Claim7.holds Tryd.pinned (.plain (OpenSpec.ofChange wrapWrapsSpec)) wrapWrapsCard

/-- THE TIED CARD OF 'tollgatelaw20.WrapUnwraps'. -/
def wrapUnwrapsCard : Claim7 := { stood := { row := wrapUnwrapsRow, standIns := [], harness := (true, "17c65c28433dd2d93bdd12868be5df101e78f2fa7b7fe81c245fa2cf84b9cc88"), looks := false }, kinds := [], alts := [], laidByText := true, laidKinds := [.data, .data], laidTests := true, laidLooks := .later }
def WrapUnwrapsCardSaid : Prop := Claim7.holds Tryd.pinned (.plain (OpenSpec.ofChange wrapUnwrapsSpec)) wrapUnwrapsCard

/-- THE TIED CARD OF 'tollgatetop.TollgateKeys'. -/
def tollgateKeysCard : Claim7 := { stood := { row := tollgateKeysRow, standIns := [], harness := (true, "17c65c28433dd2d93bdd12868be5df101e78f2fa7b7fe81c245fa2cf84b9cc88"), looks := false }, kinds := [], alts := [], laidByText := true, laidKinds := [.data, .data, .data, .data], laidTests := true, laidLooks := .later }
def TollgateKeysCardSaid : Prop := Claim7.holds Tryd.pinned (.plain (OpenSpec.ofChange tollgateKeysSpec)) tollgateKeysCard

/-- THE SECOND FORM's CARD OF 'tollgatelaw19.RadiusWrites'. -/
def radiusWritesUptoCard : Claim7 := { stood := { row := radiusWritesUptoRow, standIns := [], harness := (true, "17c65c28433dd2d93bdd12868be5df101e78f2fa7b7fe81c245fa2cf84b9cc88"), looks := false }, kinds := [], alts := [], laidByText := true, laidKinds := [.data, .data], laidTests := true, laidLooks := .later }
def RadiusWritesUptoCardSaid : Prop := Claim7.holds Tryd.pinned (.plain (OpenSpec.upto radiusWritesSpec)) radiusWritesUptoCard

/-- THE SECOND FORM's CARD OF 'tollgatelaw19.RadiusSeals'. -/
def radiusSealsUptoCard : Claim7 := { stood := { row := radiusSealsUptoRow, standIns := [], harness := (true, "17c65c28433dd2d93bdd12868be5df101e78f2fa7b7fe81c245fa2cf84b9cc88"), looks := false }, kinds := [], alts := [], laidByText := true, laidKinds := [.data, .data], laidTests := true, laidLooks := .later }
def RadiusSealsUptoCardSaid : Prop := Claim7.holds Tryd.pinned (.plain (OpenSpec.upto radiusSealsSpec)) radiusSealsUptoCard

/-- THE SECOND FORM's CARD OF 'tollgatelaw19.RadiusOpens'. -/
def radiusOpensUptoCard : Claim7 := { stood := { row := radiusOpensUptoRow, standIns := [], harness := (true, "17c65c28433dd2d93bdd12868be5df101e78f2fa7b7fe81c245fa2cf84b9cc88"), looks := false }, kinds := [], alts := [], laidByText := true, laidKinds := [.data, .data], laidTests := true, laidLooks := .later }
def RadiusOpensUptoCardSaid : Prop := Claim7.holds Tryd.pinned (.plain (OpenSpec.upto radiusOpensSpec)) radiusOpensUptoCard

/-- THE SECOND FORM's CARD OF 'tollgatelaw19.RadiusSplits'. -/
def radiusSplitsUptoCard : Claim7 := { stood := { row := radiusSplitsUptoRow, standIns := [], harness := (true, "17c65c28433dd2d93bdd12868be5df101e78f2fa7b7fe81c245fa2cf84b9cc88"), looks := false }, kinds := [], alts := [], laidByText := true, laidKinds := [.data, .data], laidTests := true, laidLooks := .later }
def RadiusSplitsUptoCardSaid : Prop := Claim7.holds Tryd.pinned (.plain (OpenSpec.upto radiusSplitsSpec)) radiusSplitsUptoCard

/-- THE SECOND FORM's CARD OF 'tollgatelaw19.RadiusRooms'. -/
def radiusRoomsUptoCard : Claim7 := { stood := { row := radiusRoomsUptoRow, standIns := [], harness := (true, "17c65c28433dd2d93bdd12868be5df101e78f2fa7b7fe81c245fa2cf84b9cc88"), looks := false }, kinds := [], alts := [], laidByText := true, laidKinds := [.data, .data], laidTests := true, laidLooks := .later }
def RadiusRoomsUptoCardSaid : Prop := Claim7.holds Tryd.pinned (.plain (OpenSpec.upto radiusRoomsSpec)) radiusRoomsUptoCard

/-- THE SECOND FORM's CARD OF 'tollgatelaw20.WrapWraps'. -/
def wrapWrapsUptoCard : Claim7 := { stood := { row := wrapWrapsUptoRow, standIns := [], harness := (true, "17c65c28433dd2d93bdd12868be5df101e78f2fa7b7fe81c245fa2cf84b9cc88"), looks := false }, kinds := [], alts := [], laidByText := true, laidKinds := [.data, .data], laidTests := true, laidLooks := .later }
def WrapWrapsUptoCardSaid : Prop := Claim7.holds Tryd.pinned (.plain (OpenSpec.upto wrapWrapsSpec)) wrapWrapsUptoCard

/-- THE SECOND FORM's CARD OF 'tollgatelaw20.WrapUnwraps'. -/
def wrapUnwrapsUptoCard : Claim7 := { stood := { row := wrapUnwrapsUptoRow, standIns := [], harness := (true, "17c65c28433dd2d93bdd12868be5df101e78f2fa7b7fe81c245fa2cf84b9cc88"), looks := false }, kinds := [], alts := [], laidByText := true, laidKinds := [.data, .data], laidTests := true, laidLooks := .later }
def WrapUnwrapsUptoCardSaid : Prop := Claim7.holds Tryd.pinned (.plain (OpenSpec.upto wrapUnwrapsSpec)) wrapUnwrapsUptoCard

/-- THE SECOND FORM's CARD OF 'tollgatetop.TollgateKeys'. -/
def tollgateKeysUptoCard : Claim7 := { stood := { row := tollgateKeysUptoRow, standIns := [], harness := (true, "17c65c28433dd2d93bdd12868be5df101e78f2fa7b7fe81c245fa2cf84b9cc88"), looks := false }, kinds := [], alts := [], laidByText := true, laidKinds := [.data, .data, .data, .data], laidTests := true, laidLooks := .later }
def TollgateKeysUptoCardSaid : Prop := Claim7.holds Tryd.pinned (.plain (OpenSpec.upto tollgateKeysSpec)) tollgateKeysUptoCard
end Rows
end Go.Proofs.YtbomckbekcaemaaDoor
