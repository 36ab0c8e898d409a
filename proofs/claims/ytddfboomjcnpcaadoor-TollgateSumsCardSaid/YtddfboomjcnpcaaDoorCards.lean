/-
  DERIVED. GIVEN WITH THE SEED: THE CARDS: each row of YtddfboomjcnpcaaDoorRows.lean that lists a variable, with what it lists TIED to the program's text (the seventh form; the later family's looks); each row that meets fmt, with fmt's text TOLD by the authors' own Lean function (tested against real Go, not proved from fmt's source: count such statements apart). THE CARD IS WHAT COUNTS. Prove the row's statement (the work); the ties are given (YtddfboomjcnpcaaDoorTie.lean); close each card by the builder's one call (the guide's Derived/Test/ToyasCard.lean, 'card_holds'). Laid BY PROGRAM, IN A SANDBOX (cutbox-door.mjs). By AI agents, Wed Nov 11 2026. No macro, syntax, notation, axiom, sorry.
-/
import Derived.Test.YtddfboomjcnpcaaDoorRows
import GoSem.ClaimSeven
namespace Go.Proofs.YtddfboomjcnpcaaDoor
namespace Rows

/-- THE TIED CARD OF 'tollgatelaw01.HashGoes'. -/
def hashGoesCard : Claim7 := { stood := { row := hashGoesRow, standIns := [], harness := (true, "8c064dd04d6e291194b45999756909d769473635f806c996b9c41055ba682227"), looks := false }, kinds := [], alts := [], laidByText := true, laidKinds := [.data, .data], laidTests := true, laidLooks := .later }
def HashGoesCardSaid : Prop := Claim7.holds Tryd.pinned (.plain (OpenSpec.ofChange hashGoesSpec)) hashGoesCard

/-- THE TIED CARD OF 'tollgatelaw02.OldOf'. -/
def oldOfCard : Claim7 := { stood := { row := oldOfRow, standIns := [], harness := (true, "8c064dd04d6e291194b45999756909d769473635f806c996b9c41055ba682227"), looks := false }, kinds := [], alts := [], laidByText := true, laidKinds := [.data, .data], laidTests := true, laidLooks := .later }
def OldOfCardSaid : Prop := Claim7.holds Tryd.pinned (.plain (OpenSpec.ofChange oldOfSpec)) oldOfCard

/-- THE TIED CARD OF 'tollgatelaw02.OldMacs'. -/
def oldMacsCard : Claim7 := { stood := { row := oldMacsRow, standIns := [], harness := (true, "8c064dd04d6e291194b45999756909d769473635f806c996b9c41055ba682227"), looks := false }, kinds := [], alts := [], laidByText := true, laidKinds := [.data, .data], laidTests := true, laidLooks := .later }
def OldMacsCardSaid : Prop := Claim7.holds Tryd.pinned (.plain (OpenSpec.ofChange oldMacsSpec)) oldMacsCard

/-- THE TIED CARD OF 'tollgatelaw02.OldHides'. -/
def oldHidesCard : Claim7 := { stood := { row := oldHidesRow, standIns := [], harness := (true, "8c064dd04d6e291194b45999756909d769473635f806c996b9c41055ba682227"), looks := false }, kinds := [], alts := [], laidByText := true, laidKinds := [.data, .data], laidTests := true, laidLooks := .later }
def OldHidesCardSaid : Prop := Claim7.holds Tryd.pinned (.plain (OpenSpec.ofChange oldHidesSpec)) oldHidesCard

/-- THE TIED CARD OF 'tollgatelaw02.OldKeys'. -/
def oldKeysCard : Claim7 := { stood := { row := oldKeysRow, standIns := [], harness := (true, "8c064dd04d6e291194b45999756909d769473635f806c996b9c41055ba682227"), looks := false }, kinds := [], alts := [], laidByText := true, laidKinds := [.data, .data], laidTests := true, laidLooks := .later }
def OldKeysCardSaid : Prop := Claim7.holds Tryd.pinned (.plain (OpenSpec.ofChange oldKeysSpec)) oldKeysCard

/-- THE TIED CARD OF 'tollgatelaw03.MacExpands'. -/
def macExpandsCard : Claim7 := { stood := { row := macExpandsRow, standIns := [], harness := (true, "8c064dd04d6e291194b45999756909d769473635f806c996b9c41055ba682227"), looks := false }, kinds := [], alts := [], laidByText := true, laidKinds := [.data, .data], laidTests := true, laidLooks := .later }
def MacExpandsCardSaid : Prop := Claim7.holds Tryd.pinned (.plain (OpenSpec.ofChange macExpandsSpec)) macExpandsCard

/-- THE TIED CARD OF 'tollgatelaw03.MacLabels'. -/
def macLabelsCard : Claim7 := { stood := { row := macLabelsRow, standIns := [], harness := (true, "8c064dd04d6e291194b45999756909d769473635f806c996b9c41055ba682227"), looks := false }, kinds := [], alts := [], laidByText := true, laidKinds := [.data, .data], laidTests := true, laidLooks := .later }
def MacLabelsCardSaid : Prop := Claim7.holds Tryd.pinned (.plain (OpenSpec.ofChange macLabelsSpec)) macLabelsCard

/-- THE TIED CARD OF 'tollgatelaw03.MacDerives'. -/
def macDerivesCard : Claim7 := { stood := { row := macDerivesRow, standIns := [], harness := (true, "8c064dd04d6e291194b45999756909d769473635f806c996b9c41055ba682227"), looks := false }, kinds := [], alts := [], laidByText := true, laidKinds := [.data, .data], laidTests := true, laidLooks := .later }
def MacDerivesCardSaid : Prop := Claim7.holds Tryd.pinned (.plain (OpenSpec.ofChange macDerivesSpec)) macDerivesCard

/-- THE TIED CARD OF 'tollgatetop.TollgateMarks'. -/
def tollgateMarksCard : Claim7 := { stood := { row := tollgateMarksRow, standIns := [], harness := (true, "8c064dd04d6e291194b45999756909d769473635f806c996b9c41055ba682227"), looks := false }, kinds := [], alts := [], laidByText := true, laidKinds := [.data, .data, .data, .data], laidTests := true, laidLooks := .later }
def TollgateMarksCardSaid : Prop := Claim7.holds Tryd.pinned (.plain (OpenSpec.ofChange tollgateMarksSpec)) tollgateMarksCard

/-- THE TIED CARD OF 'tollgatetop.TollgateSums'. -/
def tollgateSumsCard : Claim7 := { stood := { row := tollgateSumsRow, standIns := [], harness := (true, "8c064dd04d6e291194b45999756909d769473635f806c996b9c41055ba682227"), looks := false }, kinds := [], alts := [], laidByText := true, laidKinds := [.data, .data], laidTests := true, laidLooks := .later }
def TollgateSumsCardSaid : Prop := Claim7.holds Tryd.pinned (.plain (OpenSpec.ofChange tollgateSumsSpec)) tollgateSumsCard

/-- THE SECOND FORM's CARD OF 'tollgatelaw01.HashGoes'. -/
def hashGoesUptoCard : Claim7 := { stood := { row := hashGoesUptoRow, standIns := [], harness := (true, "8c064dd04d6e291194b45999756909d769473635f806c996b9c41055ba682227"), looks := false }, kinds := [], alts := [], laidByText := true, laidKinds := [.data, .data], laidTests := true, laidLooks := .later }
def HashGoesUptoCardSaid : Prop := Claim7.holds Tryd.pinned (.plain (OpenSpec.upto hashGoesSpec)) hashGoesUptoCard

/-- THE SECOND FORM's CARD OF 'tollgatelaw02.OldOf'. -/
def oldOfUptoCard : Claim7 := { stood := { row := oldOfUptoRow, standIns := [], harness := (true, "8c064dd04d6e291194b45999756909d769473635f806c996b9c41055ba682227"), looks := false }, kinds := [], alts := [], laidByText := true, laidKinds := [.data, .data], laidTests := true, laidLooks := .later }
def OldOfUptoCardSaid : Prop := Claim7.holds Tryd.pinned (.plain (OpenSpec.upto oldOfSpec)) oldOfUptoCard

/-- THE SECOND FORM's CARD OF 'tollgatelaw02.OldMacs'. -/
def oldMacsUptoCard : Claim7 := { stood := { row := oldMacsUptoRow, standIns := [], harness := (true, "8c064dd04d6e291194b45999756909d769473635f806c996b9c41055ba682227"), looks := false }, kinds := [], alts := [], laidByText := true, laidKinds := [.data, .data], laidTests := true, laidLooks := .later }
def OldMacsUptoCardSaid : Prop := Claim7.holds Tryd.pinned (.plain (OpenSpec.upto oldMacsSpec)) oldMacsUptoCard

/-- THE SECOND FORM's CARD OF 'tollgatelaw02.OldHides'. -/
def oldHidesUptoCard : Claim7 := { stood := { row := oldHidesUptoRow, standIns := [], harness := (true, "8c064dd04d6e291194b45999756909d769473635f806c996b9c41055ba682227"), looks := false }, kinds := [], alts := [], laidByText := true, laidKinds := [.data, .data], laidTests := true, laidLooks := .later }
def OldHidesUptoCardSaid : Prop := Claim7.holds Tryd.pinned (.plain (OpenSpec.upto oldHidesSpec)) oldHidesUptoCard

/-- THE SECOND FORM's CARD OF 'tollgatelaw02.OldKeys'. -/
def oldKeysUptoCard : Claim7 := { stood := { row := oldKeysUptoRow, standIns := [], harness := (true, "8c064dd04d6e291194b45999756909d769473635f806c996b9c41055ba682227"), looks := false }, kinds := [], alts := [], laidByText := true, laidKinds := [.data, .data], laidTests := true, laidLooks := .later }
def OldKeysUptoCardSaid : Prop := Claim7.holds Tryd.pinned (.plain (OpenSpec.upto oldKeysSpec)) oldKeysUptoCard

/-- THE SECOND FORM's CARD OF 'tollgatelaw03.MacExpands'. -/
def macExpandsUptoCard : Claim7 := { stood := { row := macExpandsUptoRow, standIns := [], harness := (true, "8c064dd04d6e291194b45999756909d769473635f806c996b9c41055ba682227"), looks := false }, kinds := [], alts := [], laidByText := true, laidKinds := [.data, .data], laidTests := true, laidLooks := .later }
def MacExpandsUptoCardSaid : Prop := Claim7.holds Tryd.pinned (.plain (OpenSpec.upto macExpandsSpec)) macExpandsUptoCard

/-- THE SECOND FORM's CARD OF 'tollgatelaw03.MacLabels'. -/
def macLabelsUptoCard : Claim7 := { stood := { row := macLabelsUptoRow, standIns := [], harness := (true, "8c064dd04d6e291194b45999756909d769473635f806c996b9c41055ba682227"), looks := false }, kinds := [], alts := [], laidByText := true, laidKinds := [.data, .data], laidTests := true, laidLooks := .later }
def MacLabelsUptoCardSaid : Prop := Claim7.holds Tryd.pinned (.plain (OpenSpec.upto macLabelsSpec)) macLabelsUptoCard

/-- THE SECOND FORM's CARD OF 'tollgatelaw03.MacDerives'. -/
def macDerivesUptoCard : Claim7 := { stood := { row := macDerivesUptoRow, standIns := [], harness := (true, "8c064dd04d6e291194b45999756909d769473635f806c996b9c41055ba682227"), looks := false }, kinds := [], alts := [], laidByText := true, laidKinds := [.data, .data], laidTests := true, laidLooks := .later }
def MacDerivesUptoCardSaid : Prop := Claim7.holds Tryd.pinned (.plain (OpenSpec.upto macDerivesSpec)) macDerivesUptoCard

/-- THE SECOND FORM's CARD OF 'tollgatetop.TollgateMarks'. -/
def tollgateMarksUptoCard : Claim7 := { stood := { row := tollgateMarksUptoRow, standIns := [], harness := (true, "8c064dd04d6e291194b45999756909d769473635f806c996b9c41055ba682227"), looks := false }, kinds := [], alts := [], laidByText := true, laidKinds := [.data, .data, .data, .data], laidTests := true, laidLooks := .later }
def TollgateMarksUptoCardSaid : Prop := Claim7.holds Tryd.pinned (.plain (OpenSpec.upto tollgateMarksSpec)) tollgateMarksUptoCard

/-- THE SECOND FORM's CARD OF 'tollgatetop.TollgateSums'. -/
def tollgateSumsUptoCard : Claim7 := { stood := { row := tollgateSumsUptoRow, standIns := [], harness := (true, "8c064dd04d6e291194b45999756909d769473635f806c996b9c41055ba682227"), looks := false }, kinds := [], alts := [], laidByText := true, laidKinds := [.data, .data], laidTests := true, laidLooks := .later }
def TollgateSumsUptoCardSaid : Prop := Claim7.holds Tryd.pinned (.plain (OpenSpec.upto tollgateSumsSpec)) tollgateSumsUptoCard
end Rows
end Go.Proofs.YtddfboomjcnpcaaDoor
