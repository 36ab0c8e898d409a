/-
  DERIVED. GIVEN WITH THE SEED: THE CARDS: each row of YtkiogpnjkmdmgaaDoorRows.lean that lists a variable, with what it lists TIED to the program's text (the seventh form; the later family's looks); each row that meets fmt, with fmt's text TOLD by the authors' own Lean function (tested against real Go, not proved from fmt's source: count such statements apart). THE CARD IS WHAT COUNTS. Prove the row's statement (the work); the ties are given (YtkiogpnjkmdmgaaDoorTie.lean); close each card by the builder's one call (the guide's Derived/Test/ToyasCard.lean, 'card_holds'). Laid BY PROGRAM, IN A SANDBOX (cutbox-door.mjs). By AI agents, Wed Nov 11 2026. No macro, syntax, notation, axiom, sorry.
-/
import Derived.Test.YtkiogpnjkmdmgaaDoorRows
import GoSem.ClaimSeven
namespace Go.Proofs.YtkiogpnjkmdmgaaDoor
namespace Rows

/-- THE TIED CARD OF 'tollgatelaw01.HashGoes'. -/
def hashGoesCard : Claim7 := { stood := { row := hashGoesRow, standIns := [], harness := (true, "2a0fe2bc48594afaf91c0b33d02d145410686a646fd56255d1554b1fc51b8cd0"), looks := false }, kinds := [], alts := [], laidByText := true, laidKinds := [.data, .data], laidTests := true, laidLooks := .later }
def HashGoesCardSaid : Prop := Claim7.holds Tryd.pinned (.plain (OpenSpec.ofChange hashGoesSpec)) hashGoesCard

/-- THE TIED CARD OF 'tollgatelaw02.OldHides'. -/
def oldHidesCard : Claim7 := { stood := { row := oldHidesRow, standIns := [], harness := (true, "2a0fe2bc48594afaf91c0b33d02d145410686a646fd56255d1554b1fc51b8cd0"), looks := false }, kinds := [], alts := [], laidByText := true, laidKinds := [.data, .data], laidTests := true, laidLooks := .later }
def OldHidesCardSaid : Prop := Claim7.holds Tryd.pinned (.plain (OpenSpec.ofChange oldHidesSpec)) oldHidesCard

/-- THE TIED CARD OF 'tollgatetop.TollgateMarks'. -/
def tollgateMarksCard : Claim7 := { stood := { row := tollgateMarksRow, standIns := [], harness := (true, "2a0fe2bc48594afaf91c0b33d02d145410686a646fd56255d1554b1fc51b8cd0"), looks := false }, kinds := [], alts := [], laidByText := true, laidKinds := [.data, .data, .data, .data], laidTests := true, laidLooks := .later }
def TollgateMarksCardSaid : Prop := Claim7.holds Tryd.pinned (.plain (OpenSpec.ofChange tollgateMarksSpec)) tollgateMarksCard

/-- THE SECOND FORM's CARD OF 'tollgatelaw01.HashGoes'. -/
def hashGoesUptoCard : Claim7 := { stood := { row := hashGoesUptoRow, standIns := [], harness := (true, "2a0fe2bc48594afaf91c0b33d02d145410686a646fd56255d1554b1fc51b8cd0"), looks := false }, kinds := [], alts := [], laidByText := true, laidKinds := [.data, .data], laidTests := true, laidLooks := .later }
def HashGoesUptoCardSaid : Prop := Claim7.holds Tryd.pinned (.plain (OpenSpec.upto hashGoesSpec)) hashGoesUptoCard

/-- THE SECOND FORM's CARD OF 'tollgatelaw02.OldHides'. -/
def oldHidesUptoCard : Claim7 := { stood := { row := oldHidesUptoRow, standIns := [], harness := (true, "2a0fe2bc48594afaf91c0b33d02d145410686a646fd56255d1554b1fc51b8cd0"), looks := false }, kinds := [], alts := [], laidByText := true, laidKinds := [.data, .data], laidTests := true, laidLooks := .later }
def OldHidesUptoCardSaid : Prop := Claim7.holds Tryd.pinned (.plain (OpenSpec.upto oldHidesSpec)) oldHidesUptoCard

/-- THE SECOND FORM's CARD OF 'tollgatetop.TollgateMarks'. -/
def tollgateMarksUptoCard : Claim7 := { stood := { row := tollgateMarksUptoRow, standIns := [], harness := (true, "2a0fe2bc48594afaf91c0b33d02d145410686a646fd56255d1554b1fc51b8cd0"), looks := false }, kinds := [], alts := [], laidByText := true, laidKinds := [.data, .data, .data, .data], laidTests := true, laidLooks := .later }
def TollgateMarksUptoCardSaid : Prop := Claim7.holds Tryd.pinned (.plain (OpenSpec.upto tollgateMarksSpec)) tollgateMarksUptoCard
end Rows
end Go.Proofs.YtkiogpnjkmdmgaaDoor
