/-
  DERIVED. GIVEN WITH THE SEED: THE PROGRAM's TIES (one call each: nine closed facts by the kernel) AND EACH ROW's TIE, after the 31st guide's Derived/Test/Toyas{Tie, Card}.lean. No idea stands in it: it is a product of the set-up. Laid BY PROGRAM, IN A SANDBOX (cutbox-door.mjs). By AI agents, Wed Nov 11 2026. No macro, syntax, notation, axiom, sorry.
-/
import Derived.Test.YtkiogpnjkmdmgaaDoorRows
import Derived.LaidByTextLater
import Derived.SevenTiedAt
import Derived.LaidSub
import Derived.LaidOnce
namespace Go.Proofs.YtkiogpnjkmdmgaaDoor
open Go
set_option maxRecDepth 100000
theorem seatTie1 : Tryd.prog.laidByTextLater [("tollgate/hash.first", Rows.laid_tollgate_hash_first), ("tollgate/hash.rounds", Rows.laid_tollgate_hash_rounds), ("tollgate/old.sines", Rows.laid_tollgate_old_sines), ("tollgate/old.shifts", Rows.laid_tollgate_old_shifts)] [.data, .data, .data, .data] true :=
  Program.laidByTextLater_by_one 29 8 65 (by kernel_rfl) (by kernel_rfl) (by kernel_rfl) (by kernel_rfl) (by kernel_rfl) (by kernel_rfl) (fun _ _ => by kernel_rfl)
theorem noOwnUnsafe : Tryd.pinned.checked.prog.headLifts.contains "ownunsafe" = false := by kernel_rfl
theorem tie : Tryd.prog.laidByTextLater [("tollgate/hash.first", Rows.laid_tollgate_hash_first), ("tollgate/hash.rounds", Rows.laid_tollgate_hash_rounds)] [.data, .data] true :=
  Program.laidByTextLater.sub seatTie1 ["tollgate/hash.first", "tollgate/hash.rounds"] (by kernel_rfl) (by kernel_rfl)
theorem hashGoes_row_tie : Rows.hashGoesRow.laidByTextAt .later Tryd.pinned [.data, .data] true :=
  OpenClaim.laidByTextAt_later rfl rfl tie noOwnUnsafe
theorem tie2 : Tryd.prog.laidByTextLater [("tollgate/old.sines", Rows.laid_tollgate_old_sines), ("tollgate/old.shifts", Rows.laid_tollgate_old_shifts)] [.data, .data] true :=
  Program.laidByTextLater.sub seatTie1 ["tollgate/old.sines", "tollgate/old.shifts"] (by kernel_rfl) (by kernel_rfl)
theorem oldHides_row_tie : Rows.oldHidesRow.laidByTextAt .later Tryd.pinned [.data, .data] true :=
  OpenClaim.laidByTextAt_later rfl rfl tie2 noOwnUnsafe
theorem tie3 : Tryd.prog.laidByTextLater [("tollgate/hash.first", Rows.laid_tollgate_hash_first), ("tollgate/hash.rounds", Rows.laid_tollgate_hash_rounds), ("tollgate/old.sines", Rows.laid_tollgate_old_sines), ("tollgate/old.shifts", Rows.laid_tollgate_old_shifts)] [.data, .data, .data, .data] true :=
  Program.laidByTextLater.sub seatTie1 ["tollgate/hash.first", "tollgate/hash.rounds", "tollgate/old.sines", "tollgate/old.shifts"] (by kernel_rfl) (by kernel_rfl)
theorem tollgateMarks_row_tie : Rows.tollgateMarksRow.laidByTextAt .later Tryd.pinned [.data, .data, .data, .data] true :=
  OpenClaim.laidByTextAt_later rfl rfl tie3 noOwnUnsafe
theorem hashGoesUpto_row_tie : Rows.hashGoesUptoRow.laidByTextAt .later Tryd.pinned [.data, .data] true :=
  OpenClaim.laidByTextAt_later rfl rfl tie noOwnUnsafe
theorem oldHidesUpto_row_tie : Rows.oldHidesUptoRow.laidByTextAt .later Tryd.pinned [.data, .data] true :=
  OpenClaim.laidByTextAt_later rfl rfl tie2 noOwnUnsafe
theorem tollgateMarksUpto_row_tie : Rows.tollgateMarksUptoRow.laidByTextAt .later Tryd.pinned [.data, .data, .data, .data] true :=
  OpenClaim.laidByTextAt_later rfl rfl tie3 noOwnUnsafe
end Go.Proofs.YtkiogpnjkmdmgaaDoor
