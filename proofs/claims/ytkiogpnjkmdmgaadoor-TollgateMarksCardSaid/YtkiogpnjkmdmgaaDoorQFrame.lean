/-
  What the rows that list package old's two tables give the walks.
-/
import Derived.Test.YtkiogpnjkmdmgaaDoorFrame
import Derived.Test.YtkiogpnjkmdmgaaDoorQTurn
namespace Go.Proofs.YtkiogpnjkmdmgaaDoor
open Go.ChangeShapes Go.WideShapes Go.ChangeAt Go.RowKit

def laidOld : List (String × DataW Unit) := [("tollgate/old.sines", Rows.laid_tollgate_old_sines), ("tollgate/old.shifts", Rows.laid_tollgate_old_shifts)]
theorem sines_data : (Rows.laid_tollgate_old_sines : DataW Unit) = Lib.tabData .u32 (sineTab.map fun x => (x.toNat : Int)) := by kernel_rfl
theorem shifts_data : (Rows.laid_tollgate_old_shifts : DataW Unit) = Lib.tabData .i64 (shiftTab.map fun x : Nat => (x : Int)) := by kernel_rfl
theorem getD_nats (L : List Nat) (i : Nat) (h : i < L.length) : (L.map fun x : Nat => (x : Int)).getD i 0 = ((L.getD i 0 : Nat) : Int) := by
  simp [List.getD_eq_getElem?_getD, List.getElem?_map, List.getElem?_eq_getElem h]
theorem tabsQ_of_laid {W : World} (h : laidMetH Tryd.prog laidOld W) : TabsQ W := by
  rw [MakeChecks.laidMetH_plain _ _ _ (by kernel_rfl)] at h
  unfold laidOld at h
  rw [sines_data, shifts_data] at h
  have h1 := Lib.tabIs_of_head (g := 2) (t := 56) (e := 47) (n := 64) (by kernel_rfl) (by kernel_rfl) Tryd.underlying56 Tryd.underlying47 (by kernel_rfl) (by kernel_rfl) h
  have h2 : Lib.TabIs Tryd.prog W "tollgate/old.shifts" .i64 (shiftTab.map fun x : Nat => (x : Int)) := by
    obtain ⟨ps, ⟨g0, t0, cs0, f0, p0, q0, hg0, ht0, hv0, hd0, ⟨g1, t1, cs1, f1, p1, q1, hg1, ht1, hv1, hd1, _, _⟩, _⟩, _, _⟩ := h
    obtain rfl := Option.some.inj ((show Tryd.prog.globalNamed "tollgate/old.shifts" = some 3 by kernel_rfl).symm.trans hg1)
    obtain rfl := Option.some.inj ((show (Tryd.prog.globals[3]?).map (·.type) = some 79 by kernel_rfl).symm.trans ht1)
    unfold Lib.TabIs
    rw [hv1, ← Lib.cells_of_tab Tryd.underlying79 Tryd.underlying3 (by kernel_rfl) (by kernel_rfl) hd1]
  constructor
  · intro i hi
    have := h1.cell (g := 2) (by kernel_rfl) i (by simpa [sineTab] using hi)
    rw [getD_ints _ _ (by simpa [sineTab] using hi)] at this
    exact this
  · intro i hi
    have := h2.cell (g := 3) (by kernel_rfl) i (by simpa [shiftTab] using hi)
    rw [getD_nats _ _ (by simpa [shiftTab] using hi)] at this
    exact this
theorem door_metQ (os : Os) (args : Array Value) : laidMetH Tryd.prog laidOld ((World.doorLaid Tryd.prog 400 os).forCall (fun _ _ => 0) ⟨#[], args, []⟩).memory :=
  laidMetH_of_parts3 (fuel := 8) (laidMet_of_run' 8 (by kernel_rfl) (by kernel_rfl)) (by kernel_rfl) (by kernel_rfl)
end Go.Proofs.YtkiogpnjkmdmgaaDoor
