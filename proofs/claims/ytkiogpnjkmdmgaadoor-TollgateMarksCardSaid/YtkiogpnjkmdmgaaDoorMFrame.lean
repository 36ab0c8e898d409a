/-
  What the row that lists the tables of both packages gives the walk.
-/
import Derived.Test.YtkiogpnjkmdmgaaDoorQFrame
namespace Go.Proofs.YtkiogpnjkmdmgaaDoor
open Go.ChangeShapes Go.WideShapes Go.ChangeAt Go.RowKit

def laidBoth : List (String × DataW Unit) := [("tollgate/hash.first", Rows.laid_tollgate_hash_first), ("tollgate/hash.rounds", Rows.laid_tollgate_hash_rounds), ("tollgate/old.sines", Rows.laid_tollgate_old_sines), ("tollgate/old.shifts", Rows.laid_tollgate_old_shifts)]
theorem tabsB_of_laid {W : World} (h : laidMetH Tryd.prog laidBoth W) : Tabs W ∧ TabsQ W := by
  rw [MakeChecks.laidMetH_plain _ _ _ (by kernel_rfl)] at h
  unfold laidBoth at h
  rw [first_data, rounds_data, sines_data, shifts_data] at h
  have h1 := Lib.tabIs_of_head (g := 0) (t := 48) (e := 47) (n := 8) (by kernel_rfl) (by kernel_rfl) Tryd.underlying48 Tryd.underlying47 (by kernel_rfl) (by kernel_rfl) h
  obtain ⟨ps, ⟨g0, t0, cs0, f0, p0, q0, hg0, ht0, hv0, hd0, ⟨g1, t1, cs1, f1, p1, q1, hg1, ht1, hv1, hd1, ⟨g2, t2, cs2, f2, p2, q2, hg2, ht2, hv2, hd2, ⟨g3, t3, cs3, f3, p3, q3, hg3, ht3, hv3, hd3, _, _⟩, _⟩, _⟩, _⟩, _, _⟩ := h
  have h2 : Lib.TabIs Tryd.prog W "tollgate/hash.rounds" .u32 (kTab.map fun x => (x.toNat : Int)) := by
    obtain rfl := Option.some.inj ((show Tryd.prog.globalNamed "tollgate/hash.rounds" = some 1 by kernel_rfl).symm.trans hg1)
    obtain rfl := Option.some.inj ((show (Tryd.prog.globals[1]?).map (·.type) = some 56 by kernel_rfl).symm.trans ht1)
    unfold Lib.TabIs
    rw [hv1, ← Lib.cells_of_tab Tryd.underlying56 Tryd.underlying47 (by kernel_rfl) (by kernel_rfl) hd1]
  have h3 : Lib.TabIs Tryd.prog W "tollgate/old.sines" .u32 (sineTab.map fun x => (x.toNat : Int)) := by
    obtain rfl := Option.some.inj ((show Tryd.prog.globalNamed "tollgate/old.sines" = some 2 by kernel_rfl).symm.trans hg2)
    obtain rfl := Option.some.inj ((show (Tryd.prog.globals[2]?).map (·.type) = some 56 by kernel_rfl).symm.trans ht2)
    unfold Lib.TabIs
    rw [hv2, ← Lib.cells_of_tab Tryd.underlying56 Tryd.underlying47 (by kernel_rfl) (by kernel_rfl) hd2]
  have h4 : Lib.TabIs Tryd.prog W "tollgate/old.shifts" .i64 (shiftTab.map fun x : Nat => (x : Int)) := by
    obtain rfl := Option.some.inj ((show Tryd.prog.globalNamed "tollgate/old.shifts" = some 3 by kernel_rfl).symm.trans hg3)
    obtain rfl := Option.some.inj ((show (Tryd.prog.globals[3]?).map (·.type) = some 79 by kernel_rfl).symm.trans ht3)
    unfold Lib.TabIs
    rw [hv3, ← Lib.cells_of_tab Tryd.underlying79 Tryd.underlying3 (by kernel_rfl) (by kernel_rfl) hd3]
  refine ⟨⟨fun i hi => ?_, fun i hi => ?_⟩, ⟨fun i hi => ?_, fun i hi => ?_⟩⟩
  · have := h1.cell (g := 0) (by kernel_rfl) i (by simpa [St.words] using hi)
    rw [getD_ints _ _ (by simpa [St.words] using hi)] at this
    exact this
  · have := h2.cell (g := 1) (by kernel_rfl) i (by simpa [kTab] using hi)
    rw [getD_ints _ _ (by simpa [kTab] using hi)] at this
    exact this
  · have := h3.cell (g := 2) (by kernel_rfl) i (by simpa [sineTab] using hi)
    rw [getD_ints _ _ (by simpa [sineTab] using hi)] at this
    exact this
  · have := h4.cell (g := 3) (by kernel_rfl) i (by simpa [shiftTab] using hi)
    rw [getD_nats _ _ (by simpa [shiftTab] using hi)] at this
    exact this
theorem door_metB (os : Os) (args : Array Value) : laidMetH Tryd.prog laidBoth ((World.doorLaid Tryd.prog 400 os).forCall (fun _ _ => 0) ⟨#[], args, []⟩).memory :=
  laidMetH_of_parts3 (fuel := 8) (laidMet_of_run' 8 (by kernel_rfl) (by kernel_rfl)) (by kernel_rfl) (by kernel_rfl)
end Go.Proofs.YtkiogpnjkmdmgaaDoor
