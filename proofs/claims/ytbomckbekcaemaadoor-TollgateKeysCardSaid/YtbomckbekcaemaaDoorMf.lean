/-
  What a row that lists the tables of hash and old gives.
-/
import Derived.Test.YtbomckbekcaemaaDoorWd
import Derived.Test.YtbomckbekcaemaaDoorHh
import Derived.ProofKit
import Derived.OpenShut
import Derived.LaidMore
import Derived.Lib.LaidTab
import Derived.SevenTiedAt
import Derived.Stop.Joined
namespace Go.Proofs.YtbomckbekcaemaaDoor
open Go.ChangeShapes Go.WideShapes Go.ChangeAt Go.RowKit

theorem first_data : (Rows.laid_tollgate_hash_first : DataW Unit) = Lib.tabData .u32 (first.words.map fun x => (x.toNat : Int)) := by kernel_rfl
theorem rounds_data : (Rows.laid_tollgate_hash_rounds : DataW Unit) = Lib.tabData .u32 (kTab.map fun x => (x.toNat : Int)) := by kernel_rfl
theorem bytes32_of_trod2 {H : Type} {enc : TypeId × Value → H} {W : World} {v : Value} {d : DataW H} {p : List MemPlace}
    (h : DataW.Trod enc Tryd.prog W 0 (fun _ => true) true 82 v d p) : ∃ xs : List UInt8, xs.length = 32 ∧ v = .agg (xs.map B8).toArray := by
  obtain ⟨xs, hl, rfl, hw⟩ := ints_of_trod (n := 32) (by decide) Tryd.underlying82 Tryd.underlying5 (by kernel_rfl) (by kernel_rfl) h
  refine ⟨xs.map fun z => UInt8.ofNat z.toNat, by rw [List.length_map, hl], ?_⟩
  congr 2
  rw [List.map_map]
  apply List.map_congr_left
  intro z hz
  obtain ⟨i, hi, rfl⟩ := List.getElem_of_mem hz
  have h1 := hw i (by omega)
  rw [List.getD_eq_getElem?_getD, List.getElem?_eq_getElem hi] at h1
  simp [Lit.wf, IntKind.min, IntKind.max, IntKind.signed, IntKind.bits] at h1
  show Value.int .u8 xs[i] = .int .u8 (((UInt8.ofNat xs[i].toNat).toNat : Nat) : Int)
  congr 1
  rw [UInt8.toNat_ofNat']
  omega
theorem keys2_of_trod {H : Type} {enc : TypeId × Value → H} {W : World} {v : Value} {d : DataW H} {p : List MemPlace}
    (h : DataW.Trod enc Tryd.prog W 0 (fun _ => true) true 83 v d p) : ∃ X Y : List UInt8, X.length = 32 ∧ Y.length = 32 ∧ v = .agg ((X ++ Y).map B8).toArray := by
  obtain ⟨fuel, hf⟩ := h
  obtain ⟨ys, m, _, _, hcl, hyl, hel⟩ := DataW.trod_array Tryd.underlying83 hf
  have c64 : Tryd.prog.cellsOf 83 = 64 := by kernel_rfl
  have c32 : Tryd.prog.cellsOf 82 = 32 := by kernel_rfl
  rw [c64] at hcl
  obtain ⟨cs, rfl⟩ : ∃ cs, v = .agg cs := by
    cases v with
    | agg cs => exact ⟨cs, rfl⟩
    | _ => simp [Value.cells] at hcl
  simp only [Value.cells] at hel hcl
  rw [c32] at hel
  match ys, hyl with
  | [y0, y1], _ =>
    have h0 := hel 0 (by decide)
    have h1 := hel 1 (by decide)
    obtain ⟨X, hX, eX⟩ := bytes32_of_trod2 (v := .agg ((cs.toList.drop (0 * 32)).take 32).toArray) (d := y0.1) (p := y0.2) ⟨m, by simpa [Value.cells] using h0⟩
    obtain ⟨Y, hY, eY⟩ := bytes32_of_trod2 (v := .agg ((cs.toList.drop (1 * 32)).take 32).toArray) (d := y1.1) (p := y1.2) ⟨m, by simpa [Value.cells] using h1⟩
    have e1 : cs.toList.take 32 = X.map B8 := by have := congrArg (fun v => match v with | Value.agg a => a.toList | _ => []) eX; simpa using this
    have e2 : (cs.toList.drop 32).take 32 = Y.map B8 := by have := congrArg (fun v => match v with | Value.agg a => a.toList | _ => []) eY; simpa using this
    refine ⟨X, Y, hX, hY, congrArg Value.agg (Array.toList_inj.1 ?_)⟩
    rw [List.map_append, ← e1, ← e2, List.take_of_length_le (l := cs.toList.drop 32) (by rw [List.length_drop]; omega)]
    exact (List.take_append_drop 32 _).symm
def laidBoth : List (String × DataW Unit) := [("tollgate/hash.first", Rows.laid_tollgate_hash_first), ("tollgate/hash.rounds", Rows.laid_tollgate_hash_rounds), ("tollgate/old.sines", Rows.laid_tollgate_old_sines), ("tollgate/old.shifts", Rows.laid_tollgate_old_shifts)]
theorem tabsB_of_laid {W : World} (h : laidMetH Tryd.prog laidBoth W) : Tabs W ∧ TabsQ W := by
  rw [MakeChecks.laidMetH_plain _ _ _ (by kernel_rfl)] at h
  unfold laidBoth at h
  rw [first_data, rounds_data, sines_data, shifts_data] at h
  have h1 := Lib.tabIs_of_head (g := 0) (t := 138) (e := 117) (n := 8) (by kernel_rfl) (by kernel_rfl) Tryd.underlying138 Tryd.underlying117 (by kernel_rfl) (by kernel_rfl) h
  obtain ⟨ps, ⟨g0, t0, cs0, f0, p0, q0, hg0, ht0, hv0, hd0, ⟨g1, t1, cs1, f1, p1, q1, hg1, ht1, hv1, hd1, ⟨g2, t2, cs2, f2, p2, q2, hg2, ht2, hv2, hd2, ⟨g3, t3, cs3, f3, p3, q3, hg3, ht3, hv3, hd3, _, _⟩, _⟩, _⟩, _⟩, _, _⟩ := h
  have h2 : Lib.TabIs Tryd.prog W "tollgate/hash.rounds" .u32 (kTab.map fun x => (x.toNat : Int)) := by
    obtain rfl := Option.some.inj ((show Tryd.prog.globalNamed "tollgate/hash.rounds" = some 3 by kernel_rfl).symm.trans hg1)
    obtain rfl := Option.some.inj ((show (Tryd.prog.globals[3]?).map (·.type) = some 118 by kernel_rfl).symm.trans ht1)
    unfold Lib.TabIs
    rw [hv1, ← Lib.cells_of_tab Tryd.underlying118 Tryd.underlying117 (by kernel_rfl) (by kernel_rfl) hd1]
  have h3 : Lib.TabIs Tryd.prog W "tollgate/old.sines" .u32 (sineTab.map fun x => (x.toNat : Int)) := by
    obtain rfl := Option.some.inj ((show Tryd.prog.globalNamed "tollgate/old.sines" = some 1 by kernel_rfl).symm.trans hg2)
    obtain rfl := Option.some.inj ((show (Tryd.prog.globals[1]?).map (·.type) = some 118 by kernel_rfl).symm.trans ht2)
    unfold Lib.TabIs
    rw [hv2, ← Lib.cells_of_tab Tryd.underlying118 Tryd.underlying117 (by kernel_rfl) (by kernel_rfl) hd2]
  have h4 : Lib.TabIs Tryd.prog W "tollgate/old.shifts" .i64 (shiftTab.map fun x : Nat => (x : Int)) := by
    obtain rfl := Option.some.inj ((show Tryd.prog.globalNamed "tollgate/old.shifts" = some 2 by kernel_rfl).symm.trans hg3)
    obtain rfl := Option.some.inj ((show (Tryd.prog.globals[2]?).map (·.type) = some 147 by kernel_rfl).symm.trans ht3)
    unfold Lib.TabIs
    rw [hv3, ← Lib.cells_of_tab Tryd.underlying147 Tryd.underlying3 (by kernel_rfl) (by kernel_rfl) hd3]
  refine ⟨⟨fun i hi => ?_, fun i hi => ?_⟩, ⟨fun i hi => ?_, fun i hi => ?_⟩⟩
  · have := h1.cell (g := 0) (by kernel_rfl) i (by simpa [St.words] using hi)
    rw [getD_ints _ _ (by simpa [St.words] using hi)] at this
    exact this
  · have := h2.cell (g := 3) (by kernel_rfl) i (by simpa [kTab] using hi)
    rw [getD_ints _ _ (by simpa [kTab] using hi)] at this
    exact this
  · have := h3.cell (g := 1) (by kernel_rfl) i (by simpa [sineTab] using hi)
    rw [getD_ints _ _ (by simpa [sineTab] using hi)] at this
    exact this
  · have := h4.cell (g := 2) (by kernel_rfl) i (by simpa [shiftTab] using hi)
    rw [getD_nats _ _ (by simpa [shiftTab] using hi)] at this
    exact this
theorem door_metB (os : Os) (args : Array Value) : laidMetH Tryd.prog laidBoth ((World.doorLaid Tryd.prog 400 os).forCall (fun _ _ => 0) ⟨#[], args, []⟩).memory :=
  laidMetH_of_parts3 (fuel := 8) (laidMet_of_run' 8 (by kernel_rfl) (by kernel_rfl)) (by kernel_rfl) (by kernel_rfl)
end Go.Proofs.YtbomckbekcaemaaDoor
