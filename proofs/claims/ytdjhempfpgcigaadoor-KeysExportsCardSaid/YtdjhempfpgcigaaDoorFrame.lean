/-
  What the rows of layer 1 give the walks: the two listed tables; slices of bytes that came in.
-/
import Derived.Test.YtdjhempfpgcigaaDoorRows
import Derived.Test.YtdjhempfpgcigaaDoorTie
import Derived.Test.YtdjhempfpgcigaaDoorCards
import Derived.Test.YtdjhempfpgcigaaDoorIn
import Derived.ProofKit
import Derived.OpenShut
import Derived.LaidMore
import Derived.Lib.LaidTab
import Derived.SevenTiedAt
import Derived.Stop.Joined
namespace Go.Proofs.YtdjhempfpgcigaaDoor
open Go.ChangeShapes Go.WideShapes Go.ChangeAt Go.RowKit

theorem own : ownKnob Tryd.prog.godebug = none := by kernel_rfl
theorem laidOut : laidOutB Tryd.prog = true := by kernel_rfl
def laidHash : List (String × DataW Unit) := [("tollgate/hash.first", Rows.laid_tollgate_hash_first), ("tollgate/hash.rounds", Rows.laid_tollgate_hash_rounds)]
theorem first_data : (Rows.laid_tollgate_hash_first : DataW Unit) = Lib.tabData .u32 (first.words.map fun x => (x.toNat : Int)) := by kernel_rfl
theorem rounds_data : (Rows.laid_tollgate_hash_rounds : DataW Unit) = Lib.tabData .u32 (kTab.map fun x => (x.toNat : Int)) := by kernel_rfl
theorem getD_ints (L : List UInt32) (i : Nat) (h : i < L.length) : (L.map fun x => (x.toNat : Int)).getD i 0 = ((L.getD i 0).toNat : Int) := by
  simp [List.getD_eq_getElem?_getD, List.getElem?_map, List.getElem?_eq_getElem h]
theorem tabs_of_laid {W : World} (h : laidMetH Tryd.prog laidHash W) : Tabs W := by
  rw [MakeChecks.laidMetH_plain _ _ _ (by kernel_rfl)] at h
  unfold laidHash at h
  rw [first_data, rounds_data] at h
  have h1 := Lib.tabIs_of_head (g := 0) (t := 59) (e := 58) (n := 8) (by kernel_rfl) (by kernel_rfl) Tryd.underlying59 Tryd.underlying58 (by kernel_rfl) (by kernel_rfl) h
  have h2 : Lib.TabIs Tryd.prog W "tollgate/hash.rounds" .u32 (kTab.map fun x => (x.toNat : Int)) := by
    obtain ⟨ps, ⟨g0, t0, cs0, f0, p0, q0, hg0, ht0, hv0, hd0, ⟨g1, t1, cs1, f1, p1, q1, hg1, ht1, hv1, hd1, _, _⟩, _⟩, _, _⟩ := h
    obtain rfl := Option.some.inj ((show Tryd.prog.globalNamed "tollgate/hash.rounds" = some 1 by kernel_rfl).symm.trans hg1)
    obtain rfl := Option.some.inj ((show (Tryd.prog.globals[1]?).map (·.type) = some 60 by kernel_rfl).symm.trans ht1)
    unfold Lib.TabIs
    rw [hv1, ← Lib.cells_of_tab Tryd.underlying60 Tryd.underlying58 (by kernel_rfl) (by kernel_rfl) hd1]
  constructor
  · intro i hi
    have := h1.cell (g := 0) (by kernel_rfl) i (by simpa [St.words] using hi)
    rw [getD_ints _ _ (by simpa [St.words] using hi)] at this
    exact this
  · intro i hi
    have := h2.cell (g := 1) (by kernel_rfl) i (by simpa [kTab] using hi)
    rw [getD_ints _ _ (by simpa [kTab] using hi)] at this
    exact this
theorem door_met (os : Os) (args : Array Value) : laidMetH Tryd.prog laidHash ((World.doorLaid Tryd.prog 400 os).forCall (fun _ _ => 0) ⟨#[], args, []⟩).memory :=
  laidMetH_of_parts3 (fuel := 8) (laidMet_of_run' 8 (by kernel_rfl) (by kernel_rfl)) (by kernel_rfl) (by kernel_rfl)

/-- A slice of bytes that reads comes in as bytes. -/
theorem in_of_trod {H : Type} {enc : TypeId × Value → H} {W : World} {a : Option Addr} {len cap : Nat} {d : DataW H} {p : List MemPlace}
    (h : DataW.Trod enc Tryd.prog W 0 (fun _ => true) true 26 (.slice a len cap) d p) : ∃ xs : List UInt8, xs.length = len ∧ In W W.heap.size a cap xs := by
  obtain ⟨fuel, hf⟩ := h
  rcases open_ints Tryd.underlying26 Tryd.underlying5 (by kernel_rfl) hf with ⟨hcs, _⟩ | ⟨x, l, c, zs, hcs, _, hl, hm, hz, _, hcell, hwz⟩
  · simp [Value.cells] at hcs
    obtain ⟨rfl, rfl, rfl⟩ := hcs
    exact ⟨[], rfl, by simp, by omega, fun h => absurd h (by simp)⟩
  · simp [Value.cells] at hcs
    obtain ⟨rfl, rfl, rfl⟩ := hcs
    have hzc : zs.length = cap := by simpa using hz
    refine ⟨(zs.take len).map fun n => UInt8.ofNat n.toNat, by simp; omega, by simp; omega, by simpa [maxLen] using hm, fun h0 => ?_⟩
    have h0' : 0 < zs.length := by simp at h0; omega
    obtain ⟨b, off, rfl, hc⟩ := ints_at hcell h0'
    refine ⟨b, off, rfl, block_lt_of_cell (hc 0 h0'), fun j hj => ?_⟩
    have hj' : j < zs.length := by simp at hj; omega
    have hjl : j < len := by simp at hj; omega
    rw [hc j hj']
    have hw := hwz (zs.getD j 0) (by rw [List.getD_eq_getElem?_getD, List.getElem?_eq_getElem hj']; exact List.getElem_mem _)
    have hb : 0 ≤ zs.getD j 0 ∧ zs.getD j 0 ≤ 255 := by simpa [Lit.wf, IntKind.min, IntKind.max, IntKind.signed, IntKind.bits] using hw
    have e : ((zs.take len).map fun n => UInt8.ofNat n.toNat).getD j 0 = UInt8.ofNat (zs.getD j 0).toNat := by
      simp [List.getD_eq_getElem?_getD, hjl, List.getElem?_eq_getElem hj']
    rw [e]
    have e2 : ((UInt8.ofNat (zs.getD j 0).toNat).toNat : Int) = zs.getD j 0 := by
      rw [UInt8.toNat_ofNat']
      omega
    rw [e2]
end Go.Proofs.YtdjhempfpgcigaaDoor
