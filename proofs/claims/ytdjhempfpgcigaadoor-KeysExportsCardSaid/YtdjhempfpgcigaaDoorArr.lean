/-
  Plain words for an array of bytes that comes in by value.
-/
import Derived.Test.YtdjhempfpgcigaaDoorFrame
namespace Go.Proofs.YtdjhempfpgcigaaDoor
open Go.ChangeShapes Go.WideShapes Go.ChangeAt Go.RowKit

/-- The byte that a value is. -/
def byteOf : Option Value → UInt8
  | some (.int _ n) => UInt8.ofNat n.toNat
  | _ => 0
/-- An array of 32 bytes that reads comes in as bytes. -/
theorem arr32_of_trod {H : Type} {enc : TypeId × Value → H} {W : World} {v : Value} {d : DataW H} {p : List MemPlace}
    (h : DataW.Trod enc Tryd.prog W 0 (fun _ => true) true 22 v d p) : ∃ xs : List UInt8, xs.length = 32 ∧ v = .agg (xs.map B8).toArray := by
  obtain ⟨fuel, hf⟩ := h
  obtain ⟨ys, m, _, _, hcl, hyl, hel⟩ := DataW.trod_array Tryd.underlying22 hf
  have c1 : Tryd.prog.cellsOf 5 = 1 := by kernel_rfl
  have c32 : Tryd.prog.cellsOf 22 = 32 := by kernel_rfl
  rw [c32] at hcl
  have hone : ∀ i, i < 32 → ∃ n : Int, v.cells.toList[i]? = some (.int .u8 n) ∧ 0 ≤ n ∧ n ≤ 255 := fun i hi => by
    have h1 := hel i hi
    rw [c1, Nat.mul_one] at h1
    rw [List.getElem?_eq_getElem (by omega)] at h1
    obtain ⟨n, e1, _, hw⟩ := DataW.trod_int Tryd.underlying5 h1
    refine ⟨n, ?_, by simpa [Lit.wf, IntKind.min, IntKind.max, IntKind.signed, IntKind.bits] using hw⟩
    have e2 := congrArg (fun l => l[0]?) e1
    simpa [List.getElem?_take, List.getElem?_drop] using e2
  have hv : ∃ cs, v = .agg cs := by
    cases v with
    | agg cs => exact ⟨cs, rfl⟩
    | _ => simp [Value.cells] at hcl
  obtain ⟨cs, rfl⟩ := hv
  simp only [Value.cells] at hone hcl
  refine ⟨(List.range 32).map fun i => byteOf cs.toList[i]?, by simp, ?_⟩
  congr 1
  apply Array.toList_inj.1
  apply List.ext_getElem?
  intro i
  by_cases hi : i < 32
  · obtain ⟨n, e, h0, h1⟩ := hone i hi
    rw [e]
    simp only [List.map_map, List.getElem?_map, List.getElem?_range hi, Option.map_some, Function.comp, e, byteOf]
    have e2 : ((UInt8.ofNat n.toNat).toNat : Int) = n := by
      rw [UInt8.toNat_ofNat']
      omega
    exact congrArg (fun z => some (Value.int .u8 z)) e2.symm
  · rw [List.getElem?_eq_none (by omega), List.getElem?_eq_none (by simp; omega)]
end Go.Proofs.YtdjhempfpgcigaaDoor
