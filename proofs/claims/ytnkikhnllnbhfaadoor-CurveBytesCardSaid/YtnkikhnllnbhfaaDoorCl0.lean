/-
  What the walks of the curve's laws share.
-/
import Derived.Test.YtnkikhnllnbhfaaDoorCr5
namespace Go.Proofs.YtnkikhnllnbhfaaDoor
open Go.RowKit
open CurveMath

theorem built6_1n : Tryd.prog.built 29 [(0, .int .u64 1)] = some (nC oneP).toArray := by kernel_rfl
theorem red_order {n : P4} {v : Nat} (h : Hid (n = redP orderP v)) : n.val = v % nN := by
  rw [h.out, ← orderP_val]
  exact redP_val orderP_ok (by decide) _
theorem builtPtC {X Y : List UInt8} (hX : Hid (X.length = 32)) (hY : Hid (Y.length = 32)) : Tryd.prog.built 24 [(0, .agg (X.map B8).toArray), (1, .agg (Y.map B8).toArray)] = some (ptC X Y).toArray := builtPt _ _ (by rw [List.length_map, hX.out]) (by rw [List.length_map, hY.out])
theorem AddCP {X Y : List UInt8} {P R : Pt} {n m : Nat} {w : World} (hT : TabsC w) (hX : Hid (X.length = 32)) (hY : Hid (Y.length = 32)) (hS : Hid (Spots X Y n)) (hP : Hid (P = mulG m)) (hR : Hid (R = mulG (n + m))) :
    Calls Tryd.prog 24 #[.agg (ptC X Y).toArray, .agg (ptV P).toArray] w fun e w' => e = .returned (.agg (ptV R).toArray) ∧ Below w.heap.size w w' := by
  rw [ptV_eq P]
  exact AddS hT hX hY (Lib.hid (xB_length P)) (Lib.hid (yB_length P)) hS (Lib.hid (spots_of hP.out)) hR
end Go.Proofs.YtnkikhnllnbhfaaDoor
