/-
  The walk of the statement MacDerives.
-/
import Derived.Test.YtddfboomjcnpcaaDoorDerives1
import Derived.Test.YtddfboomjcnpcaaDoorDerives2
namespace Go.Proofs.YtddfboomjcnpcaaDoor
open Go.RowKit

theorem macDerives_walk (A : Option Addr) (ca : Nat) (key xl lab : List UInt8) (w : World) (hk : key.length = 32) (ia : In w w.heap.size A ca xl) (ht : Tabs w) :
    Calls Tryd.prog 10 #[.agg (key.map B8).toArray, .slice A xl.length ca, .string ⟨lab.toArray⟩] w fun e w' => e = .returned (.bool true) ∧ Below w.heap.size w w' := by
  by_cases h : 64 < (xl.take 200).length
  · exact macDerives_long A ca key xl lab w hk ia ht h
  · exact macDerives_short A ca key xl lab w hk ia ht h
end Go.Proofs.YtddfboomjcnpcaaDoor
