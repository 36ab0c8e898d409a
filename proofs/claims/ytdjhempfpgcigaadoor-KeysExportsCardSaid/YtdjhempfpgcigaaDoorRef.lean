/-
  The contract of the document's own constants for layer 1.
-/
import Derived.Test.YtdjhempfpgcigaaDoorBuf
import Derived.Test.YtdjhempfpgcigaaDoorPads
namespace Go.Proofs.YtdjhempfpgcigaaDoor
open Go.RowKit

theorem info63r : (Tryd.prog.info? 59).map (·.size) = some first.vals.length := by kernel_rfl
theorem info64s : (Tryd.prog.info? 60).map (·.size) = some (kTab.map U32).length := by kernel_rfl
theorem one63r : first.vals.toArray.all (·.oneCell') = true := by decide +kernel

set_option maxRecDepth 100000 in
set_option maxHeartbeats 1000000 in
theorem constants_any (w : World) :
    Calls Tryd.prog 43 #[] w fun e w' => e = .returned (.tuple #[.agg first.vals.toArray, .agg (kTab.map U32).toArray]) ∧ Below w.heap.size w w' := by
  go_enter Tryd.func43, Tryd.ntmps43
  go_wp2_with (first
    | ((with_reducible refine (?_ : wpList _ _ _ (Oper.mk none (.store 59 _ _) _ _ _ _ :: _) _ _)); go_loud (refine wpList_store_blk rfl 59 (.tmp 0) (.tmp 2) rfl rfl w.heap.size first.vals rfl (by kernel_rfl) 59 (List.replicate 8 (.int .u32 0)) ((Blk.new_of w 59 _ (List.replicate 8 (.int .u32 0)) (by rfl)).alloc _) info63r (by rfl) one63r ?_); intro w1 hA hg1; have hB1 := (Blk.new2_of w _ 60 _ (List.replicate 64 (.int .u32 0)) (by rfl)).grown hg1 (by simp); have hb1 := below_new (((Below.refl w.heap.size w).alloc (Nat.le_refl _) _).alloc (by simp) _) hg1 (Nat.le_refl _) (by simp <;> omega); clear hg1)
    | ((with_reducible refine (?_ : wpList _ _ _ (Oper.mk none (.store 60 _ _) _ _ _ _ :: _) _ _)); go_loud (refine wpList_store_blk rfl 60 (.tmp 1) (.tmp 3) rfl rfl (w.heap.size + 1) (kTab.map U32) rfl (by kernel_rfl) 60 (List.replicate 64 (.int .u32 0)) hB1 info64s (by kernel_rfl) (one32 _) ?_); intro w2 hB hg2; have hA2 := hA.grown hg2 (by simp); have hb2 := below_new hb1 hg2 (by omega) hb1.size; clear hg2))
  refine bodyPost_ret (results_two rfl _ _ w.heap.size (w.heap.size + 1) 0 0 first.vals (kTab.map U32) _ _ rfl rfl (rangeAt_of_blk hA2) (rangeAt_of_blk hB) Tryd.underlying59 rfl info63r Tryd.underlying60 rfl info64s) rfl ⟨rfl, hb2⟩
end Go.Proofs.YtdjhempfpgcigaaDoor
