/-
  Seal and Open of no key: sixteen noughts.
-/
import Derived.Test.YtefbjhdcmgonbaaBKnown
namespace Go.Proofs.Ytefbjhdcmgonbaa
open Go.RowKit

set_option maxRecDepth 100000 in
set_option maxHeartbeats 4000000 in
theorem seal_nil (b : List UInt8) (w : World) (_hb16 : b.length = 16) :
    Calls Try.prog 21 #[.pointer none, BV b] w fun e w' => e = .returned (BV zero16) ∧ Below w.heap.size w w' := by
  have hz : ∀ W : World, (zeroValue 42).run Try.prog W = .ok (BV zero16) W := fun W => by kernel_rfl
  go_enter Try.func21, Try.ntmps21
  have hO0 := Blk.new2_of w (.cells (b.map B8).toArray 42) 42 (zero16.map B8).toArray (zero16.map B8) rfl
  have hbw := ((Below.refl w.heap.size w).alloc (Nat.le_refl _) (.cells (b.map B8).toArray 42)).alloc (by simp) (.cells (zero16.map B8).toArray 42)
  go_wp2_with (first
    | (go_at_call 36; refine (empty_nil _).mono ?_; rintro e we ⟨rfl, hwe⟩; subst hwe; generalize (w.alloc (.cells (b.map B8).toArray 42)).alloc (.cells (zero16.map B8).toArray 42) = wq at *)
    | (refine wpList_store_blk rfl 42 (.tmp 4) (.tmp 11) rfl rfl (w.heap.size + 1) _ rfl rfl 42 _ hO0 (infoBk.trans (by rfl)) (by rfl) (one8 _) ?_; intro w7 hA7 hg7))
  refine bodyPost_ret (v := .agg _) (results_cell_row rfl _ _ (w.heap.size + 1) 42 _ (0, 0) _ rfl hA7.raw Try.underlying42 rfl (infoBk.trans (by rfl))) rfl ⟨rfl, below_new hbw hg7 (by omega) hbw.size⟩
set_option maxRecDepth 100000 in
set_option maxHeartbeats 4000000 in
theorem open_nil (b : List UInt8) (w : World) (_hb16 : b.length = 16) :
    Calls Try.prog 22 #[.pointer none, BV b] w fun e w' => e = .returned (BV zero16) ∧ Below w.heap.size w w' := by
  have hz : ∀ W : World, (zeroValue 42).run Try.prog W = .ok (BV zero16) W := fun W => by kernel_rfl
  go_enter Try.func22, Try.ntmps22
  have hO0 := Blk.new2_of w (.cells (b.map B8).toArray 42) 42 (zero16.map B8).toArray (zero16.map B8) rfl
  have hbw := ((Below.refl w.heap.size w).alloc (Nat.le_refl _) (.cells (b.map B8).toArray 42)).alloc (by simp) (.cells (zero16.map B8).toArray 42)
  go_wp2_with (first
    | (go_at_call 36; refine (empty_nil _).mono ?_; rintro e we ⟨rfl, hwe⟩; subst hwe; generalize (w.alloc (.cells (b.map B8).toArray 42)).alloc (.cells (zero16.map B8).toArray 42) = wq at *)
    | (refine wpList_store_blk rfl 42 (.tmp 4) (.tmp 10) rfl rfl (w.heap.size + 1) _ rfl rfl 42 _ hO0 (infoBk.trans (by rfl)) (by rfl) (one8 _) ?_; intro w7 hA7 hg7))
  refine bodyPost_ret (v := .agg _) (results_cell_row rfl _ _ (w.heap.size + 1) 42 _ (0, 0) _ rfl hA7.raw Try.underlying42 rfl (infoBk.trans (by rfl))) rfl ⟨rfl, below_new hbw hg7 (by omega) hbw.size⟩
end Go.Proofs.Ytefbjhdcmgonbaa
