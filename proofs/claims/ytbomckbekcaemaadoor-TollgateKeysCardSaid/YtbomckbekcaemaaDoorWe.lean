/-
  Joined: QRef.
-/
import Derived.Test.YtbomckbekcaemaaDoorWc
import Derived.Test.YtbomckbekcaemaaDoorWb
import Derived.IntWalk
import Derived.Test.YtbomckbekcaemaaDoorWa
namespace Go.Proofs.YtbomckbekcaemaaDoor
section
open Go.RowKit
theorem info64r : (Tryd.prog.info? 118).map (·.size) = some (sineTab.map U32).length := by kernel_rfl
theorem info44 : (Tryd.prog.info? 137).map (·.size) = some 16 := by kernel_rfl
set_option maxRecDepth 100000 in
set_option maxHeartbeats 1000000 in
theorem sines_any (w : World) :
    Calls Tryd.prog 75 #[] w fun e w' => e = .returned (.agg (sineTab.map U32).toArray) ∧ Below w.heap.size w w' := by
  go_enter Tryd.func75, Tryd.ntmps75
  go_wp2_with ((with_reducible refine (?_ : wpList _ _ _ (Oper.mk none (.store 118 _ _) _ _ _ _ :: _) _ _)); go_loud (refine wpList_store_blk rfl 118 (.tmp 0) (.tmp 1) rfl rfl w.heap.size (sineTab.map U32) rfl (by kernel_rfl) 118 (List.replicate 64 (.int .u32 0)) (Blk.new_of w 118 _ (List.replicate 64 (.int .u32 0)) (by rfl)) info64r (by kernel_rfl) (one32 _) ?_); intro w1 hA hg1; have hb1 := below_new ((Below.refl w.heap.size w).alloc (Nat.le_refl _) _) hg1 (Nat.le_refl _) (by simp <;> omega); clear hg1)
  refine bodyPost_ret (v := .agg _) (results_cell_row rfl _ _ w.heap.size 118 _ (0, 0) _ rfl hA.raw Tryd.underlying118 rfl info64r) rfl ⟨rfl, hb1⟩
theorem cell_nats (L : List Nat) (j : Nat) (h : j < L.length) : (L.map fun x : Nat => Value.int .i64 (x : Int))[j]? = some (.int .i64 ((L.getD j 0 : Nat) : Int)) := by
  simp [List.getD_eq_getElem?_getD, h]
def turnCells : List Value := shiftTab.map fun x : Nat => .int .i64 (x : Int)
theorem cell_turn {w : World} {g j : Nat} {t : TypeId} (h : Blk w g t turnCells) (hj : j < 16) : w.cell? ⟨g, j, none⟩ = some (.int .i64 ((shiftTab.getD j 0 : Nat) : Int)) := by
  rw [h.cell]; exact cell_nats shiftTab j hj
set_option maxRecDepth 100000 in
set_option maxHeartbeats 1000000 in
theorem turns_any (i : Nat) (w : World) (hi : i < 64) :
    Calls Tryd.prog 76 #[.int .i64 (i : Int)] w fun e w' => e = .returned (.int .i64 (shiftOf i : Int)) ∧ Below w.heap.size w w' := by
  have q1 : ((i : Int) / 16) = ((i / 16 : Nat) : Int) := by omega
  have q2 : ((i : Int) % 4) = ((i % 4 : Nat) : Int) := by omega
  have q3 : ((i : Int).tdiv 16) = ((i / 16 : Nat) : Int) := by rw [Int.tdiv_eq_ediv_of_nonneg (by omega)]; exact q1
  have q4 : ((i : Int).tmod 4) = ((i % 4 : Nat) : Int) := by rw [Int.tmod_eq_emod_of_nonneg (by omega)]; exact q2
  have h1 : i / 16 < 4 := by omega
  have h2 : i % 4 < 4 := by omega
  have hs : shiftTab.getD (i / 16 * 4 + i % 4) 0 = shiftOf i := rfl
  obtain ⟨a, ha⟩ : ∃ a, a = i / 16 := ⟨_, rfl⟩
  obtain ⟨b, hb⟩ : ∃ b, b = i % 4 := ⟨_, rfl⟩
  rw [← ha] at q1 q3 h1 hs
  rw [← hb] at q2 q4 h2 hs
  clear ha hb
  generalize shiftOf i = sh at *
  go_enter Tryd.func76, Tryd.ntmps76
  have c1 : (w.alloc (.cells #[.int .i64 7, .int .i64 12, .int .i64 17, .int .i64 22, .int .i64 5, .int .i64 9, .int .i64 14, .int .i64 20, .int .i64 4, .int .i64 11, .int .i64 16, .int .i64 23, .int .i64 6, .int .i64 10, .int .i64 15, .int .i64 21] 137)).cell? ⟨w.heap.size, a * 4 + b, none⟩ = some (.int .i64 (sh : Int)) := by
    rw [← hs]; exact cell_turn (Blk.new_of w 137 _ turnCells (by rfl)) (by omega)
  have hb1 := (Below.refl w.heap.size w).alloc (Nat.le_refl _) (.cells #[.int .i64 7, .int .i64 12, .int .i64 17, .int .i64 22, .int .i64 5, .int .i64 9, .int .i64 14, .int .i64 20, .int .i64 4, .int .i64 11, .int .i64 16, .int .i64 23, .int .i64 6, .int .i64 10, .int .i64 15, .int .i64 21] 137)
  clear hs
  go_wp2
  go_ret
  exact ⟨rfl, hb1⟩

end
end Go.Proofs.YtbomckbekcaemaaDoor
