/-
  The contract of the group's choice.
-/
import Derived.Test.YtnkikhnllnbhfaaDoorCw2
import Derived.StillTailTactics
import Derived.BigRegion
import Derived.IntWalk
namespace Go.Proofs.YtnkikhnllnbhfaaDoor
open Go.RowKit
open CurveMath

set_option maxRecDepth 100000 in
set_option maxHeartbeats 2000000 in
theorem chooseS_1 (px py pz qx qy qz : P4) (w : World) (hpx : px.ok) (hpy : py.ok) (hpz : pz.ok) (hqx : qx.ok) (hqy : qy.ok) (hqz : qz.ok) :
    Calls Tryd.prog 56 #[.int .i64 1, .agg #[.int .u64 (px.a : Int), .int .u64 (px.b : Int), .int .u64 (px.c : Int), .int .u64 (px.d : Int), .int .u64 (py.a : Int), .int .u64 (py.b : Int), .int .u64 (py.c : Int), .int .u64 (py.d : Int), .int .u64 (pz.a : Int), .int .u64 (pz.b : Int), .int .u64 (pz.c : Int), .int .u64 (pz.d : Int)], .agg #[.int .u64 (qx.a : Int), .int .u64 (qx.b : Int), .int .u64 (qx.c : Int), .int .u64 (qx.d : Int), .int .u64 (qy.a : Int), .int .u64 (qy.b : Int), .int .u64 (qy.c : Int), .int .u64 (qy.d : Int), .int .u64 (qz.a : Int), .int .u64 (qz.b : Int), .int .u64 (qz.c : Int), .int .u64 (qz.d : Int)]] w fun e w' => e = .returned (.agg #[.int .u64 (px.a : Int), .int .u64 (px.b : Int), .int .u64 (px.c : Int), .int .u64 (px.d : Int), .int .u64 (py.a : Int), .int .u64 (py.b : Int), .int .u64 (py.c : Int), .int .u64 (py.d : Int), .int .u64 (pz.a : Int), .int .u64 (pz.b : Int), .int .u64 (pz.c : Int), .int .u64 (pz.d : Int)]) ∧ Below w.heap.size w w' := by
  go_enter Tryd.func56, Tryd.ntmps56
  go_upto_region 1 with (fail)
  obtain ⟨g2, hg2⟩ : ∃ g2, g2 = w.heap.size + 1 + 1 := ⟨_, rfl⟩
  obtain ⟨g1, hg1⟩ : ∃ g1, g1 = w.heap.size + 1 := ⟨_, rfl⟩
  obtain ⟨g0, hg0⟩ : ∃ g0, g0 = w.heap.size := ⟨_, rfl⟩
  have bg0 : Blk (((w.alloc (.cells #[.int .u64 (px.a : Int), .int .u64 (px.b : Int), .int .u64 (px.c : Int), .int .u64 (px.d : Int), .int .u64 (py.a : Int), .int .u64 (py.b : Int), .int .u64 (py.c : Int), .int .u64 (py.d : Int), .int .u64 (pz.a : Int), .int .u64 (pz.b : Int), .int .u64 (pz.c : Int), .int .u64 (pz.d : Int)] 67)).alloc (.cells #[.int .u64 (qx.a : Int), .int .u64 (qx.b : Int), .int .u64 (qx.c : Int), .int .u64 (qx.d : Int), .int .u64 (qy.a : Int), .int .u64 (qy.b : Int), .int .u64 (qy.c : Int), .int .u64 (qy.d : Int), .int .u64 (qz.a : Int), .int .u64 (qz.b : Int), .int .u64 (qz.c : Int), .int .u64 (qz.d : Int)] 67)).alloc (.cells #[.int .u64 0, .int .u64 0, .int .u64 0, .int .u64 0, .int .u64 0, .int .u64 0, .int .u64 0, .int .u64 0, .int .u64 0, .int .u64 0, .int .u64 0, .int .u64 0] 67)) g0 67 ([.int .u64 (px.a : Int), .int .u64 (px.b : Int), .int .u64 (px.c : Int), .int .u64 (px.d : Int), .int .u64 (py.a : Int), .int .u64 (py.b : Int), .int .u64 (py.c : Int), .int .u64 (py.d : Int), .int .u64 (pz.a : Int), .int .u64 (pz.b : Int), .int .u64 (pz.c : Int), .int .u64 (pz.d : Int)]) := by rw [hg0]; exact blk_allocs [.cells #[.int .u64 (px.a : Int), .int .u64 (px.b : Int), .int .u64 (px.c : Int), .int .u64 (px.d : Int), .int .u64 (py.a : Int), .int .u64 (py.b : Int), .int .u64 (py.c : Int), .int .u64 (py.d : Int), .int .u64 (pz.a : Int), .int .u64 (pz.b : Int), .int .u64 (pz.c : Int), .int .u64 (pz.d : Int)] 67, .cells #[.int .u64 (qx.a : Int), .int .u64 (qx.b : Int), .int .u64 (qx.c : Int), .int .u64 (qx.d : Int), .int .u64 (qy.a : Int), .int .u64 (qy.b : Int), .int .u64 (qy.c : Int), .int .u64 (qy.d : Int), .int .u64 (qz.a : Int), .int .u64 (qz.b : Int), .int .u64 (qz.c : Int), .int .u64 (qz.d : Int)] 67, .cells #[.int .u64 0, .int .u64 0, .int .u64 0, .int .u64 0, .int .u64 0, .int .u64 0, .int .u64 0, .int .u64 0, .int .u64 0, .int .u64 0, .int .u64 0, .int .u64 0] 67] w 0 67 ([.int .u64 (px.a : Int), .int .u64 (px.b : Int), .int .u64 (px.c : Int), .int .u64 (px.d : Int), .int .u64 (py.a : Int), .int .u64 (py.b : Int), .int .u64 (py.c : Int), .int .u64 (py.d : Int), .int .u64 (pz.a : Int), .int .u64 (pz.b : Int), .int .u64 (pz.c : Int), .int .u64 (pz.d : Int)]) rfl
  have bg1 : Blk (((w.alloc (.cells #[.int .u64 (px.a : Int), .int .u64 (px.b : Int), .int .u64 (px.c : Int), .int .u64 (px.d : Int), .int .u64 (py.a : Int), .int .u64 (py.b : Int), .int .u64 (py.c : Int), .int .u64 (py.d : Int), .int .u64 (pz.a : Int), .int .u64 (pz.b : Int), .int .u64 (pz.c : Int), .int .u64 (pz.d : Int)] 67)).alloc (.cells #[.int .u64 (qx.a : Int), .int .u64 (qx.b : Int), .int .u64 (qx.c : Int), .int .u64 (qx.d : Int), .int .u64 (qy.a : Int), .int .u64 (qy.b : Int), .int .u64 (qy.c : Int), .int .u64 (qy.d : Int), .int .u64 (qz.a : Int), .int .u64 (qz.b : Int), .int .u64 (qz.c : Int), .int .u64 (qz.d : Int)] 67)).alloc (.cells #[.int .u64 0, .int .u64 0, .int .u64 0, .int .u64 0, .int .u64 0, .int .u64 0, .int .u64 0, .int .u64 0, .int .u64 0, .int .u64 0, .int .u64 0, .int .u64 0] 67)) g1 67 ([.int .u64 (qx.a : Int), .int .u64 (qx.b : Int), .int .u64 (qx.c : Int), .int .u64 (qx.d : Int), .int .u64 (qy.a : Int), .int .u64 (qy.b : Int), .int .u64 (qy.c : Int), .int .u64 (qy.d : Int), .int .u64 (qz.a : Int), .int .u64 (qz.b : Int), .int .u64 (qz.c : Int), .int .u64 (qz.d : Int)]) := by rw [hg1]; exact blk_allocs [.cells #[.int .u64 (px.a : Int), .int .u64 (px.b : Int), .int .u64 (px.c : Int), .int .u64 (px.d : Int), .int .u64 (py.a : Int), .int .u64 (py.b : Int), .int .u64 (py.c : Int), .int .u64 (py.d : Int), .int .u64 (pz.a : Int), .int .u64 (pz.b : Int), .int .u64 (pz.c : Int), .int .u64 (pz.d : Int)] 67, .cells #[.int .u64 (qx.a : Int), .int .u64 (qx.b : Int), .int .u64 (qx.c : Int), .int .u64 (qx.d : Int), .int .u64 (qy.a : Int), .int .u64 (qy.b : Int), .int .u64 (qy.c : Int), .int .u64 (qy.d : Int), .int .u64 (qz.a : Int), .int .u64 (qz.b : Int), .int .u64 (qz.c : Int), .int .u64 (qz.d : Int)] 67, .cells #[.int .u64 0, .int .u64 0, .int .u64 0, .int .u64 0, .int .u64 0, .int .u64 0, .int .u64 0, .int .u64 0, .int .u64 0, .int .u64 0, .int .u64 0, .int .u64 0] 67] w 1 67 ([.int .u64 (qx.a : Int), .int .u64 (qx.b : Int), .int .u64 (qx.c : Int), .int .u64 (qx.d : Int), .int .u64 (qy.a : Int), .int .u64 (qy.b : Int), .int .u64 (qy.c : Int), .int .u64 (qy.d : Int), .int .u64 (qz.a : Int), .int .u64 (qz.b : Int), .int .u64 (qz.c : Int), .int .u64 (qz.d : Int)]) rfl
  have bg2 : Blk (((w.alloc (.cells #[.int .u64 (px.a : Int), .int .u64 (px.b : Int), .int .u64 (px.c : Int), .int .u64 (px.d : Int), .int .u64 (py.a : Int), .int .u64 (py.b : Int), .int .u64 (py.c : Int), .int .u64 (py.d : Int), .int .u64 (pz.a : Int), .int .u64 (pz.b : Int), .int .u64 (pz.c : Int), .int .u64 (pz.d : Int)] 67)).alloc (.cells #[.int .u64 (qx.a : Int), .int .u64 (qx.b : Int), .int .u64 (qx.c : Int), .int .u64 (qx.d : Int), .int .u64 (qy.a : Int), .int .u64 (qy.b : Int), .int .u64 (qy.c : Int), .int .u64 (qy.d : Int), .int .u64 (qz.a : Int), .int .u64 (qz.b : Int), .int .u64 (qz.c : Int), .int .u64 (qz.d : Int)] 67)).alloc (.cells #[.int .u64 0, .int .u64 0, .int .u64 0, .int .u64 0, .int .u64 0, .int .u64 0, .int .u64 0, .int .u64 0, .int .u64 0, .int .u64 0, .int .u64 0, .int .u64 0] 67)) g2 67 (spZ) := by rw [hg2]; exact blk_allocs [.cells #[.int .u64 (px.a : Int), .int .u64 (px.b : Int), .int .u64 (px.c : Int), .int .u64 (px.d : Int), .int .u64 (py.a : Int), .int .u64 (py.b : Int), .int .u64 (py.c : Int), .int .u64 (py.d : Int), .int .u64 (pz.a : Int), .int .u64 (pz.b : Int), .int .u64 (pz.c : Int), .int .u64 (pz.d : Int)] 67, .cells #[.int .u64 (qx.a : Int), .int .u64 (qx.b : Int), .int .u64 (qx.c : Int), .int .u64 (qx.d : Int), .int .u64 (qy.a : Int), .int .u64 (qy.b : Int), .int .u64 (qy.c : Int), .int .u64 (qy.d : Int), .int .u64 (qz.a : Int), .int .u64 (qz.b : Int), .int .u64 (qz.c : Int), .int .u64 (qz.d : Int)] 67, .cells #[.int .u64 0, .int .u64 0, .int .u64 0, .int .u64 0, .int .u64 0, .int .u64 0, .int .u64 0, .int .u64 0, .int .u64 0, .int .u64 0, .int .u64 0, .int .u64 0] 67] w 2 67 (spZ) rfl
  have hb0 : Below w.heap.size w ((((w.alloc (.cells #[.int .u64 (px.a : Int), .int .u64 (px.b : Int), .int .u64 (px.c : Int), .int .u64 (px.d : Int), .int .u64 (py.a : Int), .int .u64 (py.b : Int), .int .u64 (py.c : Int), .int .u64 (py.d : Int), .int .u64 (pz.a : Int), .int .u64 (pz.b : Int), .int .u64 (pz.c : Int), .int .u64 (pz.d : Int)] 67)).alloc (.cells #[.int .u64 (qx.a : Int), .int .u64 (qx.b : Int), .int .u64 (qx.c : Int), .int .u64 (qx.d : Int), .int .u64 (qy.a : Int), .int .u64 (qy.b : Int), .int .u64 (qy.c : Int), .int .u64 (qy.d : Int), .int .u64 (qz.a : Int), .int .u64 (qz.b : Int), .int .u64 (qz.c : Int), .int .u64 (qz.d : Int)] 67)).alloc (.cells #[.int .u64 0, .int .u64 0, .int .u64 0, .int .u64 0, .int .u64 0, .int .u64 0, .int .u64 0, .int .u64 0, .int .u64 0, .int .u64 0, .int .u64 0, .int .u64 0] 67))) := below_allocs [.cells #[.int .u64 (px.a : Int), .int .u64 (px.b : Int), .int .u64 (px.c : Int), .int .u64 (px.d : Int), .int .u64 (py.a : Int), .int .u64 (py.b : Int), .int .u64 (py.c : Int), .int .u64 (py.d : Int), .int .u64 (pz.a : Int), .int .u64 (pz.b : Int), .int .u64 (pz.c : Int), .int .u64 (pz.d : Int)] 67, .cells #[.int .u64 (qx.a : Int), .int .u64 (qx.b : Int), .int .u64 (qx.c : Int), .int .u64 (qx.d : Int), .int .u64 (qy.a : Int), .int .u64 (qy.b : Int), .int .u64 (qy.c : Int), .int .u64 (qy.d : Int), .int .u64 (qz.a : Int), .int .u64 (qz.b : Int), .int .u64 (qz.c : Int), .int .u64 (qz.d : Int)] 67, .cells #[.int .u64 0, .int .u64 0, .int .u64 0, .int .u64 0, .int .u64 0, .int .u64 0, .int .u64 0, .int .u64 0, .int .u64 0, .int .u64 0, .int .u64 0, .int .u64 0] 67] w
  have HG := Lib.hid (show w.heap.size ≤ g0 ∧ g0 < g1 ∧ g1 < g2 by omega)
  simp only [← hg2]
  simp only [← hg1]
  simp only [← hg0]
  clear hg2
  clear hg1
  clear hg0
  generalize ((w.alloc (.cells #[.int .u64 (px.a : Int), .int .u64 (px.b : Int), .int .u64 (px.c : Int), .int .u64 (px.d : Int), .int .u64 (py.a : Int), .int .u64 (py.b : Int), .int .u64 (py.c : Int), .int .u64 (py.d : Int), .int .u64 (pz.a : Int), .int .u64 (pz.b : Int), .int .u64 (pz.c : Int), .int .u64 (pz.d : Int)] 67)).alloc (.cells #[.int .u64 (qx.a : Int), .int .u64 (qx.b : Int), .int .u64 (qx.c : Int), .int .u64 (qx.d : Int), .int .u64 (qy.a : Int), .int .u64 (qy.b : Int), .int .u64 (qy.c : Int), .int .u64 (qy.d : Int), .int .u64 (qz.a : Int), .int .u64 (qz.b : Int), .int .u64 (qz.c : Int), .int .u64 (qz.d : Int)] 67)).alloc (.cells #[.int .u64 0, .int .u64 0, .int .u64 0, .int .u64 0, .int .u64 0, .int .u64 0, .int .u64 0, .int .u64 0, .int .u64 0, .int .u64 0, .int .u64 0, .int .u64 0] 67) = w1 at *
  have lg0 := bg0.lt
  have lg1 := bg1.lt
  have lg2 := bg2.lt
  go_wp2
  go_loopw [12] (fun i wr => (i = .int .i64 0 ∧ Blk wr g1 67 [.int .u64 (qx.a : Int), .int .u64 (qx.b : Int), .int .u64 (qx.c : Int), .int .u64 (qx.d : Int), .int .u64 (qy.a : Int), .int .u64 (qy.b : Int), .int .u64 (qy.c : Int), .int .u64 (qy.d : Int), .int .u64 (qz.a : Int), .int .u64 (qz.b : Int), .int .u64 (qz.c : Int), .int .u64 (qz.d : Int)] ∧ Blk wr g0 67 [.int .u64 (px.a : Int), .int .u64 (px.b : Int), .int .u64 (px.c : Int), .int .u64 (px.d : Int), .int .u64 (py.a : Int), .int .u64 (py.b : Int), .int .u64 (py.c : Int), .int .u64 (py.d : Int), .int .u64 (pz.a : Int), .int .u64 (pz.b : Int), .int .u64 (pz.c : Int), .int .u64 (pz.d : Int)] ∧ Blk wr g2 67 spZ ∧ Below w.heap.size w wr) ∨ (i = .int .i64 1 ∧ Blk wr g1 67 [.int .u64 (px.a : Int), .int .u64 (qx.b : Int), .int .u64 (qx.c : Int), .int .u64 (qx.d : Int), .int .u64 (py.a : Int), .int .u64 (qy.b : Int), .int .u64 (qy.c : Int), .int .u64 (qy.d : Int), .int .u64 (pz.a : Int), .int .u64 (qz.b : Int), .int .u64 (qz.c : Int), .int .u64 (qz.d : Int)] ∧ Blk wr g0 67 [.int .u64 (px.a : Int), .int .u64 (px.b : Int), .int .u64 (px.c : Int), .int .u64 (px.d : Int), .int .u64 (py.a : Int), .int .u64 (py.b : Int), .int .u64 (py.c : Int), .int .u64 (py.d : Int), .int .u64 (pz.a : Int), .int .u64 (pz.b : Int), .int .u64 (pz.c : Int), .int .u64 (pz.d : Int)] ∧ Blk wr g2 67 spZ ∧ Below w.heap.size w wr) ∨ (i = .int .i64 2 ∧ Blk wr g1 67 [.int .u64 (px.a : Int), .int .u64 (px.b : Int), .int .u64 (qx.c : Int), .int .u64 (qx.d : Int), .int .u64 (py.a : Int), .int .u64 (py.b : Int), .int .u64 (qy.c : Int), .int .u64 (qy.d : Int), .int .u64 (pz.a : Int), .int .u64 (pz.b : Int), .int .u64 (qz.c : Int), .int .u64 (qz.d : Int)] ∧ Blk wr g0 67 [.int .u64 (px.a : Int), .int .u64 (px.b : Int), .int .u64 (px.c : Int), .int .u64 (px.d : Int), .int .u64 (py.a : Int), .int .u64 (py.b : Int), .int .u64 (py.c : Int), .int .u64 (py.d : Int), .int .u64 (pz.a : Int), .int .u64 (pz.b : Int), .int .u64 (pz.c : Int), .int .u64 (pz.d : Int)] ∧ Blk wr g2 67 spZ ∧ Below w.heap.size w wr) ∨ (i = .int .i64 3 ∧ Blk wr g1 67 [.int .u64 (px.a : Int), .int .u64 (px.b : Int), .int .u64 (px.c : Int), .int .u64 (qx.d : Int), .int .u64 (py.a : Int), .int .u64 (py.b : Int), .int .u64 (py.c : Int), .int .u64 (qy.d : Int), .int .u64 (pz.a : Int), .int .u64 (pz.b : Int), .int .u64 (pz.c : Int), .int .u64 (qz.d : Int)] ∧ Blk wr g0 67 [.int .u64 (px.a : Int), .int .u64 (px.b : Int), .int .u64 (px.c : Int), .int .u64 (px.d : Int), .int .u64 (py.a : Int), .int .u64 (py.b : Int), .int .u64 (py.c : Int), .int .u64 (py.d : Int), .int .u64 (pz.a : Int), .int .u64 (pz.b : Int), .int .u64 (pz.c : Int), .int .u64 (pz.d : Int)] ∧ Blk wr g2 67 spZ ∧ Below w.heap.size w wr) ∨ (i = .int .i64 4 ∧ Blk wr g1 67 [.int .u64 (px.a : Int), .int .u64 (px.b : Int), .int .u64 (px.c : Int), .int .u64 (px.d : Int), .int .u64 (py.a : Int), .int .u64 (py.b : Int), .int .u64 (py.c : Int), .int .u64 (py.d : Int), .int .u64 (pz.a : Int), .int .u64 (pz.b : Int), .int .u64 (pz.c : Int), .int .u64 (pz.d : Int)] ∧ Blk wr g0 67 [.int .u64 (px.a : Int), .int .u64 (px.b : Int), .int .u64 (px.c : Int), .int .u64 (px.d : Int), .int .u64 (py.a : Int), .int .u64 (py.b : Int), .int .u64 (py.c : Int), .int .u64 (py.d : Int), .int .u64 (pz.a : Int), .int .u64 (pz.b : Int), .int .u64 (pz.c : Int), .int .u64 (pz.d : Int)] ∧ Blk wr g2 67 spZ ∧ Below w.heap.size w wr)) (fun i _ => 4 - (intOf i).toNat)
  case atStart => exact .inl ⟨rfl, bg1, bg0, bg2, hb0⟩
  case round =>
    clear bg0 bg1 bg2 hb0 lg0 lg1 lg2
    obtain h | h | h | h | h := hrel
    · obtain ⟨rfl, bg1, bg0, bg2, hb0⟩ := h
      go_upto_region 5 with (fail)
      have hc1 : wr.cell? ⟨g0, 0, none⟩ = some (.int .u64 (px.a : Int)) := (bg0.cell 0).trans rfl
      have hc2 : wr.cell? ⟨g1, 0, none⟩ = some (.int .u64 (qx.a : Int)) := (bg1.cell 0).trans rfl
      go_still_tail 18, (by kernel_rfl)
      change wpList _ _ _ _ _ wr.drew
      clear hc1 hc2
      have hc2 : wr.drew.cell? ⟨g1, 0, none⟩ = some (.int .u64 (qx.a : Int)) := (bg1.drew.cell 0).trans rfl
      have hf0 := bg1.drew.frozen 0
      go_upto_region 6 with (fail)
      simp only [bits_choose1 px.a qx.a hpx.a hqx.a]
      replace bg1 := (bg1.set_ 0 (.int .u64 (px.a : Int))).drew
      replace bg0 := (bg0.far (p := ⟨g1, 0, none⟩) (by have := HG.out; show g0 ≠ g1; omega) (.int .u64 (px.a : Int))).drew
      replace bg2 := (bg2.far (p := ⟨g1, 0, none⟩) (by have := HG.out; show g2 ≠ g1; omega) (.int .u64 (px.a : Int))).drew
      replace hb0 := below_drewN (hb0.setCell (p := ⟨g1, 0, none⟩) (by have := HG.out; show w.heap.size ≤ g1; omega) (.int .u64 (px.a : Int))) 1
      simp only [List.set_cons_zero] at bg1
      clear hc2 hf0
      change Below w.heap.size w (World.setCell wr ⟨g1, 0, none⟩ (.int .u64 (px.a : Int))).drew at hb0
      generalize (World.setCell wr ⟨g1, 0, none⟩ (.int .u64 (px.a : Int))).drew = v0 at *
      have hc1 : v0.cell? ⟨g0, 4, none⟩ = some (.int .u64 (py.a : Int)) := (bg0.cell 4).trans rfl
      have hc2 : v0.cell? ⟨g1, 4, none⟩ = some (.int .u64 (qy.a : Int)) := (bg1.cell 4).trans rfl
      go_still_tail 18, (by kernel_rfl)
      change wpList _ _ _ _ _ v0.drew
      clear hc1 hc2
      have hc2 : v0.drew.cell? ⟨g1, 4, none⟩ = some (.int .u64 (qy.a : Int)) := (bg1.drew.cell 4).trans rfl
      have hf0 := bg1.drew.frozen 4
      go_upto_region 7 with (fail)
      simp only [bits_choose1 py.a qy.a hpy.a hqy.a]
      replace bg1 := (bg1.set_ 4 (.int .u64 (py.a : Int))).drew
      replace bg0 := (bg0.far (p := ⟨g1, 4, none⟩) (by have := HG.out; show g0 ≠ g1; omega) (.int .u64 (py.a : Int))).drew
      replace bg2 := (bg2.far (p := ⟨g1, 4, none⟩) (by have := HG.out; show g2 ≠ g1; omega) (.int .u64 (py.a : Int))).drew
      replace hb0 := below_drewN (hb0.setCell (p := ⟨g1, 4, none⟩) (by have := HG.out; show w.heap.size ≤ g1; omega) (.int .u64 (py.a : Int))) 1
      simp only [List.set_cons_succ, List.set_cons_zero] at bg1
      clear hc2 hf0
      change Below w.heap.size w (World.setCell v0 ⟨g1, 4, none⟩ (.int .u64 (py.a : Int))).drew at hb0
      generalize (World.setCell v0 ⟨g1, 4, none⟩ (.int .u64 (py.a : Int))).drew = v1 at *
      have hc1 : v1.cell? ⟨g0, 8, none⟩ = some (.int .u64 (pz.a : Int)) := (bg0.cell 8).trans rfl
      have hc2 : v1.cell? ⟨g1, 8, none⟩ = some (.int .u64 (qz.a : Int)) := (bg1.cell 8).trans rfl
      go_still_tail 18, (by kernel_rfl)
      change wpList _ _ _ _ _ v1.drew
      clear hc1 hc2
      have hc2 : v1.drew.cell? ⟨g1, 8, none⟩ = some (.int .u64 (qz.a : Int)) := (bg1.drew.cell 8).trans rfl
      have hf0 := bg1.drew.frozen 8
      go_wp2
      go_roundw
      case' rel => skip
      simp only [bits_choose1 pz.a qz.a hpz.a hqz.a]
      replace bg1 := (bg1.set_ 8 (.int .u64 (pz.a : Int))).drew
      replace bg0 := (bg0.far (p := ⟨g1, 8, none⟩) (by have := HG.out; show g0 ≠ g1; omega) (.int .u64 (pz.a : Int))).drew
      replace bg2 := (bg2.far (p := ⟨g1, 8, none⟩) (by have := HG.out; show g2 ≠ g1; omega) (.int .u64 (pz.a : Int))).drew
      replace hb0 := below_drewN (hb0.setCell (p := ⟨g1, 8, none⟩) (by have := HG.out; show w.heap.size ≤ g1; omega) (.int .u64 (pz.a : Int))) 1
      simp only [List.set_cons_succ, List.set_cons_zero] at bg1
      clear hc2 hf0
      · exact (.inr (.inl ⟨by trivial, bg1, bg0, bg2, hb0⟩))
      · simp [intOf]
    · obtain ⟨rfl, bg1, bg0, bg2, hb0⟩ := h
      go_upto_region 5 with (fail)
      have hc1 : wr.cell? ⟨g0, 1, none⟩ = some (.int .u64 (px.b : Int)) := (bg0.cell 1).trans rfl
      have hc2 : wr.cell? ⟨g1, 1, none⟩ = some (.int .u64 (qx.b : Int)) := (bg1.cell 1).trans rfl
      go_still_tail 18, (by kernel_rfl)
      change wpList _ _ _ _ _ wr.drew
      clear hc1 hc2
      have hc2 : wr.drew.cell? ⟨g1, 1, none⟩ = some (.int .u64 (qx.b : Int)) := (bg1.drew.cell 1).trans rfl
      have hf0 := bg1.drew.frozen 1
      go_upto_region 6 with (fail)
      simp only [bits_choose1 px.b qx.b hpx.b hqx.b]
      replace bg1 := (bg1.set_ 1 (.int .u64 (px.b : Int))).drew
      replace bg0 := (bg0.far (p := ⟨g1, 1, none⟩) (by have := HG.out; show g0 ≠ g1; omega) (.int .u64 (px.b : Int))).drew
      replace bg2 := (bg2.far (p := ⟨g1, 1, none⟩) (by have := HG.out; show g2 ≠ g1; omega) (.int .u64 (px.b : Int))).drew
      replace hb0 := below_drewN (hb0.setCell (p := ⟨g1, 1, none⟩) (by have := HG.out; show w.heap.size ≤ g1; omega) (.int .u64 (px.b : Int))) 1
      simp only [List.set_cons_succ, List.set_cons_zero] at bg1
      clear hc2 hf0
      change Below w.heap.size w (World.setCell wr ⟨g1, 1, none⟩ (.int .u64 (px.b : Int))).drew at hb0
      generalize (World.setCell wr ⟨g1, 1, none⟩ (.int .u64 (px.b : Int))).drew = v0 at *
      have hc1 : v0.cell? ⟨g0, 5, none⟩ = some (.int .u64 (py.b : Int)) := (bg0.cell 5).trans rfl
      have hc2 : v0.cell? ⟨g1, 5, none⟩ = some (.int .u64 (qy.b : Int)) := (bg1.cell 5).trans rfl
      go_still_tail 18, (by kernel_rfl)
      change wpList _ _ _ _ _ v0.drew
      clear hc1 hc2
      have hc2 : v0.drew.cell? ⟨g1, 5, none⟩ = some (.int .u64 (qy.b : Int)) := (bg1.drew.cell 5).trans rfl
      have hf0 := bg1.drew.frozen 5
      go_upto_region 7 with (fail)
      simp only [bits_choose1 py.b qy.b hpy.b hqy.b]
      replace bg1 := (bg1.set_ 5 (.int .u64 (py.b : Int))).drew
      replace bg0 := (bg0.far (p := ⟨g1, 5, none⟩) (by have := HG.out; show g0 ≠ g1; omega) (.int .u64 (py.b : Int))).drew
      replace bg2 := (bg2.far (p := ⟨g1, 5, none⟩) (by have := HG.out; show g2 ≠ g1; omega) (.int .u64 (py.b : Int))).drew
      replace hb0 := below_drewN (hb0.setCell (p := ⟨g1, 5, none⟩) (by have := HG.out; show w.heap.size ≤ g1; omega) (.int .u64 (py.b : Int))) 1
      simp only [List.set_cons_succ, List.set_cons_zero] at bg1
      clear hc2 hf0
      change Below w.heap.size w (World.setCell v0 ⟨g1, 5, none⟩ (.int .u64 (py.b : Int))).drew at hb0
      generalize (World.setCell v0 ⟨g1, 5, none⟩ (.int .u64 (py.b : Int))).drew = v1 at *
      have hc1 : v1.cell? ⟨g0, 9, none⟩ = some (.int .u64 (pz.b : Int)) := (bg0.cell 9).trans rfl
      have hc2 : v1.cell? ⟨g1, 9, none⟩ = some (.int .u64 (qz.b : Int)) := (bg1.cell 9).trans rfl
      go_still_tail 18, (by kernel_rfl)
      change wpList _ _ _ _ _ v1.drew
      clear hc1 hc2
      have hc2 : v1.drew.cell? ⟨g1, 9, none⟩ = some (.int .u64 (qz.b : Int)) := (bg1.drew.cell 9).trans rfl
      have hf0 := bg1.drew.frozen 9
      go_wp2
      go_roundw
      case' rel => skip
      simp only [bits_choose1 pz.b qz.b hpz.b hqz.b]
      replace bg1 := (bg1.set_ 9 (.int .u64 (pz.b : Int))).drew
      replace bg0 := (bg0.far (p := ⟨g1, 9, none⟩) (by have := HG.out; show g0 ≠ g1; omega) (.int .u64 (pz.b : Int))).drew
      replace bg2 := (bg2.far (p := ⟨g1, 9, none⟩) (by have := HG.out; show g2 ≠ g1; omega) (.int .u64 (pz.b : Int))).drew
      replace hb0 := below_drewN (hb0.setCell (p := ⟨g1, 9, none⟩) (by have := HG.out; show w.heap.size ≤ g1; omega) (.int .u64 (pz.b : Int))) 1
      simp only [List.set_cons_succ, List.set_cons_zero] at bg1
      clear hc2 hf0
      · exact (.inr (.inr (.inl ⟨by trivial, bg1, bg0, bg2, hb0⟩)))
      · simp [intOf]
    · obtain ⟨rfl, bg1, bg0, bg2, hb0⟩ := h
      go_upto_region 5 with (fail)
      have hc1 : wr.cell? ⟨g0, 2, none⟩ = some (.int .u64 (px.c : Int)) := (bg0.cell 2).trans rfl
      have hc2 : wr.cell? ⟨g1, 2, none⟩ = some (.int .u64 (qx.c : Int)) := (bg1.cell 2).trans rfl
      go_still_tail 18, (by kernel_rfl)
      change wpList _ _ _ _ _ wr.drew
      clear hc1 hc2
      have hc2 : wr.drew.cell? ⟨g1, 2, none⟩ = some (.int .u64 (qx.c : Int)) := (bg1.drew.cell 2).trans rfl
      have hf0 := bg1.drew.frozen 2
      go_upto_region 6 with (fail)
      simp only [bits_choose1 px.c qx.c hpx.c hqx.c]
      replace bg1 := (bg1.set_ 2 (.int .u64 (px.c : Int))).drew
      replace bg0 := (bg0.far (p := ⟨g1, 2, none⟩) (by have := HG.out; show g0 ≠ g1; omega) (.int .u64 (px.c : Int))).drew
      replace bg2 := (bg2.far (p := ⟨g1, 2, none⟩) (by have := HG.out; show g2 ≠ g1; omega) (.int .u64 (px.c : Int))).drew
      replace hb0 := below_drewN (hb0.setCell (p := ⟨g1, 2, none⟩) (by have := HG.out; show w.heap.size ≤ g1; omega) (.int .u64 (px.c : Int))) 1
      simp only [List.set_cons_succ, List.set_cons_zero] at bg1
      clear hc2 hf0
      change Below w.heap.size w (World.setCell wr ⟨g1, 2, none⟩ (.int .u64 (px.c : Int))).drew at hb0
      generalize (World.setCell wr ⟨g1, 2, none⟩ (.int .u64 (px.c : Int))).drew = v0 at *
      have hc1 : v0.cell? ⟨g0, 6, none⟩ = some (.int .u64 (py.c : Int)) := (bg0.cell 6).trans rfl
      have hc2 : v0.cell? ⟨g1, 6, none⟩ = some (.int .u64 (qy.c : Int)) := (bg1.cell 6).trans rfl
      go_still_tail 18, (by kernel_rfl)
      change wpList _ _ _ _ _ v0.drew
      clear hc1 hc2
      have hc2 : v0.drew.cell? ⟨g1, 6, none⟩ = some (.int .u64 (qy.c : Int)) := (bg1.drew.cell 6).trans rfl
      have hf0 := bg1.drew.frozen 6
      go_upto_region 7 with (fail)
      simp only [bits_choose1 py.c qy.c hpy.c hqy.c]
      replace bg1 := (bg1.set_ 6 (.int .u64 (py.c : Int))).drew
      replace bg0 := (bg0.far (p := ⟨g1, 6, none⟩) (by have := HG.out; show g0 ≠ g1; omega) (.int .u64 (py.c : Int))).drew
      replace bg2 := (bg2.far (p := ⟨g1, 6, none⟩) (by have := HG.out; show g2 ≠ g1; omega) (.int .u64 (py.c : Int))).drew
      replace hb0 := below_drewN (hb0.setCell (p := ⟨g1, 6, none⟩) (by have := HG.out; show w.heap.size ≤ g1; omega) (.int .u64 (py.c : Int))) 1
      simp only [List.set_cons_succ, List.set_cons_zero] at bg1
      clear hc2 hf0
      change Below w.heap.size w (World.setCell v0 ⟨g1, 6, none⟩ (.int .u64 (py.c : Int))).drew at hb0
      generalize (World.setCell v0 ⟨g1, 6, none⟩ (.int .u64 (py.c : Int))).drew = v1 at *
      have hc1 : v1.cell? ⟨g0, 10, none⟩ = some (.int .u64 (pz.c : Int)) := (bg0.cell 10).trans rfl
      have hc2 : v1.cell? ⟨g1, 10, none⟩ = some (.int .u64 (qz.c : Int)) := (bg1.cell 10).trans rfl
      go_still_tail 18, (by kernel_rfl)
      change wpList _ _ _ _ _ v1.drew
      clear hc1 hc2
      have hc2 : v1.drew.cell? ⟨g1, 10, none⟩ = some (.int .u64 (qz.c : Int)) := (bg1.drew.cell 10).trans rfl
      have hf0 := bg1.drew.frozen 10
      go_wp2
      go_roundw
      case' rel => skip
      simp only [bits_choose1 pz.c qz.c hpz.c hqz.c]
      replace bg1 := (bg1.set_ 10 (.int .u64 (pz.c : Int))).drew
      replace bg0 := (bg0.far (p := ⟨g1, 10, none⟩) (by have := HG.out; show g0 ≠ g1; omega) (.int .u64 (pz.c : Int))).drew
      replace bg2 := (bg2.far (p := ⟨g1, 10, none⟩) (by have := HG.out; show g2 ≠ g1; omega) (.int .u64 (pz.c : Int))).drew
      replace hb0 := below_drewN (hb0.setCell (p := ⟨g1, 10, none⟩) (by have := HG.out; show w.heap.size ≤ g1; omega) (.int .u64 (pz.c : Int))) 1
      simp only [List.set_cons_succ, List.set_cons_zero] at bg1
      clear hc2 hf0
      · exact (.inr (.inr (.inr (.inl ⟨by trivial, bg1, bg0, bg2, hb0⟩))))
      · simp [intOf]
    · obtain ⟨rfl, bg1, bg0, bg2, hb0⟩ := h
      go_upto_region 5 with (fail)
      have hc1 : wr.cell? ⟨g0, 3, none⟩ = some (.int .u64 (px.d : Int)) := (bg0.cell 3).trans rfl
      have hc2 : wr.cell? ⟨g1, 3, none⟩ = some (.int .u64 (qx.d : Int)) := (bg1.cell 3).trans rfl
      go_still_tail 18, (by kernel_rfl)
      change wpList _ _ _ _ _ wr.drew
      clear hc1 hc2
      have hc2 : wr.drew.cell? ⟨g1, 3, none⟩ = some (.int .u64 (qx.d : Int)) := (bg1.drew.cell 3).trans rfl
      have hf0 := bg1.drew.frozen 3
      go_upto_region 6 with (fail)
      simp only [bits_choose1 px.d qx.d hpx.d hqx.d]
      replace bg1 := (bg1.set_ 3 (.int .u64 (px.d : Int))).drew
      replace bg0 := (bg0.far (p := ⟨g1, 3, none⟩) (by have := HG.out; show g0 ≠ g1; omega) (.int .u64 (px.d : Int))).drew
      replace bg2 := (bg2.far (p := ⟨g1, 3, none⟩) (by have := HG.out; show g2 ≠ g1; omega) (.int .u64 (px.d : Int))).drew
      replace hb0 := below_drewN (hb0.setCell (p := ⟨g1, 3, none⟩) (by have := HG.out; show w.heap.size ≤ g1; omega) (.int .u64 (px.d : Int))) 1
      simp only [List.set_cons_succ, List.set_cons_zero] at bg1
      clear hc2 hf0
      change Below w.heap.size w (World.setCell wr ⟨g1, 3, none⟩ (.int .u64 (px.d : Int))).drew at hb0
      generalize (World.setCell wr ⟨g1, 3, none⟩ (.int .u64 (px.d : Int))).drew = v0 at *
      have hc1 : v0.cell? ⟨g0, 7, none⟩ = some (.int .u64 (py.d : Int)) := (bg0.cell 7).trans rfl
      have hc2 : v0.cell? ⟨g1, 7, none⟩ = some (.int .u64 (qy.d : Int)) := (bg1.cell 7).trans rfl
      go_still_tail 18, (by kernel_rfl)
      change wpList _ _ _ _ _ v0.drew
      clear hc1 hc2
      have hc2 : v0.drew.cell? ⟨g1, 7, none⟩ = some (.int .u64 (qy.d : Int)) := (bg1.drew.cell 7).trans rfl
      have hf0 := bg1.drew.frozen 7
      go_upto_region 7 with (fail)
      simp only [bits_choose1 py.d qy.d hpy.d hqy.d]
      replace bg1 := (bg1.set_ 7 (.int .u64 (py.d : Int))).drew
      replace bg0 := (bg0.far (p := ⟨g1, 7, none⟩) (by have := HG.out; show g0 ≠ g1; omega) (.int .u64 (py.d : Int))).drew
      replace bg2 := (bg2.far (p := ⟨g1, 7, none⟩) (by have := HG.out; show g2 ≠ g1; omega) (.int .u64 (py.d : Int))).drew
      replace hb0 := below_drewN (hb0.setCell (p := ⟨g1, 7, none⟩) (by have := HG.out; show w.heap.size ≤ g1; omega) (.int .u64 (py.d : Int))) 1
      simp only [List.set_cons_succ, List.set_cons_zero] at bg1
      clear hc2 hf0
      change Below w.heap.size w (World.setCell v0 ⟨g1, 7, none⟩ (.int .u64 (py.d : Int))).drew at hb0
      generalize (World.setCell v0 ⟨g1, 7, none⟩ (.int .u64 (py.d : Int))).drew = v1 at *
      have hc1 : v1.cell? ⟨g0, 11, none⟩ = some (.int .u64 (pz.d : Int)) := (bg0.cell 11).trans rfl
      have hc2 : v1.cell? ⟨g1, 11, none⟩ = some (.int .u64 (qz.d : Int)) := (bg1.cell 11).trans rfl
      go_still_tail 18, (by kernel_rfl)
      change wpList _ _ _ _ _ v1.drew
      clear hc1 hc2
      have hc2 : v1.drew.cell? ⟨g1, 11, none⟩ = some (.int .u64 (qz.d : Int)) := (bg1.drew.cell 11).trans rfl
      have hf0 := bg1.drew.frozen 11
      go_wp2
      go_roundw
      case' rel => skip
      simp only [bits_choose1 pz.d qz.d hpz.d hqz.d]
      replace bg1 := (bg1.set_ 11 (.int .u64 (pz.d : Int))).drew
      replace bg0 := (bg0.far (p := ⟨g1, 11, none⟩) (by have := HG.out; show g0 ≠ g1; omega) (.int .u64 (pz.d : Int))).drew
      replace bg2 := (bg2.far (p := ⟨g1, 11, none⟩) (by have := HG.out; show g2 ≠ g1; omega) (.int .u64 (pz.d : Int))).drew
      replace hb0 := below_drewN (hb0.setCell (p := ⟨g1, 11, none⟩) (by have := HG.out; show w.heap.size ≤ g1; omega) (.int .u64 (pz.d : Int))) 1
      simp only [List.set_cons_succ, List.set_cons_zero] at bg1
      clear hc2 hf0
      · exact (.inr (.inr (.inr (.inr ⟨by trivial, bg1, bg0, bg2, hb0⟩))))
      · simp [intOf]
    · obtain ⟨rfl, bg1, bg0, bg2, hb0⟩ := h
      go_wp2_with (first
        | ((with_reducible refine (?_ : wpList _ _ _ (Oper.mk (some 70) _ _ _ _ _ :: _) _ _)); go_loud (refine wpList_load_mid rfl 67 (.tmp 5) rfl g1 0 rfl [.int .u64 (px.a : Int), .int .u64 (px.b : Int), .int .u64 (px.c : Int), .int .u64 (px.d : Int), .int .u64 (py.a : Int), .int .u64 (py.b : Int), .int .u64 (py.c : Int), .int .u64 (py.d : Int), .int .u64 (pz.a : Int), .int .u64 (pz.b : Int), .int .u64 (pz.c : Int), .int .u64 (pz.d : Int)] _ (rangeAt_of_blk bg1) Tryd.underlying67 rfl infoS ?_))
        | ((with_reducible refine (?_ : wpList _ _ _ (Oper.mk none _ _ _ _ _ :: _) _ _)); go_loud (refine wpList_store_blk rfl 67 (.tmp 6) (.tmp 70) rfl rfl g2 [.int .u64 (px.a : Int), .int .u64 (px.b : Int), .int .u64 (px.c : Int), .int .u64 (px.d : Int), .int .u64 (py.a : Int), .int .u64 (py.b : Int), .int .u64 (py.c : Int), .int .u64 (py.d : Int), .int .u64 (pz.a : Int), .int .u64 (pz.b : Int), .int .u64 (pz.c : Int), .int .u64 (pz.d : Int)] rfl rfl _ _ bg2 infoS rfl (by simp [Value.oneCell']) ?_); intro wz bn hgs))
      refine bodyPost_ret (v := .agg _) (results_cell_row rfl _ _ g2 67 _ (0, 0) _ rfl bn.raw Tryd.underlying67 rfl infoS) rfl ?_
      have hGo := HG.out
      have hsz := hb0.size
      exact ⟨rfl, below_new hb0 hgs (by omega) hsz⟩
set_option maxRecDepth 100000 in
set_option maxHeartbeats 2000000 in
theorem chooseS_0 (px py pz qx qy qz : P4) (w : World) (hpx : px.ok) (hpy : py.ok) (hpz : pz.ok) (hqx : qx.ok) (hqy : qy.ok) (hqz : qz.ok) :
    Calls Tryd.prog 56 #[.int .i64 0, .agg #[.int .u64 (px.a : Int), .int .u64 (px.b : Int), .int .u64 (px.c : Int), .int .u64 (px.d : Int), .int .u64 (py.a : Int), .int .u64 (py.b : Int), .int .u64 (py.c : Int), .int .u64 (py.d : Int), .int .u64 (pz.a : Int), .int .u64 (pz.b : Int), .int .u64 (pz.c : Int), .int .u64 (pz.d : Int)], .agg #[.int .u64 (qx.a : Int), .int .u64 (qx.b : Int), .int .u64 (qx.c : Int), .int .u64 (qx.d : Int), .int .u64 (qy.a : Int), .int .u64 (qy.b : Int), .int .u64 (qy.c : Int), .int .u64 (qy.d : Int), .int .u64 (qz.a : Int), .int .u64 (qz.b : Int), .int .u64 (qz.c : Int), .int .u64 (qz.d : Int)]] w fun e w' => e = .returned (.agg #[.int .u64 (qx.a : Int), .int .u64 (qx.b : Int), .int .u64 (qx.c : Int), .int .u64 (qx.d : Int), .int .u64 (qy.a : Int), .int .u64 (qy.b : Int), .int .u64 (qy.c : Int), .int .u64 (qy.d : Int), .int .u64 (qz.a : Int), .int .u64 (qz.b : Int), .int .u64 (qz.c : Int), .int .u64 (qz.d : Int)]) ∧ Below w.heap.size w w' := by
  go_enter Tryd.func56, Tryd.ntmps56
  go_upto_region 1 with (fail)
  obtain ⟨g2, hg2⟩ : ∃ g2, g2 = w.heap.size + 1 + 1 := ⟨_, rfl⟩
  obtain ⟨g1, hg1⟩ : ∃ g1, g1 = w.heap.size + 1 := ⟨_, rfl⟩
  obtain ⟨g0, hg0⟩ : ∃ g0, g0 = w.heap.size := ⟨_, rfl⟩
  have bg0 : Blk (((w.alloc (.cells #[.int .u64 (px.a : Int), .int .u64 (px.b : Int), .int .u64 (px.c : Int), .int .u64 (px.d : Int), .int .u64 (py.a : Int), .int .u64 (py.b : Int), .int .u64 (py.c : Int), .int .u64 (py.d : Int), .int .u64 (pz.a : Int), .int .u64 (pz.b : Int), .int .u64 (pz.c : Int), .int .u64 (pz.d : Int)] 67)).alloc (.cells #[.int .u64 (qx.a : Int), .int .u64 (qx.b : Int), .int .u64 (qx.c : Int), .int .u64 (qx.d : Int), .int .u64 (qy.a : Int), .int .u64 (qy.b : Int), .int .u64 (qy.c : Int), .int .u64 (qy.d : Int), .int .u64 (qz.a : Int), .int .u64 (qz.b : Int), .int .u64 (qz.c : Int), .int .u64 (qz.d : Int)] 67)).alloc (.cells #[.int .u64 0, .int .u64 0, .int .u64 0, .int .u64 0, .int .u64 0, .int .u64 0, .int .u64 0, .int .u64 0, .int .u64 0, .int .u64 0, .int .u64 0, .int .u64 0] 67)) g0 67 ([.int .u64 (px.a : Int), .int .u64 (px.b : Int), .int .u64 (px.c : Int), .int .u64 (px.d : Int), .int .u64 (py.a : Int), .int .u64 (py.b : Int), .int .u64 (py.c : Int), .int .u64 (py.d : Int), .int .u64 (pz.a : Int), .int .u64 (pz.b : Int), .int .u64 (pz.c : Int), .int .u64 (pz.d : Int)]) := by rw [hg0]; exact blk_allocs [.cells #[.int .u64 (px.a : Int), .int .u64 (px.b : Int), .int .u64 (px.c : Int), .int .u64 (px.d : Int), .int .u64 (py.a : Int), .int .u64 (py.b : Int), .int .u64 (py.c : Int), .int .u64 (py.d : Int), .int .u64 (pz.a : Int), .int .u64 (pz.b : Int), .int .u64 (pz.c : Int), .int .u64 (pz.d : Int)] 67, .cells #[.int .u64 (qx.a : Int), .int .u64 (qx.b : Int), .int .u64 (qx.c : Int), .int .u64 (qx.d : Int), .int .u64 (qy.a : Int), .int .u64 (qy.b : Int), .int .u64 (qy.c : Int), .int .u64 (qy.d : Int), .int .u64 (qz.a : Int), .int .u64 (qz.b : Int), .int .u64 (qz.c : Int), .int .u64 (qz.d : Int)] 67, .cells #[.int .u64 0, .int .u64 0, .int .u64 0, .int .u64 0, .int .u64 0, .int .u64 0, .int .u64 0, .int .u64 0, .int .u64 0, .int .u64 0, .int .u64 0, .int .u64 0] 67] w 0 67 ([.int .u64 (px.a : Int), .int .u64 (px.b : Int), .int .u64 (px.c : Int), .int .u64 (px.d : Int), .int .u64 (py.a : Int), .int .u64 (py.b : Int), .int .u64 (py.c : Int), .int .u64 (py.d : Int), .int .u64 (pz.a : Int), .int .u64 (pz.b : Int), .int .u64 (pz.c : Int), .int .u64 (pz.d : Int)]) rfl
  have bg1 : Blk (((w.alloc (.cells #[.int .u64 (px.a : Int), .int .u64 (px.b : Int), .int .u64 (px.c : Int), .int .u64 (px.d : Int), .int .u64 (py.a : Int), .int .u64 (py.b : Int), .int .u64 (py.c : Int), .int .u64 (py.d : Int), .int .u64 (pz.a : Int), .int .u64 (pz.b : Int), .int .u64 (pz.c : Int), .int .u64 (pz.d : Int)] 67)).alloc (.cells #[.int .u64 (qx.a : Int), .int .u64 (qx.b : Int), .int .u64 (qx.c : Int), .int .u64 (qx.d : Int), .int .u64 (qy.a : Int), .int .u64 (qy.b : Int), .int .u64 (qy.c : Int), .int .u64 (qy.d : Int), .int .u64 (qz.a : Int), .int .u64 (qz.b : Int), .int .u64 (qz.c : Int), .int .u64 (qz.d : Int)] 67)).alloc (.cells #[.int .u64 0, .int .u64 0, .int .u64 0, .int .u64 0, .int .u64 0, .int .u64 0, .int .u64 0, .int .u64 0, .int .u64 0, .int .u64 0, .int .u64 0, .int .u64 0] 67)) g1 67 ([.int .u64 (qx.a : Int), .int .u64 (qx.b : Int), .int .u64 (qx.c : Int), .int .u64 (qx.d : Int), .int .u64 (qy.a : Int), .int .u64 (qy.b : Int), .int .u64 (qy.c : Int), .int .u64 (qy.d : Int), .int .u64 (qz.a : Int), .int .u64 (qz.b : Int), .int .u64 (qz.c : Int), .int .u64 (qz.d : Int)]) := by rw [hg1]; exact blk_allocs [.cells #[.int .u64 (px.a : Int), .int .u64 (px.b : Int), .int .u64 (px.c : Int), .int .u64 (px.d : Int), .int .u64 (py.a : Int), .int .u64 (py.b : Int), .int .u64 (py.c : Int), .int .u64 (py.d : Int), .int .u64 (pz.a : Int), .int .u64 (pz.b : Int), .int .u64 (pz.c : Int), .int .u64 (pz.d : Int)] 67, .cells #[.int .u64 (qx.a : Int), .int .u64 (qx.b : Int), .int .u64 (qx.c : Int), .int .u64 (qx.d : Int), .int .u64 (qy.a : Int), .int .u64 (qy.b : Int), .int .u64 (qy.c : Int), .int .u64 (qy.d : Int), .int .u64 (qz.a : Int), .int .u64 (qz.b : Int), .int .u64 (qz.c : Int), .int .u64 (qz.d : Int)] 67, .cells #[.int .u64 0, .int .u64 0, .int .u64 0, .int .u64 0, .int .u64 0, .int .u64 0, .int .u64 0, .int .u64 0, .int .u64 0, .int .u64 0, .int .u64 0, .int .u64 0] 67] w 1 67 ([.int .u64 (qx.a : Int), .int .u64 (qx.b : Int), .int .u64 (qx.c : Int), .int .u64 (qx.d : Int), .int .u64 (qy.a : Int), .int .u64 (qy.b : Int), .int .u64 (qy.c : Int), .int .u64 (qy.d : Int), .int .u64 (qz.a : Int), .int .u64 (qz.b : Int), .int .u64 (qz.c : Int), .int .u64 (qz.d : Int)]) rfl
  have bg2 : Blk (((w.alloc (.cells #[.int .u64 (px.a : Int), .int .u64 (px.b : Int), .int .u64 (px.c : Int), .int .u64 (px.d : Int), .int .u64 (py.a : Int), .int .u64 (py.b : Int), .int .u64 (py.c : Int), .int .u64 (py.d : Int), .int .u64 (pz.a : Int), .int .u64 (pz.b : Int), .int .u64 (pz.c : Int), .int .u64 (pz.d : Int)] 67)).alloc (.cells #[.int .u64 (qx.a : Int), .int .u64 (qx.b : Int), .int .u64 (qx.c : Int), .int .u64 (qx.d : Int), .int .u64 (qy.a : Int), .int .u64 (qy.b : Int), .int .u64 (qy.c : Int), .int .u64 (qy.d : Int), .int .u64 (qz.a : Int), .int .u64 (qz.b : Int), .int .u64 (qz.c : Int), .int .u64 (qz.d : Int)] 67)).alloc (.cells #[.int .u64 0, .int .u64 0, .int .u64 0, .int .u64 0, .int .u64 0, .int .u64 0, .int .u64 0, .int .u64 0, .int .u64 0, .int .u64 0, .int .u64 0, .int .u64 0] 67)) g2 67 (spZ) := by rw [hg2]; exact blk_allocs [.cells #[.int .u64 (px.a : Int), .int .u64 (px.b : Int), .int .u64 (px.c : Int), .int .u64 (px.d : Int), .int .u64 (py.a : Int), .int .u64 (py.b : Int), .int .u64 (py.c : Int), .int .u64 (py.d : Int), .int .u64 (pz.a : Int), .int .u64 (pz.b : Int), .int .u64 (pz.c : Int), .int .u64 (pz.d : Int)] 67, .cells #[.int .u64 (qx.a : Int), .int .u64 (qx.b : Int), .int .u64 (qx.c : Int), .int .u64 (qx.d : Int), .int .u64 (qy.a : Int), .int .u64 (qy.b : Int), .int .u64 (qy.c : Int), .int .u64 (qy.d : Int), .int .u64 (qz.a : Int), .int .u64 (qz.b : Int), .int .u64 (qz.c : Int), .int .u64 (qz.d : Int)] 67, .cells #[.int .u64 0, .int .u64 0, .int .u64 0, .int .u64 0, .int .u64 0, .int .u64 0, .int .u64 0, .int .u64 0, .int .u64 0, .int .u64 0, .int .u64 0, .int .u64 0] 67] w 2 67 (spZ) rfl
  have hb0 : Below w.heap.size w ((((w.alloc (.cells #[.int .u64 (px.a : Int), .int .u64 (px.b : Int), .int .u64 (px.c : Int), .int .u64 (px.d : Int), .int .u64 (py.a : Int), .int .u64 (py.b : Int), .int .u64 (py.c : Int), .int .u64 (py.d : Int), .int .u64 (pz.a : Int), .int .u64 (pz.b : Int), .int .u64 (pz.c : Int), .int .u64 (pz.d : Int)] 67)).alloc (.cells #[.int .u64 (qx.a : Int), .int .u64 (qx.b : Int), .int .u64 (qx.c : Int), .int .u64 (qx.d : Int), .int .u64 (qy.a : Int), .int .u64 (qy.b : Int), .int .u64 (qy.c : Int), .int .u64 (qy.d : Int), .int .u64 (qz.a : Int), .int .u64 (qz.b : Int), .int .u64 (qz.c : Int), .int .u64 (qz.d : Int)] 67)).alloc (.cells #[.int .u64 0, .int .u64 0, .int .u64 0, .int .u64 0, .int .u64 0, .int .u64 0, .int .u64 0, .int .u64 0, .int .u64 0, .int .u64 0, .int .u64 0, .int .u64 0] 67))) := below_allocs [.cells #[.int .u64 (px.a : Int), .int .u64 (px.b : Int), .int .u64 (px.c : Int), .int .u64 (px.d : Int), .int .u64 (py.a : Int), .int .u64 (py.b : Int), .int .u64 (py.c : Int), .int .u64 (py.d : Int), .int .u64 (pz.a : Int), .int .u64 (pz.b : Int), .int .u64 (pz.c : Int), .int .u64 (pz.d : Int)] 67, .cells #[.int .u64 (qx.a : Int), .int .u64 (qx.b : Int), .int .u64 (qx.c : Int), .int .u64 (qx.d : Int), .int .u64 (qy.a : Int), .int .u64 (qy.b : Int), .int .u64 (qy.c : Int), .int .u64 (qy.d : Int), .int .u64 (qz.a : Int), .int .u64 (qz.b : Int), .int .u64 (qz.c : Int), .int .u64 (qz.d : Int)] 67, .cells #[.int .u64 0, .int .u64 0, .int .u64 0, .int .u64 0, .int .u64 0, .int .u64 0, .int .u64 0, .int .u64 0, .int .u64 0, .int .u64 0, .int .u64 0, .int .u64 0] 67] w
  have HG := Lib.hid (show w.heap.size ≤ g0 ∧ g0 < g1 ∧ g1 < g2 by omega)
  simp only [← hg2]
  simp only [← hg1]
  simp only [← hg0]
  clear hg2
  clear hg1
  clear hg0
  generalize ((w.alloc (.cells #[.int .u64 (px.a : Int), .int .u64 (px.b : Int), .int .u64 (px.c : Int), .int .u64 (px.d : Int), .int .u64 (py.a : Int), .int .u64 (py.b : Int), .int .u64 (py.c : Int), .int .u64 (py.d : Int), .int .u64 (pz.a : Int), .int .u64 (pz.b : Int), .int .u64 (pz.c : Int), .int .u64 (pz.d : Int)] 67)).alloc (.cells #[.int .u64 (qx.a : Int), .int .u64 (qx.b : Int), .int .u64 (qx.c : Int), .int .u64 (qx.d : Int), .int .u64 (qy.a : Int), .int .u64 (qy.b : Int), .int .u64 (qy.c : Int), .int .u64 (qy.d : Int), .int .u64 (qz.a : Int), .int .u64 (qz.b : Int), .int .u64 (qz.c : Int), .int .u64 (qz.d : Int)] 67)).alloc (.cells #[.int .u64 0, .int .u64 0, .int .u64 0, .int .u64 0, .int .u64 0, .int .u64 0, .int .u64 0, .int .u64 0, .int .u64 0, .int .u64 0, .int .u64 0, .int .u64 0] 67) = w1 at *
  have lg0 := bg0.lt
  have lg1 := bg1.lt
  have lg2 := bg2.lt
  go_wp2
  go_loopw [12] (fun i wr => (i = .int .i64 0 ∧ Blk wr g1 67 [.int .u64 (qx.a : Int), .int .u64 (qx.b : Int), .int .u64 (qx.c : Int), .int .u64 (qx.d : Int), .int .u64 (qy.a : Int), .int .u64 (qy.b : Int), .int .u64 (qy.c : Int), .int .u64 (qy.d : Int), .int .u64 (qz.a : Int), .int .u64 (qz.b : Int), .int .u64 (qz.c : Int), .int .u64 (qz.d : Int)] ∧ Blk wr g0 67 [.int .u64 (px.a : Int), .int .u64 (px.b : Int), .int .u64 (px.c : Int), .int .u64 (px.d : Int), .int .u64 (py.a : Int), .int .u64 (py.b : Int), .int .u64 (py.c : Int), .int .u64 (py.d : Int), .int .u64 (pz.a : Int), .int .u64 (pz.b : Int), .int .u64 (pz.c : Int), .int .u64 (pz.d : Int)] ∧ Blk wr g2 67 spZ ∧ Below w.heap.size w wr) ∨ (i = .int .i64 1 ∧ Blk wr g1 67 [.int .u64 (qx.a : Int), .int .u64 (qx.b : Int), .int .u64 (qx.c : Int), .int .u64 (qx.d : Int), .int .u64 (qy.a : Int), .int .u64 (qy.b : Int), .int .u64 (qy.c : Int), .int .u64 (qy.d : Int), .int .u64 (qz.a : Int), .int .u64 (qz.b : Int), .int .u64 (qz.c : Int), .int .u64 (qz.d : Int)] ∧ Blk wr g0 67 [.int .u64 (px.a : Int), .int .u64 (px.b : Int), .int .u64 (px.c : Int), .int .u64 (px.d : Int), .int .u64 (py.a : Int), .int .u64 (py.b : Int), .int .u64 (py.c : Int), .int .u64 (py.d : Int), .int .u64 (pz.a : Int), .int .u64 (pz.b : Int), .int .u64 (pz.c : Int), .int .u64 (pz.d : Int)] ∧ Blk wr g2 67 spZ ∧ Below w.heap.size w wr) ∨ (i = .int .i64 2 ∧ Blk wr g1 67 [.int .u64 (qx.a : Int), .int .u64 (qx.b : Int), .int .u64 (qx.c : Int), .int .u64 (qx.d : Int), .int .u64 (qy.a : Int), .int .u64 (qy.b : Int), .int .u64 (qy.c : Int), .int .u64 (qy.d : Int), .int .u64 (qz.a : Int), .int .u64 (qz.b : Int), .int .u64 (qz.c : Int), .int .u64 (qz.d : Int)] ∧ Blk wr g0 67 [.int .u64 (px.a : Int), .int .u64 (px.b : Int), .int .u64 (px.c : Int), .int .u64 (px.d : Int), .int .u64 (py.a : Int), .int .u64 (py.b : Int), .int .u64 (py.c : Int), .int .u64 (py.d : Int), .int .u64 (pz.a : Int), .int .u64 (pz.b : Int), .int .u64 (pz.c : Int), .int .u64 (pz.d : Int)] ∧ Blk wr g2 67 spZ ∧ Below w.heap.size w wr) ∨ (i = .int .i64 3 ∧ Blk wr g1 67 [.int .u64 (qx.a : Int), .int .u64 (qx.b : Int), .int .u64 (qx.c : Int), .int .u64 (qx.d : Int), .int .u64 (qy.a : Int), .int .u64 (qy.b : Int), .int .u64 (qy.c : Int), .int .u64 (qy.d : Int), .int .u64 (qz.a : Int), .int .u64 (qz.b : Int), .int .u64 (qz.c : Int), .int .u64 (qz.d : Int)] ∧ Blk wr g0 67 [.int .u64 (px.a : Int), .int .u64 (px.b : Int), .int .u64 (px.c : Int), .int .u64 (px.d : Int), .int .u64 (py.a : Int), .int .u64 (py.b : Int), .int .u64 (py.c : Int), .int .u64 (py.d : Int), .int .u64 (pz.a : Int), .int .u64 (pz.b : Int), .int .u64 (pz.c : Int), .int .u64 (pz.d : Int)] ∧ Blk wr g2 67 spZ ∧ Below w.heap.size w wr) ∨ (i = .int .i64 4 ∧ Blk wr g1 67 [.int .u64 (qx.a : Int), .int .u64 (qx.b : Int), .int .u64 (qx.c : Int), .int .u64 (qx.d : Int), .int .u64 (qy.a : Int), .int .u64 (qy.b : Int), .int .u64 (qy.c : Int), .int .u64 (qy.d : Int), .int .u64 (qz.a : Int), .int .u64 (qz.b : Int), .int .u64 (qz.c : Int), .int .u64 (qz.d : Int)] ∧ Blk wr g0 67 [.int .u64 (px.a : Int), .int .u64 (px.b : Int), .int .u64 (px.c : Int), .int .u64 (px.d : Int), .int .u64 (py.a : Int), .int .u64 (py.b : Int), .int .u64 (py.c : Int), .int .u64 (py.d : Int), .int .u64 (pz.a : Int), .int .u64 (pz.b : Int), .int .u64 (pz.c : Int), .int .u64 (pz.d : Int)] ∧ Blk wr g2 67 spZ ∧ Below w.heap.size w wr)) (fun i _ => 4 - (intOf i).toNat)
  case atStart => exact .inl ⟨rfl, bg1, bg0, bg2, hb0⟩
  case round =>
    clear bg0 bg1 bg2 hb0 lg0 lg1 lg2
    obtain h | h | h | h | h := hrel
    · obtain ⟨rfl, bg1, bg0, bg2, hb0⟩ := h
      go_upto_region 5 with (fail)
      have hc1 : wr.cell? ⟨g0, 0, none⟩ = some (.int .u64 (px.a : Int)) := (bg0.cell 0).trans rfl
      have hc2 : wr.cell? ⟨g1, 0, none⟩ = some (.int .u64 (qx.a : Int)) := (bg1.cell 0).trans rfl
      go_still_tail 18, (by kernel_rfl)
      change wpList _ _ _ _ _ wr.drew
      clear hc1 hc2
      have hc2 : wr.drew.cell? ⟨g1, 0, none⟩ = some (.int .u64 (qx.a : Int)) := (bg1.drew.cell 0).trans rfl
      have hf0 := bg1.drew.frozen 0
      go_upto_region 6 with (fail)
      simp only [bits_choose0 px.a qx.a hpx.a hqx.a]
      replace bg1 := (bg1.set_ 0 (.int .u64 (qx.a : Int))).drew
      replace bg0 := (bg0.far (p := ⟨g1, 0, none⟩) (by have := HG.out; show g0 ≠ g1; omega) (.int .u64 (qx.a : Int))).drew
      replace bg2 := (bg2.far (p := ⟨g1, 0, none⟩) (by have := HG.out; show g2 ≠ g1; omega) (.int .u64 (qx.a : Int))).drew
      replace hb0 := below_drewN (hb0.setCell (p := ⟨g1, 0, none⟩) (by have := HG.out; show w.heap.size ≤ g1; omega) (.int .u64 (qx.a : Int))) 1
      simp only [List.set_cons_zero] at bg1
      clear hc2 hf0
      change Below w.heap.size w (World.setCell wr ⟨g1, 0, none⟩ (.int .u64 (qx.a : Int))).drew at hb0
      generalize (World.setCell wr ⟨g1, 0, none⟩ (.int .u64 (qx.a : Int))).drew = v0 at *
      have hc1 : v0.cell? ⟨g0, 4, none⟩ = some (.int .u64 (py.a : Int)) := (bg0.cell 4).trans rfl
      have hc2 : v0.cell? ⟨g1, 4, none⟩ = some (.int .u64 (qy.a : Int)) := (bg1.cell 4).trans rfl
      go_still_tail 18, (by kernel_rfl)
      change wpList _ _ _ _ _ v0.drew
      clear hc1 hc2
      have hc2 : v0.drew.cell? ⟨g1, 4, none⟩ = some (.int .u64 (qy.a : Int)) := (bg1.drew.cell 4).trans rfl
      have hf0 := bg1.drew.frozen 4
      go_upto_region 7 with (fail)
      simp only [bits_choose0 py.a qy.a hpy.a hqy.a]
      replace bg1 := (bg1.set_ 4 (.int .u64 (qy.a : Int))).drew
      replace bg0 := (bg0.far (p := ⟨g1, 4, none⟩) (by have := HG.out; show g0 ≠ g1; omega) (.int .u64 (qy.a : Int))).drew
      replace bg2 := (bg2.far (p := ⟨g1, 4, none⟩) (by have := HG.out; show g2 ≠ g1; omega) (.int .u64 (qy.a : Int))).drew
      replace hb0 := below_drewN (hb0.setCell (p := ⟨g1, 4, none⟩) (by have := HG.out; show w.heap.size ≤ g1; omega) (.int .u64 (qy.a : Int))) 1
      simp only [List.set_cons_succ, List.set_cons_zero] at bg1
      clear hc2 hf0
      change Below w.heap.size w (World.setCell v0 ⟨g1, 4, none⟩ (.int .u64 (qy.a : Int))).drew at hb0
      generalize (World.setCell v0 ⟨g1, 4, none⟩ (.int .u64 (qy.a : Int))).drew = v1 at *
      have hc1 : v1.cell? ⟨g0, 8, none⟩ = some (.int .u64 (pz.a : Int)) := (bg0.cell 8).trans rfl
      have hc2 : v1.cell? ⟨g1, 8, none⟩ = some (.int .u64 (qz.a : Int)) := (bg1.cell 8).trans rfl
      go_still_tail 18, (by kernel_rfl)
      change wpList _ _ _ _ _ v1.drew
      clear hc1 hc2
      have hc2 : v1.drew.cell? ⟨g1, 8, none⟩ = some (.int .u64 (qz.a : Int)) := (bg1.drew.cell 8).trans rfl
      have hf0 := bg1.drew.frozen 8
      go_wp2
      go_roundw
      case' rel => skip
      simp only [bits_choose0 pz.a qz.a hpz.a hqz.a]
      replace bg1 := (bg1.set_ 8 (.int .u64 (qz.a : Int))).drew
      replace bg0 := (bg0.far (p := ⟨g1, 8, none⟩) (by have := HG.out; show g0 ≠ g1; omega) (.int .u64 (qz.a : Int))).drew
      replace bg2 := (bg2.far (p := ⟨g1, 8, none⟩) (by have := HG.out; show g2 ≠ g1; omega) (.int .u64 (qz.a : Int))).drew
      replace hb0 := below_drewN (hb0.setCell (p := ⟨g1, 8, none⟩) (by have := HG.out; show w.heap.size ≤ g1; omega) (.int .u64 (qz.a : Int))) 1
      simp only [List.set_cons_succ, List.set_cons_zero] at bg1
      clear hc2 hf0
      · exact (.inr (.inl ⟨by trivial, bg1, bg0, bg2, hb0⟩))
      · simp [intOf]
    · obtain ⟨rfl, bg1, bg0, bg2, hb0⟩ := h
      go_upto_region 5 with (fail)
      have hc1 : wr.cell? ⟨g0, 1, none⟩ = some (.int .u64 (px.b : Int)) := (bg0.cell 1).trans rfl
      have hc2 : wr.cell? ⟨g1, 1, none⟩ = some (.int .u64 (qx.b : Int)) := (bg1.cell 1).trans rfl
      go_still_tail 18, (by kernel_rfl)
      change wpList _ _ _ _ _ wr.drew
      clear hc1 hc2
      have hc2 : wr.drew.cell? ⟨g1, 1, none⟩ = some (.int .u64 (qx.b : Int)) := (bg1.drew.cell 1).trans rfl
      have hf0 := bg1.drew.frozen 1
      go_upto_region 6 with (fail)
      simp only [bits_choose0 px.b qx.b hpx.b hqx.b]
      replace bg1 := (bg1.set_ 1 (.int .u64 (qx.b : Int))).drew
      replace bg0 := (bg0.far (p := ⟨g1, 1, none⟩) (by have := HG.out; show g0 ≠ g1; omega) (.int .u64 (qx.b : Int))).drew
      replace bg2 := (bg2.far (p := ⟨g1, 1, none⟩) (by have := HG.out; show g2 ≠ g1; omega) (.int .u64 (qx.b : Int))).drew
      replace hb0 := below_drewN (hb0.setCell (p := ⟨g1, 1, none⟩) (by have := HG.out; show w.heap.size ≤ g1; omega) (.int .u64 (qx.b : Int))) 1
      simp only [List.set_cons_succ, List.set_cons_zero] at bg1
      clear hc2 hf0
      change Below w.heap.size w (World.setCell wr ⟨g1, 1, none⟩ (.int .u64 (qx.b : Int))).drew at hb0
      generalize (World.setCell wr ⟨g1, 1, none⟩ (.int .u64 (qx.b : Int))).drew = v0 at *
      have hc1 : v0.cell? ⟨g0, 5, none⟩ = some (.int .u64 (py.b : Int)) := (bg0.cell 5).trans rfl
      have hc2 : v0.cell? ⟨g1, 5, none⟩ = some (.int .u64 (qy.b : Int)) := (bg1.cell 5).trans rfl
      go_still_tail 18, (by kernel_rfl)
      change wpList _ _ _ _ _ v0.drew
      clear hc1 hc2
      have hc2 : v0.drew.cell? ⟨g1, 5, none⟩ = some (.int .u64 (qy.b : Int)) := (bg1.drew.cell 5).trans rfl
      have hf0 := bg1.drew.frozen 5
      go_upto_region 7 with (fail)
      simp only [bits_choose0 py.b qy.b hpy.b hqy.b]
      replace bg1 := (bg1.set_ 5 (.int .u64 (qy.b : Int))).drew
      replace bg0 := (bg0.far (p := ⟨g1, 5, none⟩) (by have := HG.out; show g0 ≠ g1; omega) (.int .u64 (qy.b : Int))).drew
      replace bg2 := (bg2.far (p := ⟨g1, 5, none⟩) (by have := HG.out; show g2 ≠ g1; omega) (.int .u64 (qy.b : Int))).drew
      replace hb0 := below_drewN (hb0.setCell (p := ⟨g1, 5, none⟩) (by have := HG.out; show w.heap.size ≤ g1; omega) (.int .u64 (qy.b : Int))) 1
      simp only [List.set_cons_succ, List.set_cons_zero] at bg1
      clear hc2 hf0
      change Below w.heap.size w (World.setCell v0 ⟨g1, 5, none⟩ (.int .u64 (qy.b : Int))).drew at hb0
      generalize (World.setCell v0 ⟨g1, 5, none⟩ (.int .u64 (qy.b : Int))).drew = v1 at *
      have hc1 : v1.cell? ⟨g0, 9, none⟩ = some (.int .u64 (pz.b : Int)) := (bg0.cell 9).trans rfl
      have hc2 : v1.cell? ⟨g1, 9, none⟩ = some (.int .u64 (qz.b : Int)) := (bg1.cell 9).trans rfl
      go_still_tail 18, (by kernel_rfl)
      change wpList _ _ _ _ _ v1.drew
      clear hc1 hc2
      have hc2 : v1.drew.cell? ⟨g1, 9, none⟩ = some (.int .u64 (qz.b : Int)) := (bg1.drew.cell 9).trans rfl
      have hf0 := bg1.drew.frozen 9
      go_wp2
      go_roundw
      case' rel => skip
      simp only [bits_choose0 pz.b qz.b hpz.b hqz.b]
      replace bg1 := (bg1.set_ 9 (.int .u64 (qz.b : Int))).drew
      replace bg0 := (bg0.far (p := ⟨g1, 9, none⟩) (by have := HG.out; show g0 ≠ g1; omega) (.int .u64 (qz.b : Int))).drew
      replace bg2 := (bg2.far (p := ⟨g1, 9, none⟩) (by have := HG.out; show g2 ≠ g1; omega) (.int .u64 (qz.b : Int))).drew
      replace hb0 := below_drewN (hb0.setCell (p := ⟨g1, 9, none⟩) (by have := HG.out; show w.heap.size ≤ g1; omega) (.int .u64 (qz.b : Int))) 1
      simp only [List.set_cons_succ, List.set_cons_zero] at bg1
      clear hc2 hf0
      · exact (.inr (.inr (.inl ⟨by trivial, bg1, bg0, bg2, hb0⟩)))
      · simp [intOf]
    · obtain ⟨rfl, bg1, bg0, bg2, hb0⟩ := h
      go_upto_region 5 with (fail)
      have hc1 : wr.cell? ⟨g0, 2, none⟩ = some (.int .u64 (px.c : Int)) := (bg0.cell 2).trans rfl
      have hc2 : wr.cell? ⟨g1, 2, none⟩ = some (.int .u64 (qx.c : Int)) := (bg1.cell 2).trans rfl
      go_still_tail 18, (by kernel_rfl)
      change wpList _ _ _ _ _ wr.drew
      clear hc1 hc2
      have hc2 : wr.drew.cell? ⟨g1, 2, none⟩ = some (.int .u64 (qx.c : Int)) := (bg1.drew.cell 2).trans rfl
      have hf0 := bg1.drew.frozen 2
      go_upto_region 6 with (fail)
      simp only [bits_choose0 px.c qx.c hpx.c hqx.c]
      replace bg1 := (bg1.set_ 2 (.int .u64 (qx.c : Int))).drew
      replace bg0 := (bg0.far (p := ⟨g1, 2, none⟩) (by have := HG.out; show g0 ≠ g1; omega) (.int .u64 (qx.c : Int))).drew
      replace bg2 := (bg2.far (p := ⟨g1, 2, none⟩) (by have := HG.out; show g2 ≠ g1; omega) (.int .u64 (qx.c : Int))).drew
      replace hb0 := below_drewN (hb0.setCell (p := ⟨g1, 2, none⟩) (by have := HG.out; show w.heap.size ≤ g1; omega) (.int .u64 (qx.c : Int))) 1
      simp only [List.set_cons_succ, List.set_cons_zero] at bg1
      clear hc2 hf0
      change Below w.heap.size w (World.setCell wr ⟨g1, 2, none⟩ (.int .u64 (qx.c : Int))).drew at hb0
      generalize (World.setCell wr ⟨g1, 2, none⟩ (.int .u64 (qx.c : Int))).drew = v0 at *
      have hc1 : v0.cell? ⟨g0, 6, none⟩ = some (.int .u64 (py.c : Int)) := (bg0.cell 6).trans rfl
      have hc2 : v0.cell? ⟨g1, 6, none⟩ = some (.int .u64 (qy.c : Int)) := (bg1.cell 6).trans rfl
      go_still_tail 18, (by kernel_rfl)
      change wpList _ _ _ _ _ v0.drew
      clear hc1 hc2
      have hc2 : v0.drew.cell? ⟨g1, 6, none⟩ = some (.int .u64 (qy.c : Int)) := (bg1.drew.cell 6).trans rfl
      have hf0 := bg1.drew.frozen 6
      go_upto_region 7 with (fail)
      simp only [bits_choose0 py.c qy.c hpy.c hqy.c]
      replace bg1 := (bg1.set_ 6 (.int .u64 (qy.c : Int))).drew
      replace bg0 := (bg0.far (p := ⟨g1, 6, none⟩) (by have := HG.out; show g0 ≠ g1; omega) (.int .u64 (qy.c : Int))).drew
      replace bg2 := (bg2.far (p := ⟨g1, 6, none⟩) (by have := HG.out; show g2 ≠ g1; omega) (.int .u64 (qy.c : Int))).drew
      replace hb0 := below_drewN (hb0.setCell (p := ⟨g1, 6, none⟩) (by have := HG.out; show w.heap.size ≤ g1; omega) (.int .u64 (qy.c : Int))) 1
      simp only [List.set_cons_succ, List.set_cons_zero] at bg1
      clear hc2 hf0
      change Below w.heap.size w (World.setCell v0 ⟨g1, 6, none⟩ (.int .u64 (qy.c : Int))).drew at hb0
      generalize (World.setCell v0 ⟨g1, 6, none⟩ (.int .u64 (qy.c : Int))).drew = v1 at *
      have hc1 : v1.cell? ⟨g0, 10, none⟩ = some (.int .u64 (pz.c : Int)) := (bg0.cell 10).trans rfl
      have hc2 : v1.cell? ⟨g1, 10, none⟩ = some (.int .u64 (qz.c : Int)) := (bg1.cell 10).trans rfl
      go_still_tail 18, (by kernel_rfl)
      change wpList _ _ _ _ _ v1.drew
      clear hc1 hc2
      have hc2 : v1.drew.cell? ⟨g1, 10, none⟩ = some (.int .u64 (qz.c : Int)) := (bg1.drew.cell 10).trans rfl
      have hf0 := bg1.drew.frozen 10
      go_wp2
      go_roundw
      case' rel => skip
      simp only [bits_choose0 pz.c qz.c hpz.c hqz.c]
      replace bg1 := (bg1.set_ 10 (.int .u64 (qz.c : Int))).drew
      replace bg0 := (bg0.far (p := ⟨g1, 10, none⟩) (by have := HG.out; show g0 ≠ g1; omega) (.int .u64 (qz.c : Int))).drew
      replace bg2 := (bg2.far (p := ⟨g1, 10, none⟩) (by have := HG.out; show g2 ≠ g1; omega) (.int .u64 (qz.c : Int))).drew
      replace hb0 := below_drewN (hb0.setCell (p := ⟨g1, 10, none⟩) (by have := HG.out; show w.heap.size ≤ g1; omega) (.int .u64 (qz.c : Int))) 1
      simp only [List.set_cons_succ, List.set_cons_zero] at bg1
      clear hc2 hf0
      · exact (.inr (.inr (.inr (.inl ⟨by trivial, bg1, bg0, bg2, hb0⟩))))
      · simp [intOf]
    · obtain ⟨rfl, bg1, bg0, bg2, hb0⟩ := h
      go_upto_region 5 with (fail)
      have hc1 : wr.cell? ⟨g0, 3, none⟩ = some (.int .u64 (px.d : Int)) := (bg0.cell 3).trans rfl
      have hc2 : wr.cell? ⟨g1, 3, none⟩ = some (.int .u64 (qx.d : Int)) := (bg1.cell 3).trans rfl
      go_still_tail 18, (by kernel_rfl)
      change wpList _ _ _ _ _ wr.drew
      clear hc1 hc2
      have hc2 : wr.drew.cell? ⟨g1, 3, none⟩ = some (.int .u64 (qx.d : Int)) := (bg1.drew.cell 3).trans rfl
      have hf0 := bg1.drew.frozen 3
      go_upto_region 6 with (fail)
      simp only [bits_choose0 px.d qx.d hpx.d hqx.d]
      replace bg1 := (bg1.set_ 3 (.int .u64 (qx.d : Int))).drew
      replace bg0 := (bg0.far (p := ⟨g1, 3, none⟩) (by have := HG.out; show g0 ≠ g1; omega) (.int .u64 (qx.d : Int))).drew
      replace bg2 := (bg2.far (p := ⟨g1, 3, none⟩) (by have := HG.out; show g2 ≠ g1; omega) (.int .u64 (qx.d : Int))).drew
      replace hb0 := below_drewN (hb0.setCell (p := ⟨g1, 3, none⟩) (by have := HG.out; show w.heap.size ≤ g1; omega) (.int .u64 (qx.d : Int))) 1
      simp only [List.set_cons_succ, List.set_cons_zero] at bg1
      clear hc2 hf0
      change Below w.heap.size w (World.setCell wr ⟨g1, 3, none⟩ (.int .u64 (qx.d : Int))).drew at hb0
      generalize (World.setCell wr ⟨g1, 3, none⟩ (.int .u64 (qx.d : Int))).drew = v0 at *
      have hc1 : v0.cell? ⟨g0, 7, none⟩ = some (.int .u64 (py.d : Int)) := (bg0.cell 7).trans rfl
      have hc2 : v0.cell? ⟨g1, 7, none⟩ = some (.int .u64 (qy.d : Int)) := (bg1.cell 7).trans rfl
      go_still_tail 18, (by kernel_rfl)
      change wpList _ _ _ _ _ v0.drew
      clear hc1 hc2
      have hc2 : v0.drew.cell? ⟨g1, 7, none⟩ = some (.int .u64 (qy.d : Int)) := (bg1.drew.cell 7).trans rfl
      have hf0 := bg1.drew.frozen 7
      go_upto_region 7 with (fail)
      simp only [bits_choose0 py.d qy.d hpy.d hqy.d]
      replace bg1 := (bg1.set_ 7 (.int .u64 (qy.d : Int))).drew
      replace bg0 := (bg0.far (p := ⟨g1, 7, none⟩) (by have := HG.out; show g0 ≠ g1; omega) (.int .u64 (qy.d : Int))).drew
      replace bg2 := (bg2.far (p := ⟨g1, 7, none⟩) (by have := HG.out; show g2 ≠ g1; omega) (.int .u64 (qy.d : Int))).drew
      replace hb0 := below_drewN (hb0.setCell (p := ⟨g1, 7, none⟩) (by have := HG.out; show w.heap.size ≤ g1; omega) (.int .u64 (qy.d : Int))) 1
      simp only [List.set_cons_succ, List.set_cons_zero] at bg1
      clear hc2 hf0
      change Below w.heap.size w (World.setCell v0 ⟨g1, 7, none⟩ (.int .u64 (qy.d : Int))).drew at hb0
      generalize (World.setCell v0 ⟨g1, 7, none⟩ (.int .u64 (qy.d : Int))).drew = v1 at *
      have hc1 : v1.cell? ⟨g0, 11, none⟩ = some (.int .u64 (pz.d : Int)) := (bg0.cell 11).trans rfl
      have hc2 : v1.cell? ⟨g1, 11, none⟩ = some (.int .u64 (qz.d : Int)) := (bg1.cell 11).trans rfl
      go_still_tail 18, (by kernel_rfl)
      change wpList _ _ _ _ _ v1.drew
      clear hc1 hc2
      have hc2 : v1.drew.cell? ⟨g1, 11, none⟩ = some (.int .u64 (qz.d : Int)) := (bg1.drew.cell 11).trans rfl
      have hf0 := bg1.drew.frozen 11
      go_wp2
      go_roundw
      case' rel => skip
      simp only [bits_choose0 pz.d qz.d hpz.d hqz.d]
      replace bg1 := (bg1.set_ 11 (.int .u64 (qz.d : Int))).drew
      replace bg0 := (bg0.far (p := ⟨g1, 11, none⟩) (by have := HG.out; show g0 ≠ g1; omega) (.int .u64 (qz.d : Int))).drew
      replace bg2 := (bg2.far (p := ⟨g1, 11, none⟩) (by have := HG.out; show g2 ≠ g1; omega) (.int .u64 (qz.d : Int))).drew
      replace hb0 := below_drewN (hb0.setCell (p := ⟨g1, 11, none⟩) (by have := HG.out; show w.heap.size ≤ g1; omega) (.int .u64 (qz.d : Int))) 1
      simp only [List.set_cons_succ, List.set_cons_zero] at bg1
      clear hc2 hf0
      · exact (.inr (.inr (.inr (.inr ⟨by trivial, bg1, bg0, bg2, hb0⟩))))
      · simp [intOf]
    · obtain ⟨rfl, bg1, bg0, bg2, hb0⟩ := h
      go_wp2_with (first
        | ((with_reducible refine (?_ : wpList _ _ _ (Oper.mk (some 70) _ _ _ _ _ :: _) _ _)); go_loud (refine wpList_load_mid rfl 67 (.tmp 5) rfl g1 0 rfl [.int .u64 (qx.a : Int), .int .u64 (qx.b : Int), .int .u64 (qx.c : Int), .int .u64 (qx.d : Int), .int .u64 (qy.a : Int), .int .u64 (qy.b : Int), .int .u64 (qy.c : Int), .int .u64 (qy.d : Int), .int .u64 (qz.a : Int), .int .u64 (qz.b : Int), .int .u64 (qz.c : Int), .int .u64 (qz.d : Int)] _ (rangeAt_of_blk bg1) Tryd.underlying67 rfl infoS ?_))
        | ((with_reducible refine (?_ : wpList _ _ _ (Oper.mk none _ _ _ _ _ :: _) _ _)); go_loud (refine wpList_store_blk rfl 67 (.tmp 6) (.tmp 70) rfl rfl g2 [.int .u64 (qx.a : Int), .int .u64 (qx.b : Int), .int .u64 (qx.c : Int), .int .u64 (qx.d : Int), .int .u64 (qy.a : Int), .int .u64 (qy.b : Int), .int .u64 (qy.c : Int), .int .u64 (qy.d : Int), .int .u64 (qz.a : Int), .int .u64 (qz.b : Int), .int .u64 (qz.c : Int), .int .u64 (qz.d : Int)] rfl rfl _ _ bg2 infoS rfl (by simp [Value.oneCell']) ?_); intro wz bn hgs))
      refine bodyPost_ret (v := .agg _) (results_cell_row rfl _ _ g2 67 _ (0, 0) _ rfl bn.raw Tryd.underlying67 rfl infoS) rfl ?_
      have hGo := HG.out
      have hsz := hb0.size
      exact ⟨rfl, below_new hb0 hgs (by omega) hsz⟩
theorem choose_k (k : Nat) (hk : k ≤ 1) (p q : P3) (w : World) : Calls Tryd.prog 56 #[.int .i64 (k : Int), .agg (spC p).toArray, .agg (spC q).toArray] w fun e w' => e = .returned (.agg (spC (if k = 1 then p else q)).toArray) ∧ Below w.heap.size w w' := by
  obtain rfl | rfl : k = 0 ∨ k = 1 := by omega
  · rw [if_neg (by decide)]
    exact chooseS_0 _ _ _ _ _ _ w (pK_ok _) (pK_ok _) (pK_ok _) (pK_ok _) (pK_ok _) (pK_ok _)
  · rw [if_pos rfl]
    exact chooseS_1 _ _ _ _ _ _ w (pK_ok _) (pK_ok _) (pK_ok _) (pK_ok _) (pK_ok _) (pK_ok _)
end Go.Proofs.YtnkikhnllnbhfaaDoor
