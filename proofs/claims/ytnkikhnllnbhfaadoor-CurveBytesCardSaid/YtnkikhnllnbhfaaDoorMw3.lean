/-
  Mw3.
-/
import Derived.Test.YtnkikhnllnbhfaaDoorMw2
namespace Go.Proofs.YtnkikhnllnbhfaaDoor
open Go.RowKit
set_option maxRecDepth 100000 in
set_option maxHeartbeats 400000 in
theorem sum_any (g : Nat) (n sq x y : P4) (f : Nat) (w : World) (hm : Blk w g 89 (modCells n sq f)) (hx : x.ok) (hy : y.ok) :
    Calls Tryd.prog 62 #[.pointer (some ⟨g, 0, none⟩), .agg #[.int .u64 (x.a : Int), .int .u64 (x.b : Int), .int .u64 (x.c : Int), .int .u64 (x.d : Int)], .agg #[.int .u64 (y.a : Int), .int .u64 (y.b : Int), .int .u64 (y.c : Int), .int .u64 (y.d : Int)]] w fun e w' => e = .returned (.agg #[.int .u64 ((lessenedP n (plusP x y) (plusC x y)).a : Int), .int .u64 ((lessenedP n (plusP x y) (plusC x y)).b : Int), .int .u64 ((lessenedP n (plusP x y) (plusC x y)).c : Int), .int .u64 ((lessenedP n (plusP x y) (plusC x y)).d : Int)]) ∧ Below w.heap.size w w' := by
  go_enter Tryd.func62, Tryd.ntmps62
  go_wp2_with fail
  have hR : Blk (((w.alloc (.cells #[.int .u64 (x.a : Int), .int .u64 (x.b : Int), .int .u64 (x.c : Int), .int .u64 (x.d : Int)] 85)).alloc (.cells #[.int .u64 (y.a : Int), .int .u64 (y.b : Int), .int .u64 (y.c : Int), .int .u64 (y.d : Int)] 85)).alloc (.cells #[.int .u64 0, .int .u64 0, .int .u64 0, .int .u64 0] 85)) (w.heap.size + 1 + 1) 85 [.int .u64 0, .int .u64 0, .int .u64 0, .int .u64 0] := Blk.new3_of w _ _ _ _ _ rfl
  have hM := ((hm.alloc (.cells #[.int .u64 (x.a : Int), .int .u64 (x.b : Int), .int .u64 (x.c : Int), .int .u64 (x.d : Int)] 85)).alloc (.cells #[.int .u64 (y.a : Int), .int .u64 (y.b : Int), .int .u64 (y.c : Int), .int .u64 (y.d : Int)] 85)).alloc (.cells #[.int .u64 0, .int .u64 0, .int .u64 0, .int .u64 0] 85)
  have hb0 := fresh_three w (.cells #[.int .u64 (x.a : Int), .int .u64 (x.b : Int), .int .u64 (x.c : Int), .int .u64 (x.d : Int)] 85) (.cells #[.int .u64 (y.a : Int), .int .u64 (y.b : Int), .int .u64 (y.c : Int), .int .u64 (y.d : Int)] 85) (.cells #[.int .u64 0, .int .u64 0, .int .u64 0, .int .u64 0] 85)
  generalize ((w.alloc (.cells #[.int .u64 (x.a : Int), .int .u64 (x.b : Int), .int .u64 (x.c : Int), .int .u64 (x.d : Int)] 85)).alloc (.cells #[.int .u64 (y.a : Int), .int .u64 (y.b : Int), .int .u64 (y.c : Int), .int .u64 (y.d : Int)] 85)).alloc (.cells #[.int .u64 0, .int .u64 0, .int .u64 0, .int .u64 0] 85) = w1 at *
  have lhR := hR.lt
  have lM := hM.lt
  refine (plus_any x y _ hx hy).mono ?_
  rintro e w2 ⟨rfl, hb1⟩
  have hR2 := hR.below hb1 lhR
  have hM2 := hM.below hb1 lM
  have hb2 := hb0.trans (hb1.mono hb0.size)
  have l2 := hR2.lt
  clear hR hM hb1 hb0
  go_wp2_with (first
    | (go_at_call 72; refine (lessened_any g _ n sq (plusP x y) f _ (hM2.alloc _) (plusP_ok x y)).mono ?_; rintro e w3 ⟨rfl, hb3⟩; have hR3 := (hR2.alloc _).below hb3 (by simp; omega); have hb4 := (hb2.alloc hb2.size _).trans (hb3.mono (by have := hb2.size; simp; omega)); clear hb3)
    | ((with_reducible refine (?_ : wpList _ _ _ (Oper.mk none (.store 85 (.tmp 6) _) _ _ _ _ :: _) _ _)); go_loud (refine wpList_store_blk rfl 85 (.tmp 6) (.tmp 18) rfl rfl (w.heap.size + 1 + 1) [.int .u64 ((lessenedP n (plusP x y) (plusC x y)).a : Int), .int .u64 ((lessenedP n (plusP x y) (plusC x y)).b : Int), .int .u64 ((lessenedP n (plusP x y) (plusC x y)).c : Int), .int .u64 ((lessenedP n (plusP x y) (plusC x y)).d : Int)] rfl rfl 85 _ hR3 info50 (Eq.trans (b := 4) rfl rfl) (by simp [Value.oneCell']) ?_); intro w4 hR4 hg4))
  refine bodyPost_ret (v := .agg _) (results_cell_row rfl _ _ (w.heap.size + 1 + 1) 85 _ (0, 0) _ rfl hR4.raw Tryd.underlying85 rfl info50) rfl ⟨rfl, below_new hb4 hg4 (by omega) hb4.size⟩

end Go.Proofs.YtnkikhnllnbhfaaDoor
