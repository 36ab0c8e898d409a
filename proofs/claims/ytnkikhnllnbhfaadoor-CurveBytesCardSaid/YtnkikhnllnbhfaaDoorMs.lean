/-
  Ms.
-/
import Derived.Test.YtnkikhnllnbhfaaDoorMr1
import Derived.Test.YtnkikhnllnbhfaaDoorMv
import Derived.Test.YtnkikhnllnbhfaaDoorEqs
namespace Go.Proofs.YtnkikhnllnbhfaaDoor
open Go.RowKit
/-- Are two numbers the same? -/
def eqP (x y : P4) : Bool := [(x.a : Int), (x.b : Int), (x.c : Int), (x.d : Int)] == [(y.a : Int), (y.b : Int), (y.c : Int), (y.d : Int)]
theorem eqP_same (x : P4) : eqP x x = true := by unfold eqP; exact beq_self_eq_true _
theorem eqP_eq {x y : P4} : eqP x y = true ↔ x = y := by
  constructor
  · intro h
    unfold eqP at h
    have := eq_of_beq h
    simp only [List.cons.injEq, and_true] at this
    exact P4.ext4 (by omega) (by omega) (by omega) (by omega)
  · rintro rfl
    exact eqP_same x
set_option maxRecDepth 100000 in
theorem eq24 (x y : P4) (w : World) : (Op.equalIn 10000 59 (.agg #[.int .u64 (x.a : Int), .int .u64 (x.b : Int), .int .u64 (x.c : Int), .int .u64 (x.d : Int)]) (.agg #[.int .u64 (y.a : Int), .int .u64 (y.b : Int), .int .u64 (y.c : Int), .int .u64 (y.d : Int)])).run Tryd.prog w = .ok (eqP x y) w :=
  equal_ints Tryd.underlying59 Tryd.underlying28 rfl (by kernel_rfl) [(x.a : Int), (x.b : Int), (x.c : Int), (x.d : Int)] [(y.a : Int), (y.b : Int), (y.c : Int), (y.d : Int)] rfl rfl w
set_option maxRecDepth 100000 in
theorem eq23 (x y : P4) (w : World) : (Op.equalIn 10000 29 (.agg #[.int .u64 (x.a : Int), .int .u64 (x.b : Int), .int .u64 (x.c : Int), .int .u64 (x.d : Int)]) (.agg #[.int .u64 (y.a : Int), .int .u64 (y.b : Int), .int .u64 (y.c : Int), .int .u64 (y.d : Int)])).run Tryd.prog w = .ok (eqP x y) w :=
  equal_ints Tryd.underlying29 Tryd.underlying28 rfl (by kernel_rfl) [(x.a : Int), (x.b : Int), (x.c : Int), (x.d : Int)] [(y.a : Int), (y.b : Int), (y.c : Int), (y.d : Int)] rfl rfl w
theorem eq24_1 (x : P4) (w : World) : (Op.equalIn 10000 59 (.agg #[.int .u64 (x.a : Int), .int .u64 (x.b : Int), .int .u64 (x.c : Int), .int .u64 (x.d : Int)]) (.agg #[.int .u64 1, .int .u64 0, .int .u64 0, .int .u64 0])).run Tryd.prog w = .ok (eqP x oneP) w := eq24 x oneP w
def sevenP : P4 := ⟨7, 0, 0, 0⟩
def fiveP : P4 := ⟨5, 0, 0, 0⟩
theorem sevenP_ok : sevenP.ok := ⟨by decide, by decide, by decide, by decide⟩
theorem fiveP_ok : fiveP.ok := ⟨by decide, by decide, by decide, by decide⟩
theorem threeP_ok : threeP.ok := ⟨by decide, by decide, by decide, by decide⟩
theorem sevenP_val : sevenP.val = 7 := by decide
theorem fiveP_val : fiveP.val = 5 := by decide
theorem threeP_val : threeP.val = 3 := by decide
theorem New7 (w : World) : Calls Tryd.prog 50 #[.agg #[.int .u64 7, .int .u64 0, .int .u64 0, .int .u64 0]] w fun e w' => ∃ (g : Nat) (sq : P4) (f : Nat), e = .returned (.tuple #[.pointer (some ⟨g, 0, none⟩), .int .i64 0]) ∧ w.heap.size ≤ g ∧ Blk w' g 89 (modCells sevenP sq f) ∧ Md sevenP sq f ∧ Below w.heap.size w w' :=
  New_any sevenP w sevenP_ok (by decide) (by rw [lessP_eq sevenP_ok threeP_ok]; decide) (by decide)
theorem Inv3 (g : Nat) (sq : P4) (f : Nat) (w : World) (hm : Blk w g 89 (modCells sevenP sq f)) (md : Md sevenP sq f) :
    Calls Tryd.prog 55 #[.pointer (some ⟨g, 0, none⟩), .agg #[.int .u64 3, .int .u64 0, .int .u64 0, .int .u64 0]] w fun e w' => e = .returned (.tuple #[.agg #[.int .u64 5, .int .u64 0, .int .u64 0, .int .u64 0], .int .i64 0]) ∧ Below w.heap.size w w' := by
  obtain ⟨z, hz⟩ : ∃ z, Hid (z = isTo sevenP threeP 512) := ⟨_, Lib.hid rfl⟩
  obtain ⟨h1, h2, h3, h4⟩ := inv_val md threeP_ok hz
  have ho : z.o = oneP := h3.2 (by rw [threeP_val, sevenP_val]; decide)
  have hi := h4 ho
  rw [threeP_val, sevenP_val] at hi
  rw [sevenP_val] at h2
  have e : z.i = fiveP := P4.ext_val h1 fiveP_ok (by rw [fiveP_val]; omega)
  have hc := Inv_ok g sevenP sq threeP f z w hm md threeP_ok hz ho
  rw [e] at hc
  exact hc
theorem Sub35 (g : Nat) (sq : P4) (f : Nat) (w : World) (hm : Blk w g 89 (modCells sevenP sq f)) (md : Md sevenP sq f) :
    Calls Tryd.prog 54 #[.pointer (some ⟨g, 0, none⟩), .agg #[.int .u64 3, .int .u64 0, .int .u64 0, .int .u64 0], .agg #[.int .u64 5, .int .u64 0, .int .u64 0, .int .u64 0]] w fun e w' => e = .returned (.agg #[.int .u64 5, .int .u64 0, .int .u64 0, .int .u64 0]) ∧ Below w.heap.size w w' := by
  have e : subP sevenP sq f threeP fiveP = fiveP := P4.ext_val (subP_ok _ _) fiveP_ok (by rw [sub_val md threeP_ok fiveP_ok, threeP_val, fiveP_val, sevenP_val])
  have hc := Sub_any g sevenP sq threeP fiveP f w hm md threeP_ok fiveP_ok
  rw [e] at hc
  exact hc
theorem eq24_5 (w : World) : (Op.equalIn 10000 59 (.agg #[.int .u64 5, .int .u64 0, .int .u64 0, .int .u64 0]) (.agg #[.int .u64 5, .int .u64 0, .int .u64 0, .int .u64 0])).run Tryd.prog w = .ok true w := by
  have h := eq24 fiveP fiveP w
  rw [eqP_same] at h
  exact h
/-- May it be a modulus? -/
def rightP (x : P4) : Bool := decide (x.a % 2 = 1) && !eqP x oneP
end Go.Proofs.YtnkikhnllnbhfaaDoor
