/-
  Mp.
-/
import Derived.Test.YtnkikhnllnbhfaaDoorMk
import Derived.Test.YtnkikhnllnbhfaaDoorFresh
namespace Go.Proofs.YtnkikhnllnbhfaaDoor
open Go.RowKit
section
variable {n sq : P4} {f : Nat}
theorem prod_m (md : Md n sq f) (u v : Nat) : productP n f (redP n (B256 * u)) (redP n (B256 * v)) = redP n (B256 * (u * v)) := by
  have h0 : 0 < n.val := by have := md.big; omega
  obtain ⟨h1, h2⟩ := prod_spec md (redP_ok n (B256 * u)) (redP_ok n (B256 * v)) (.inr (redP_lt md.ok h0 _))
  refine redP_of md.ok h0 (productP_ok md.ok (redP_ok _ _) (redP_ok _ _)) ?_
  rw [← Nat.mod_eq_of_lt h1]
  refine cancel (cop256 (md_odd md)) ?_
  have key : ∀ B u v : Nat, B * u * (B * v) = B * (B * (u * v)) := fun B u v => by grind
  rw [h2, redP_val md.ok h0, redP_val md.ok h0, ← Nat.mul_mod, key]
theorem raised_m (md : Md n sq f) {x : P4} (hx : x.ok) : productP n f x sq = redP n (B256 * x.val) := by
  have h0 : 0 < n.val := by have := md.big; omega
  obtain ⟨h1, h2⟩ := raised_spec md hx
  refine redP_of md.ok h0 (productP_ok md.ok hx md.sqok) ?_
  rw [← h2, Nat.mod_eq_of_lt h1]
theorem lowered_m (md : Md n sq f) (u : Nat) : lowP n f (redP n (B256 * u)) = redP n u := by
  have h0 : 0 < n.val := by have := md.big; omega
  obtain ⟨h1, h2⟩ := lowered_spec md (redP_ok n (B256 * u))
  refine redP_of md.ok h0 (lowP_ok md.ok (redP_ok _ _)) ?_
  rw [← Nat.mod_eq_of_lt h1]
  refine cancel (cop256 (md_odd md)) ?_
  rw [h2, redP_val md.ok h0, Nat.mod_mod]
end
theorem raised_v (g : Nat) (n sq x : P4) (f : Nat) (w : World) (hM : Blk w g 89 (modCells n sq f)) (md : Md n sq f) (hx : x.ok) :
    Calls Tryd.prog 68 #[.pointer (some ⟨g, 0, none⟩), .agg #[.int .u64 (x.a : Int), .int .u64 (x.b : Int), .int .u64 (x.c : Int), .int .u64 (x.d : Int)]] w fun e w' => e = .returned (.agg #[.int .u64 ((redP n (B256 * x.val)).a : Int), .int .u64 ((redP n (B256 * x.val)).b : Int), .int .u64 ((redP n (B256 * x.val)).c : Int), .int .u64 ((redP n (B256 * x.val)).d : Int)]) ∧ Below w.heap.size w w' := by
  have h := raised_any g n sq x f w hM md.ok md.sqok hx
  rw [raised_m md hx] at h
  exact h
theorem raised_one (g : Nat) (n sq : P4) (f : Nat) (w : World) (hM : Blk w g 89 (modCells n sq f)) (md : Md n sq f) :
    Calls Tryd.prog 68 #[.pointer (some ⟨g, 0, none⟩), .agg #[.int .u64 1, .int .u64 0, .int .u64 0, .int .u64 0]] w fun e w' => e = .returned (.agg #[.int .u64 ((redP n (B256 * 1)).a : Int), .int .u64 ((redP n (B256 * 1)).b : Int), .int .u64 ((redP n (B256 * 1)).c : Int), .int .u64 ((redP n (B256 * 1)).d : Int)]) ∧ Below w.heap.size w w' :=
  raised_v g n sq oneP f w hM md oneP_ok
theorem lowered_v (g : Nat) (n sq : P4) (u : Nat) (f : Nat) (w : World) (hM : Blk w g 89 (modCells n sq f)) (md : Md n sq f) :
    Calls Tryd.prog 74 #[.pointer (some ⟨g, 0, none⟩), .agg #[.int .u64 ((redP n (B256 * u)).a : Int), .int .u64 ((redP n (B256 * u)).b : Int), .int .u64 ((redP n (B256 * u)).c : Int), .int .u64 ((redP n (B256 * u)).d : Int)]] w fun e w' => e = .returned (.agg #[.int .u64 ((redP n u).a : Int), .int .u64 ((redP n u).b : Int), .int .u64 ((redP n u).c : Int), .int .u64 ((redP n u).d : Int)]) ∧ Below w.heap.size w w' := by
  have h := lowered_any g n sq (redP n (B256 * u)) f w hM md.ok (redP_ok _ _)
  rw [lowered_m md] at h
  exact h
theorem product_v (g : Nat) (n sq : P4) (u v : Nat) (f : Nat) (w : World) (hM : Blk w g 89 (modCells n sq f)) (md : Md n sq f) :
    Calls Tryd.prog 67 #[.pointer (some ⟨g, 0, none⟩), .agg #[.int .u64 ((redP n (B256 * u)).a : Int), .int .u64 ((redP n (B256 * u)).b : Int), .int .u64 ((redP n (B256 * u)).c : Int), .int .u64 ((redP n (B256 * u)).d : Int)], .agg #[.int .u64 ((redP n (B256 * v)).a : Int), .int .u64 ((redP n (B256 * v)).b : Int), .int .u64 ((redP n (B256 * v)).c : Int), .int .u64 ((redP n (B256 * v)).d : Int)]] w fun e w' => e = .returned (.agg #[.int .u64 ((redP n (B256 * (u * v))).a : Int), .int .u64 ((redP n (B256 * (u * v))).b : Int), .int .u64 ((redP n (B256 * (u * v))).c : Int), .int .u64 ((redP n (B256 * (u * v))).d : Int)]) ∧ Below w.heap.size w w' := by
  have h := product_any g n sq (redP n (B256 * u)) (redP n (B256 * v)) f w hM md.ok (redP_ok _ _) (redP_ok _ _)
  rw [prod_m md] at h
  exact h
theorem choose_y (k : Nat) (x y z : P4) (w : World) (hk : k ≤ 1) (hx : x.ok) (hy : y.ok) (hz : z = if k = 1 then x else y) :
    Calls Tryd.prog 77 #[.int .u64 (k : Int), .agg #[.int .u64 (x.a : Int), .int .u64 (x.b : Int), .int .u64 (x.c : Int), .int .u64 (x.d : Int)], .agg #[.int .u64 (y.a : Int), .int .u64 (y.b : Int), .int .u64 (y.c : Int), .int .u64 (y.d : Int)]] w fun e w' => e = .returned (.agg #[.int .u64 (z.a : Int), .int .u64 (z.b : Int), .int .u64 (z.c : Int), .int .u64 (z.d : Int)]) ∧ Below w.heap.size w w' := by
  have h := choose_any k x y w hk hx hy
  rw [show chooseP k x y = z from hz.symm] at h
  exact h
end Go.Proofs.YtnkikhnllnbhfaaDoor
