/-
  Mc.
-/
import Derived.Test.YtnkikhnllnbhfaaDoorMq
namespace Go.Proofs.YtnkikhnllnbhfaaDoor
open Go.RowKit
theorem Add_v (g : Nat) (n sq x y : P4) (f : Nat) (w : World) (hm : Blk w g 89 (modCells n sq f)) (md : Md n sq f) (hx : x.ok) (hy : y.ok) :
    Calls Tryd.prog 52 #[.pointer (some ⟨g, 0, none⟩), .agg #[.int .u64 (x.a : Int), .int .u64 (x.b : Int), .int .u64 (x.c : Int), .int .u64 (x.d : Int)], .agg #[.int .u64 (y.a : Int), .int .u64 (y.b : Int), .int .u64 (y.c : Int), .int .u64 (y.d : Int)]] w fun e w' => e = .returned (.agg #[.int .u64 ((redP n (x.val + y.val)).a : Int), .int .u64 ((redP n (x.val + y.val)).b : Int), .int .u64 ((redP n (x.val + y.val)).c : Int), .int .u64 ((redP n (x.val + y.val)).d : Int)]) ∧ Below w.heap.size w w' := by
  have e := redP_of md.ok (show 0 < n.val by have := md.big; omega) (addP_ok (n := n) (sq := sq) (f := f) x y) (add_val md hx hy)
  have h := Add_any g n sq x y f w hm md hx hy
  rw [e] at h
  exact h
theorem Sub_v (g : Nat) (n sq x y : P4) (f : Nat) (w : World) (hm : Blk w g 89 (modCells n sq f)) (md : Md n sq f) (hx : x.ok) (hy : y.ok) :
    Calls Tryd.prog 54 #[.pointer (some ⟨g, 0, none⟩), .agg #[.int .u64 (x.a : Int), .int .u64 (x.b : Int), .int .u64 (x.c : Int), .int .u64 (x.d : Int)], .agg #[.int .u64 (y.a : Int), .int .u64 (y.b : Int), .int .u64 (y.c : Int), .int .u64 (y.d : Int)]] w fun e w' => e = .returned (.agg #[.int .u64 ((redP n (x.val % n.val + n.val - y.val % n.val)).a : Int), .int .u64 ((redP n (x.val % n.val + n.val - y.val % n.val)).b : Int), .int .u64 ((redP n (x.val % n.val + n.val - y.val % n.val)).c : Int), .int .u64 ((redP n (x.val % n.val + n.val - y.val % n.val)).d : Int)]) ∧ Below w.heap.size w w' := by
  have e := redP_of md.ok (show 0 < n.val by have := md.big; omega) (subP_ok (n := n) (sq := sq) (f := f) x y) (sub_val md hx hy)
  have h := Sub_any g n sq x y f w hm md hx hy
  rw [e] at h
  exact h
theorem Mul_v (g : Nat) (n sq x y : P4) (f : Nat) (w : World) (hm : Blk w g 89 (modCells n sq f)) (md : Md n sq f) (hx : x.ok) (hy : y.ok) :
    Calls Tryd.prog 53 #[.pointer (some ⟨g, 0, none⟩), .agg #[.int .u64 (x.a : Int), .int .u64 (x.b : Int), .int .u64 (x.c : Int), .int .u64 (x.d : Int)], .agg #[.int .u64 (y.a : Int), .int .u64 (y.b : Int), .int .u64 (y.c : Int), .int .u64 (y.d : Int)]] w fun e w' => e = .returned (.agg #[.int .u64 ((redP n (x.val * y.val)).a : Int), .int .u64 ((redP n (x.val * y.val)).b : Int), .int .u64 ((redP n (x.val * y.val)).c : Int), .int .u64 ((redP n (x.val * y.val)).d : Int)]) ∧ Below w.heap.size w w' := by
  have e := redP_of md.ok (show 0 < n.val by have := md.big; omega) (mulP_ok md hx hy) (mul_val md hx hy)
  have h := Mul_any g n sq x y f w hm md hx hy
  rw [e] at h
  exact h

end Go.Proofs.YtnkikhnllnbhfaaDoor
