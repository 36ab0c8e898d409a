/-
  The contracts of package mont's inner calls by a modulus: in one form.
-/
import Derived.Test.YtcjdpllhaebapaaMq
namespace Go.Proofs.Ytcjdpllhaebapaa
open Go.RowKit

theorem Rest_v (g : Nat) (n sq x : P4) (f : Nat) (w : World) (hm : Blk w g 54 (modCells n sq f)) (md : Md n sq f) (hx : x.ok) :
    Calls Try.prog 13 #[.pointer (some ⟨g, 0, none⟩), .agg #[.int .u64 (x.a : Int), .int .u64 (x.b : Int), .int .u64 (x.c : Int), .int .u64 (x.d : Int)]] w fun e w' => e = .returned (.agg #[.int .u64 ((redP n (x.val)).a : Int), .int .u64 ((redP n (x.val)).b : Int), .int .u64 ((redP n (x.val)).c : Int), .int .u64 ((redP n (x.val)).d : Int)]) ∧ Below w.heap.size w w' := by
  have e := redP_of md.ok (show 0 < n.val by have := md.big; omega) (restP_ok md.ok md.sqok hx (f := f)) (rest_val md hx)
  have h := Rest_any g n sq x f w hm md hx
  rw [e] at h
  exact h
theorem Add_v (g : Nat) (n sq x y : P4) (f : Nat) (w : World) (hm : Blk w g 54 (modCells n sq f)) (md : Md n sq f) (hx : x.ok) (hy : y.ok) :
    Calls Try.prog 12 #[.pointer (some ⟨g, 0, none⟩), .agg #[.int .u64 (x.a : Int), .int .u64 (x.b : Int), .int .u64 (x.c : Int), .int .u64 (x.d : Int)], .agg #[.int .u64 (y.a : Int), .int .u64 (y.b : Int), .int .u64 (y.c : Int), .int .u64 (y.d : Int)]] w fun e w' => e = .returned (.agg #[.int .u64 ((redP n (x.val + y.val)).a : Int), .int .u64 ((redP n (x.val + y.val)).b : Int), .int .u64 ((redP n (x.val + y.val)).c : Int), .int .u64 ((redP n (x.val + y.val)).d : Int)]) ∧ Below w.heap.size w w' := by
  have e := redP_of md.ok (show 0 < n.val by have := md.big; omega) (addP_ok (n := n) (sq := sq) (f := f) x y) (add_val md hx hy)
  have h := Add_any g n sq x y f w hm md hx hy
  rw [e] at h
  exact h
theorem Sub_v (g : Nat) (n sq x y : P4) (f : Nat) (w : World) (hm : Blk w g 54 (modCells n sq f)) (md : Md n sq f) (hx : x.ok) (hy : y.ok) :
    Calls Try.prog 17 #[.pointer (some ⟨g, 0, none⟩), .agg #[.int .u64 (x.a : Int), .int .u64 (x.b : Int), .int .u64 (x.c : Int), .int .u64 (x.d : Int)], .agg #[.int .u64 (y.a : Int), .int .u64 (y.b : Int), .int .u64 (y.c : Int), .int .u64 (y.d : Int)]] w fun e w' => e = .returned (.agg #[.int .u64 ((redP n (x.val % n.val + n.val - y.val % n.val)).a : Int), .int .u64 ((redP n (x.val % n.val + n.val - y.val % n.val)).b : Int), .int .u64 ((redP n (x.val % n.val + n.val - y.val % n.val)).c : Int), .int .u64 ((redP n (x.val % n.val + n.val - y.val % n.val)).d : Int)]) ∧ Below w.heap.size w w' := by
  have e := redP_of md.ok (show 0 < n.val by have := md.big; omega) (subP_ok (n := n) (sq := sq) (f := f) x y) (sub_val md hx hy)
  have h := Sub_any g n sq x y f w hm md hx hy
  rw [e] at h
  exact h
theorem Mul_v (g : Nat) (n sq x y : P4) (f : Nat) (w : World) (hm : Blk w g 54 (modCells n sq f)) (md : Md n sq f) (hx : x.ok) (hy : y.ok) :
    Calls Try.prog 19 #[.pointer (some ⟨g, 0, none⟩), .agg #[.int .u64 (x.a : Int), .int .u64 (x.b : Int), .int .u64 (x.c : Int), .int .u64 (x.d : Int)], .agg #[.int .u64 (y.a : Int), .int .u64 (y.b : Int), .int .u64 (y.c : Int), .int .u64 (y.d : Int)]] w fun e w' => e = .returned (.agg #[.int .u64 ((redP n (x.val * y.val)).a : Int), .int .u64 ((redP n (x.val * y.val)).b : Int), .int .u64 ((redP n (x.val * y.val)).c : Int), .int .u64 ((redP n (x.val * y.val)).d : Int)]) ∧ Below w.heap.size w w' := by
  have e := redP_of md.ok (show 0 < n.val by have := md.big; omega) (mulP_ok md hx hy) (mul_val md hx hy)
  have h := Mul_any g n sq x y f w hm md hx hy
  rw [e] at h
  exact h
end Go.Proofs.Ytcjdpllhaebapaa
