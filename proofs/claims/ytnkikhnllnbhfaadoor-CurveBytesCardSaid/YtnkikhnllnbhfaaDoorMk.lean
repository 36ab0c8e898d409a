/-
  Mk.
-/
import Derived.Test.YtnkikhnllnbhfaaDoorMc
import Derived.Test.YtnkikhnllnbhfaaDoorMs
import Derived.Test.YtnkikhnllnbhfaaDoorMr5
namespace Go.Proofs.YtnkikhnllnbhfaaDoor
open Go.RowKit
/-- What came in: two numbers and a third thing, each in a block of its own. -/
structure Par (w wr : World) (m a : P4) (t : TypeId) (cs : List Value) : Prop where
  bm : Blk wr w.heap.size 59 [.int .u64 (m.a : Int), .int .u64 (m.b : Int), .int .u64 (m.c : Int), .int .u64 (m.d : Int)]
  ba : Blk wr (w.heap.size + 1) 59 [.int .u64 (a.a : Int), .int .u64 (a.b : Int), .int .u64 (a.c : Int), .int .u64 (a.d : Int)]
  bb : Blk wr (w.heap.size + 1 + 1) t cs
  bw : Below w.heap.size w wr
theorem Par.below {w wr wr' : World} {m a : P4} {t : TypeId} {cs : List Value} (h : Par w wr m a t cs) (hb : Below wr.heap.size wr wr') : Par w wr' m a t cs :=
  ⟨h.bm.below hb h.bm.lt, h.ba.below hb h.ba.lt, h.bb.below hb h.bb.lt, h.bw.trans (hb.mono h.bw.size)⟩
theorem Par.start (w : World) (m a : P4) (t : TypeId) (arr : Array Value) (cs : List Value) (h : arr = cs.toArray) : Par w (((w.alloc (.cells #[.int .u64 (m.a : Int), .int .u64 (m.b : Int), .int .u64 (m.c : Int), .int .u64 (m.d : Int)] 59)).alloc (.cells #[.int .u64 (a.a : Int), .int .u64 (a.b : Int), .int .u64 (a.c : Int), .int .u64 (a.d : Int)] 59)).alloc (.cells arr t)) m a t cs :=
  ⟨((Blk.new_of w _ _ _ rfl).alloc _).alloc _, (Blk.new2_of w _ _ _ _ rfl).alloc _, Blk.new3_of w _ _ _ _ _ h, fresh_three w _ _ _⟩
theorem Par.alloc {w wr : World} {m a : P4} {t : TypeId} {cs : List Value} (h : Par w wr m a t cs) (ob : Obj) : Par w (wr.alloc ob) m a t cs :=
  ⟨h.bm.alloc _, h.ba.alloc _, h.bb.alloc _, h.bw.alloc h.bw.size _⟩
theorem Par.c {w wr : World} {m a : P4} {t : TypeId} {cs : List Value} (h : Par w wr m a t cs) : wr.cell? ⟨w.heap.size, 0, none⟩ = some (.int .u64 (m.a : Int)) ∧ wr.cell? ⟨w.heap.size, 1, none⟩ = some (.int .u64 (m.b : Int)) ∧ wr.cell? ⟨w.heap.size, 2, none⟩ = some (.int .u64 (m.c : Int)) ∧ wr.cell? ⟨w.heap.size, 3, none⟩ = some (.int .u64 (m.d : Int)) ∧
    wr.cell? ⟨w.heap.size + 1, 0, none⟩ = some (.int .u64 (a.a : Int)) ∧ wr.cell? ⟨w.heap.size + 1, 1, none⟩ = some (.int .u64 (a.b : Int)) ∧ wr.cell? ⟨w.heap.size + 1, 2, none⟩ = some (.int .u64 (a.c : Int)) ∧ wr.cell? ⟨w.heap.size + 1, 3, none⟩ = some (.int .u64 (a.d : Int)) :=
  ⟨h.bm.cell 0, h.bm.cell 1, h.bm.cell 2, h.bm.cell 3, h.ba.cell 0, h.ba.cell 1, h.ba.cell 2, h.ba.cell 3⟩
theorem right_big {m : P4} (hm : m.ok) (h : rightP m = true) : m.a % 2 = 1 ∧ lessP m threeP = false ∧ 2 < m.val := by
  unfold rightP at h
  rw [Bool.and_eq_true] at h
  have h1 : m.a % 2 = 1 := by simpa using h.1
  have h2 : m ≠ oneP := fun e => by
    have := h.2
    rw [eqP_eq.2 e] at this
    exact absurd this (by decide)
  have h3 := val_mod2 m
  have h4 : m.val ≠ 1 := fun e => h2 (P4.ext_val hm oneP_ok (e.trans oneP_val.symm))
  have h5 : 2 < m.val := by omega
  refine ⟨h1, ?_, h5⟩
  rw [lessP_eq hm threeP_ok, threeP_val]
  simp; omega
theorem right_not {m : P4} (_hm : m.ok) (h : rightP m = false) : m.a % 2 = 0 ∨ m.a % 2 = 1 ∧ lessP m threeP = true := by
  rcases Nat.mod_two_eq_zero_or_one m.a with h0 | h1
  · exact .inl h0
  · refine .inr ⟨h1, ?_⟩
    unfold rightP at h
    rw [h1] at h
    have h2 : eqP m oneP = true := by simpa using h
    rw [eqP_eq.1 h2, lessP_eq oneP_ok threeP_ok, threeP_val, oneP_val]
    decide
theorem New_r (m : P4) (w : World) (hm : m.ok) (h : rightP m = true) :
    Calls Tryd.prog 50 #[.agg #[.int .u64 (m.a : Int), .int .u64 (m.b : Int), .int .u64 (m.c : Int), .int .u64 (m.d : Int)]] w fun e w' => ∃ (g : Nat) (sq : P4) (f : Nat), e = .returned (.tuple #[.pointer (some ⟨g, 0, none⟩), .int .i64 0]) ∧ w.heap.size ≤ g ∧ Blk w' g 89 (modCells m sq f) ∧ Md m sq f ∧ Below w.heap.size w w' := by
  obtain ⟨h1, h2, h3⟩ := right_big hm h
  exact New_any m w hm h1 h2 h3
theorem New_n (m : P4) (w : World) (hm : m.ok) (h : rightP m = false) : Calls Tryd.prog 50 #[.agg #[.int .u64 (m.a : Int), .int .u64 (m.b : Int), .int .u64 (m.c : Int), .int .u64 (m.d : Int)]] w fun e w' => e = .returned (.tuple #[.pointer none, .int .i64 1]) ∧ Below w.heap.size w w' := by
  rcases right_not hm h with h0 | ⟨h1, h2⟩
  · exact New_even m w hm h0
  · exact New_small m w hm h1 h2
theorem eqS24 (x : P4) (w : World) : (Op.equalIn 10000 59 (.agg #[.int .u64 (x.a : Int), .int .u64 (x.b : Int), .int .u64 (x.c : Int), .int .u64 (x.d : Int)]) (.agg #[.int .u64 (x.a : Int), .int .u64 (x.b : Int), .int .u64 (x.c : Int), .int .u64 (x.d : Int)])).run Tryd.prog w = .ok true w := by rw [eq24, eqP_same]
theorem eqS23 (x : P4) (w : World) : (Op.equalIn 10000 29 (.agg #[.int .u64 (x.a : Int), .int .u64 (x.b : Int), .int .u64 (x.c : Int), .int .u64 (x.d : Int)]) (.agg #[.int .u64 (x.a : Int), .int .u64 (x.b : Int), .int .u64 (x.c : Int), .int .u64 (x.d : Int)])).run Tryd.prog w = .ok true w := by rw [eq23, eqP_same]

end Go.Proofs.YtnkikhnllnbhfaaDoor
