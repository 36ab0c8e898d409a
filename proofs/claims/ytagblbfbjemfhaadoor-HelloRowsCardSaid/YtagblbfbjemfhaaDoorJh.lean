/-
  Steps of a region that draws: an empty row, bytes behind it, a new block.
-/
import Derived.Test.YtagblbfbjemfhaaDoorJg
namespace Go.Proofs.YtagblbfbjemfhaaDoor
open Go.RowKit
open HelloMath (Msg zeroM wholeM formM readBy saidM)

/-- a row that does not lie in that block -/
def Off (v : Value) (g : Nat) : Prop := ∀ A n c, v = .slice A n c → ownOf A ≠ some g
theorem off_new {w : World} {base : Nat} {v : Value} {bs : List UInt8} (h : BufV w base v bs) : Off v w.heap.size := fun A n c e => by
  obtain ⟨A', c', e', hb⟩ := h
  rw [e] at e'
  cases e'
  rcases hb.2 with ⟨rfl, _⟩ | ⟨k, rfl, _, hk, _⟩
  · simp [ownOf]
  · simp [ownOf]; omega
section
variable {o : Oper} {a : Act} {w : World} {K : Act → World → Prop} {Q : Exit → Act → World → Prop}
theorem wp_emptyV (ho : o.op = .buildSlice 27 0 #[]) (base : Nat) (hbase : base ≤ w.heap.size)
    (h : ∀ v w', BufV w' base v [] → Below w.heap.size w w' → (∀ g, g < w.heap.size → Off v g) → K (a.put o.dst v) w') : o.wp Tryd.prog a w K Q := by
  have hb := (buf_empty w).base hbase
  have hl : Below w.heap.size w (w.alloc (.cells #[] 5)) := (Below.refl _ _).alloc (Nat.le_refl _) _
  have hoff : ∀ g, g < w.heap.size → Off (.slice (some ⟨w.heap.size, 0, none⟩) 0 0) g := fun g hg A n c e => by
    cases e
    simp [ownOf]; omega
  have h' := h (.slice (some ⟨w.heap.size, 0, none⟩) 0 0) _ ⟨_, _, rfl, hb⟩ hl hoff
  unfold Oper.wp execOp
  simp only [ho]
  go_simp
  exact h'
theorem wp_appF (s x : Operand) (ho : o.op = .call { callee := .builtin .append, args := #[s, x], argTypes := #[27, 27] })
    (base : Nat) (v y : Value) (bs ys : List UInt8) (hs : a.eval s = v) (hv : BufV w base v bs) (hx : a.eval x = y) (hy : SlV w y ys) (hn : bs.length + ys.length ≤ 1099511627776) (hbase : base ≤ w.heap.size)
    (h : ∀ v' w', BufV w' base v' (bs ++ ys) → Below base w w' → (∀ g, g < w.heap.size → Off v g → w'.heap[g]? = w.heap[g]? ∧ Off v' g) → K (a.put o.dst v') w') : o.wp Tryd.prog a w K Q := by
  obtain ⟨A, c, rfl, hb⟩ := hv
  obtain ⟨A2, c2, rfl, hi⟩ := hy
  obtain ⟨A', c', w', hr, h1, h2, _, h3⟩ := run_append_far 27 o.type base A bs.length c bs ys (.slice A2 ys.length c2) w hb (src_in' (hi.src (Nat.le_refl _))) hn hbase
  have e : bs.length + ys.length = (bs ++ ys).length := (List.length_append).symm
  rw [e] at hr h1
  have h' := h (.slice A' (bs ++ ys).length c') w' ⟨_, _, rfl, h1⟩ (below_own (Below.refl _ _) hb h2 (Nat.le_refl _) hbase) (fun g hg hoff => ⟨h2.block g hg (fun e => hoff _ _ _ rfl e.symm), fun A3 n3 c3 e3 => by
    cases e3
    rcases h3 with rfl | ⟨k, rfl, hk⟩
    · exact hoff _ _ _ rfl
    · simp [ownOf]; omega⟩)
  unfold Oper.wp execOp
  simp only [ho, resolve, invoke, builtin, Sem.run_bind, Sem.run_pure, Result.andThen_ok, List.map_toArray, List.map_cons, List.map_nil, hs, hx, hr]
  exact h'
theorem wp_new_blk (t : TypeId) (ho : o.op = .alloc t) (cs : List Value) (hz : Zero Tryd.prog t cs)
    (h : ∀ g w', g = w.heap.size → Blk w' g t cs → Below w.heap.size w w' → K (a.put o.dst (.pointer (some ⟨g, 0, none⟩))) w') : o.wp Tryd.prog a w K Q := by
  obtain ⟨i, z, h1, h2, h3⟩ := hz
  unfold Oper.wp execOp
  simp [ho, Instr.alloc, zeroValue, typeInfo, h1, h2, newVar, newRow, go_sem]
  have h4 : Blk (w.alloc (.cells z.cells t)) w.heap.size t cs := by rw [h3]; exact Blk.new w t cs
  exact h _ _ rfl h4 ((Below.refl _ _).alloc (Nat.le_refl _) _)
end
end Go.Proofs.YtagblbfbjemfhaaDoor
