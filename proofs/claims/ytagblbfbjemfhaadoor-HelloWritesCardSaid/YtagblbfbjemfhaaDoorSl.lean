/-
  Joined: Sy, St, Se.
-/
import Derived.Test.YtagblbfbjemfhaaDoorLd
import Derived.Test.YtagblbfbjemfhaaDoorLa
import Derived.Great.Ranges
import Derived.Laws.StructEq
namespace Go.Proofs.YtagblbfbjemfhaaDoor
open Go.RowKit
theorem zSa {α : Type _} (l : List α) (i : Nat) (a : α) : l.toArray.setIfInBounds i a = (l.set i a).toArray := List.setIfInBounds_toArray l i a
theorem zSz {α : Type _} {a b : α} {l : List α} : (a :: l).set 0 b = b :: l := rfl
theorem zSs {α : Type _} {a b : α} {l : List α} {i : Nat} : (a :: l).set (i + 1) b = a :: l.set i b := rfl

section
variable {P : Program} {Q : Exit → Act → World → Prop}
/-- What is asked of the ones before is of the ones before. -/
def textOK : Nat → List (List Nat) → Bool
  | _, [] => true
  | i, js :: J => (js.all fun j => decide (j < i)) && textOK (i + 1) J
theorem textOK_spec : ∀ (J : List (List Nat)) (n : Nat), textOK n J = true → ∀ i, ∀ j ∈ J.getD i [], j < n + i
  | [], n, _, i, j, hj => by simp at hj
  | js :: J, n, h, 0, j, hj => by
    simp only [textOK, Bool.and_eq_true] at h
    have := List.all_eq_true.1 h.1 j (by simpa using hj)
    simpa using this
  | js :: J, n, h, i + 1, j, hj => by
    simp only [textOK, Bool.and_eq_true] at h
    have := textOK_spec J (n + 1) h.2 i j (by simpa using hj)
    omega
end
section
variable {P : Program} {ops : Array Oper} {rest : List Oper} {o : Oper} {a : Act} {w : World} {Q : Exit → Act → World → Prop}
/-- What a new variable of a type holds. -/
def Zero (P : Program) (t : TypeId) (cs : List Value) : Prop := ∃ i z, P.info? t = some i ∧ i.zero = some z ∧ z.cells = cs.toArray
theorem wpList_new_blk (hg : o.guard = none) (t : TypeId) (ho : o.op = .alloc t) (cs : List Value) (hz : Zero P t cs)
    (h : ∀ g w', g = w.heap.size → Blk w' g t cs → Below w.heap.size w w' → wpList P ops Q rest (a.put o.dst (.pointer (some ⟨g, 0, none⟩))) w') : wpList P ops Q (o :: rest) a w := by
  obtain ⟨i, z, h1, h2, h3⟩ := hz
  refine wpList_plain hg fun K hK => ?_
  unfold Oper.wp execOp
  simp [ho, Instr.alloc, zeroValue, typeInfo, h1, h2, newVar, newRow, go_sem]
  have h4 : Blk (w.alloc (.cells z.cells t)) w.heap.size t cs := by rw [h3]; exact Blk.new w t cs
  exact hK _ _ (h _ _ rfl h4 ((Below.refl _ _).alloc (Nat.le_refl _) _))
end
section
variable {P : Program} {o : Oper} {a : Act} {w : World} {K : Act → World → Prop} {Q : Exit → Act → World → Prop} {t rt : TypeId} {x y : Operand} {xs ys : Array Value} {b : Bool}
theorem wp_eqlA (ho : o.op = .binOp .eql t x y rt) (hx : a.eval x = .agg xs) (hy : a.eval y = .agg ys) (hm : P.eqGuardType P.depth t = false) (he : (Op.equalIn 10000 t (.agg xs) (.agg ys)).run P w = .ok b w) (h : K (a.put o.dst (.bool b)) w) : o.wp P a w K Q := by
  have he' : (Op.equalIn Op.maxDepth t (.agg xs) (.agg ys)).run P w = .ok b w := he
  unfold Oper.wp execOp
  simp only [ho, hx, hy, Sem.run_bind, run_eqGuard_agg w _ _ _ _ _ _ hm, Result.andThen_ok, binOp, Op.equal, he', Sem.run_pure]
  exact h
theorem wp_neqA (ho : o.op = .binOp .neq t x y rt) (hx : a.eval x = .agg xs) (hy : a.eval y = .agg ys) (hm : P.eqGuardType P.depth t = false) (he : (Op.equalIn 10000 t (.agg xs) (.agg ys)).run P w = .ok b w) (h : K (a.put o.dst (.bool (!b))) w) : o.wp P a w K Q := by
  have he' : (Op.equalIn Op.maxDepth t (.agg xs) (.agg ys)).run P w = .ok b w := he
  unfold Oper.wp execOp
  simp only [ho, hx, hy, Sem.run_bind, run_eqGuard_agg w _ _ _ _ _ _ hm, Result.andThen_ok, binOp, Op.equal, he', Sem.run_pure]
  exact h
end
end Go.Proofs.YtagblbfbjemfhaaDoor
