/-
  Eqs.
-/
import Derived.Test.YtagblbfbjemfhaaDoorLa
import Derived.ChangeKeysEq
import Derived.Shelf.Abstract
namespace Go.Proofs.YtagblbfbjemfhaaDoor
open Go.RowKit
theorem eqItems_ints {P : Program} {e : TypeId} {k : IntKind} (he : P.underlying e = some (.int k)) (xs ys : List Int) (d : Nat) (w : World) :
    ∀ (m i : Nat), i + m = xs.length → i + m = ys.length → (Op.eqItems (d + 1) e 1 (xs.map (Value.int k)).toArray (ys.map (Value.int k)).toArray (List.range' i m)).run P w = .ok (xs.drop i == ys.drop i) w
  | 0, i, hx, hy => by
    have e1 : xs.drop i = [] := List.drop_eq_nil_of_le (by omega)
    have e2 : ys.drop i = [] := List.drop_eq_nil_of_le (by omega)
    rw [e1, e2]
    rfl
  | m + 1, i, hx, hy => by
    have ih := eqItems_ints he xs ys d w m (i + 1) (by omega) (by omega)
    have hix : i < xs.length := by omega
    have hiy : i < ys.length := by omega
    have p1 : (part e (xs.map (Value.int k)).toArray (i * 1)).run P w = .ok (.int k xs[i]) w := by
      simp [part, run_isAgg_plain he rfl, hix]
    have p2 : (part e (ys.map (Value.int k)).toArray (i * 1)).run P w = .ok (.int k ys[i]) w := by
      simp [part, run_isAgg_plain he rfl, hiy]
    rw [List.range'_succ, List.drop_eq_getElem_cons hix, List.drop_eq_getElem_cons hiy]
    simp only [Op.eqItems, Sem.run_bind, p1, p2, Result.andThen_ok, run_equalIn_int w d e k k _ _ he]
    cases h : (xs[i] == ys[i]) with
    | false =>
      rw [List.cons_beq_cons, h, Bool.false_and]
      rfl
    | true =>
      simp only [Bool.not_true, Bool.false_eq_true, if_false, ih]
      rw [List.cons_beq_cons, h, Bool.true_and]
end Go.Proofs.YtagblbfbjemfhaaDoor
