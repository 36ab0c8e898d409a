/-
  Rows of rows of bytes of the call's own, whose bytes lie elsewhere and are only read; many rows put behind them.
-/
import Derived.Test.YtjachohgffnbiaaPSplitsW
import Derived.Maps.AppendAt
namespace Go.Proofs.Ytjachohgffnbiaa
open Go.RowKit

/-- A row of rows of the call's own (from block base on); what it holds lies below block B and is only read. -/
def RowIn (w : World) (base B : Nat) (v : Value) (ps : List (List UInt8)) : Prop :=
  ∃ cells : List Value, w.ownsRow base 23 1 v ps.length cells ∧ ∀ j, j < ps.length → ∃ Aj cj, cells[j]? = some (.slice Aj (ps.getD j []).length cj) ∧ In w B Aj cj (ps.getD j [])
theorem RowIn.empty (w : World) (B : Nat) : RowIn (w.alloc (.cells #[] 23)) w.heap.size B (.slice (some ⟨w.heap.size, 0, none⟩) 0 0) [] :=
  ⟨[], ⟨rfl, .inr ⟨w.heap.size, 0, #[], rfl, Nat.le_refl _, heap_alloc_new w _, Nat.le_refl _, by decide, rfl, rfl⟩⟩, fun j hj => by simp at hj⟩
theorem RowIn.below {w w' : World} {base B : Nat} {v : Value} {ps : List (List UInt8)} (h : RowIn w base B v ps) (hb : Below w.heap.size w w') (hB : B ≤ w.heap.size) : RowIn w' base B v ps := by
  obtain ⟨cells, ho, hc⟩ := h
  exact ⟨cells, ho.kept (grown_of_below hb none) (by cases e : v.ownBlock with | none => exact .inl rfl | some k => exact .inr (by simp)), fun j hj => by
    obtain ⟨Aj, cj, h1, h2⟩ := hc j hj
    exact ⟨Aj, cj, h1, h2.below (hb.mono hB)⟩⟩
theorem RowIn.slice {w : World} {base B : Nat} {v : Value} {ps : List (List UInt8)} (h : RowIn w base B v ps) (hB : B ≤ w.heap.size) : ∃ A c, v = .slice A ps.length c ∧ PIn w w.heap.size A c ps := by
  obtain ⟨cells, ho, hc⟩ := h
  rcases ho.2 with ⟨rfl, h0⟩ | ⟨g, cap, cur, rfl, hb, hg, hnc, hcm, hcs, ht⟩
  · exact ⟨none, 0, by rw [h0], by omega, by omega, fun h1 => by omega⟩
  · have hlt : g < w.heap.size := by
      rcases Nat.lt_or_ge g w.heap.size with hlt | hge
      · exact hlt
      · rw [Array.getElem?_eq_none hge] at hg; cases hg
    have hcell : ∀ j, j < ps.length → w.cell? ⟨g, 0 + j, none⟩ = cells[j]? := fun j hj => by
      rw [Nat.zero_add, ho.cellAt j (by omega)]
    have hmx : cap ≤ 9223372036854775807 := by simpa [maxLen] using hcm
    refine ⟨some ⟨g, 0, none⟩, cap, rfl, hnc, hmx, fun _ => ⟨g, 0, rfl, hlt, fun j hj => ?_⟩⟩
    obtain ⟨Aj, cj, h1, h2⟩ := hc j hj
    exact ⟨Aj, cj, (hcell j hj).trans h1, in_weak h2 hB⟩
/-- Many rows behind a row of rows. -/
theorem wp_append_rin {o : Oper} {a : Act} {w : World} {K : Act → World → Prop} {Q : Exit → Act → World → Prop} (s x : Operand)
    (ho : o.op = .call { callee := .builtin .append, args := #[s, x], argTypes := #[25, 25] })
    (base B : Nat) (v : Value) (ps qs : List (List UInt8)) (hs : a.eval s = v) (hv : RowIn w base B v ps) (hB : B ≤ base) (hbase : base ≤ w.heap.size)
    (gp op m c : Nat) (hx : a.eval x = .slice (some ⟨gp, op, none⟩) m c) (hm : qs.length = m) (hq : ∀ j, j < qs.length → ∃ Aj cj, w.cell? ⟨gp, op + j, none⟩ = some (.slice Aj (qs.getD j []).length cj) ∧ In w B Aj cj (qs.getD j []))
    (hn : ps.length + m ≤ 1000000)
    (h : ∀ v' w', RowIn w' base B v' (ps ++ qs) → Below base w w' → K (a.put o.dst v') w') : Oper.wp Try.prog o a w K Q := by
  obtain ⟨i, hi, hz, hsz, hby⟩ := info_parts infoS
  obtain ⟨cells, hown, hcell⟩ := hv
  obtain ⟨news, hnl, hnc⟩ : ∃ news : List Value, news.length = m ∧ ∀ j, j < m → ∃ Aj cj, news[j]? = some (.slice Aj (qs.getD j []).length cj) ∧ w.cell? ⟨gp, op + j, none⟩ = news[j]? ∧ In w B Aj cj (qs.getD j []) := by
    refine ⟨(List.range m).map (fun j => (w.cell? ⟨gp, op + j, none⟩).getD (.bool false)), by simp, fun j hj => ?_⟩
    obtain ⟨Aj, cj, h1, h2⟩ := hq j (by omega)
    exact ⟨Aj, cj, by simp [List.getElem?_map, List.getElem?_range hj, h1], by simp [List.getElem?_map, List.getElem?_range hj, h1], h2⟩
  obtain ⟨v', w', hr, h2, h3, _, _⟩ := run_append_own_at (P := Try.prog) w base 25 o.type 23 i _ 1 24 Try.underlying25 hi hz hsz hby rfl (by decide) v ps.length cells hown ⟨gp, op, none⟩ m c news (by rw [hnl]; omega)
    (fun j u hj => by
      have hj2 : j < m := by
        have := List.getElem?_eq_some_iff.1 hj
        obtain ⟨h, _⟩ := this
        omega
      obtain ⟨Aj, cj, _, e, _⟩ := hnc j hj2
      rw [add_row, e, hj])
    (fun u hu => by
      obtain ⟨j, hj, e⟩ := List.getElem_of_mem hu
      obtain ⟨Aj, cj, h1, _⟩ := hnc j (by omega)
      rw [List.getElem?_eq_getElem hj, e] at h1
      cases h1; rfl) (by simp only [maxLen]; omega) (by omega) hbase
  have hBel : Below base w w' := ⟨h3.os, h3.tape, h3.output, h3.size, fun k hk => h3.block k (by omega) (fun e => by have := (hown.lt k e.symm).1; omega)⟩
  unfold Oper.wp execOp
  simp only [ho, resolve, invoke, builtin, Sem.run_bind, Sem.run_pure, Result.andThen_ok, List.map_toArray, List.map_cons, List.map_nil, hs, hx, hr]
  refine h _ w' ⟨cells ++ news, by rw [List.length_append, hm]; exact h2, fun j hj => ?_⟩ hBel
  have hcl : cells.length = ps.length := by have := hown.1; omega
  rw [List.length_append, hm] at hj
  by_cases hjl : j < ps.length
  · obtain ⟨Aj, cj, h1, h2⟩ := hcell j hjl
    have e : (ps ++ qs).getD j [] = ps.getD j [] := by rw [List.getD_eq_getElem?_getD, List.getElem?_append_left hjl, ← List.getD_eq_getElem?_getD]
    rw [e, List.getElem?_append_left (by omega)]
    exact ⟨Aj, cj, h1, h2.below (hBel.mono hB)⟩
  · obtain ⟨Aj, cj, h1, _, h2⟩ := hnc (j - ps.length) (by omega)
    have e : (ps ++ qs).getD j [] = qs.getD (j - ps.length) [] := by rw [List.getD_eq_getElem?_getD, List.getElem?_append_right (by omega), ← List.getD_eq_getElem?_getD]
    rw [e, List.getElem?_append_right (by omega), hcl]
    exact ⟨Aj, cj, h1, h2.below (hBel.mono hB)⟩
theorem wpList_append_rin {ops : Array Oper} {rest : List Oper} {o : Oper} {a : Act} {w : World} {Q : Exit → Act → World → Prop} (hgd : o.guard = none) (s x : Operand)
    (ho : o.op = .call { callee := .builtin .append, args := #[s, x], argTypes := #[25, 25] })
    (base B : Nat) (v : Value) (ps qs : List (List UInt8)) (hs : a.eval s = v) (hv : RowIn w base B v ps) (hB : B ≤ base) (hbase : base ≤ w.heap.size)
    (gp op m c : Nat) (hx : a.eval x = .slice (some ⟨gp, op, none⟩) m c) (hm : qs.length = m) (hq : ∀ j, j < qs.length → ∃ Aj cj, w.cell? ⟨gp, op + j, none⟩ = some (.slice Aj (qs.getD j []).length cj) ∧ In w B Aj cj (qs.getD j []))
    (hn : ps.length + m ≤ 1000000)
    (h : ∀ v' w', RowIn w' base B v' (ps ++ qs) → Below base w w' → wpList Try.prog ops Q rest (a.put o.dst v') w') : wpList Try.prog ops Q (o :: rest) a w :=
  wpList_plain hgd fun _ hK' => wp_append_rin s x ho base B v ps qs hs hv hB hbase gp op m c hx hm hq hn (fun v' w' h1 h2 => hK' _ _ (h v' w' h1 h2))
theorem step_append_rin {ops : Array Oper} {o : Oper} {a : Act} {w : World} {K : Act → World → Prop} {Q : Exit → Act → World → Prop} {E : Prop} (hgd : o.guard = none) (s x : Operand)
    (ho : o.op = .call { callee := .builtin .append, args := #[s, x], argTypes := #[25, 25] })
    (base B : Nat) (v : Value) (ps qs : List (List UInt8)) (hs : a.eval s = v) (hv : RowIn w base B v ps) (hB : B ≤ base) (hbase : base ≤ w.heap.size)
    (gp op m c : Nat) (hx : a.eval x = .slice (some ⟨gp, op, none⟩) m c) (hm : qs.length = m) (hq : ∀ j, j < qs.length → ∃ Aj cj, w.cell? ⟨gp, op + j, none⟩ = some (.slice Aj (qs.getD j []).length cj) ∧ In w B Aj cj (qs.getD j []))
    (hn : ps.length + m ≤ 1000000)
    (h : ∀ v' w', RowIn w' base B v' (ps ++ qs) → Below base w w' → K (a.put o.dst v') w') : if Region.wanted o (yielded ops a.tmps) = true then Oper.wp Try.prog o a w K Q else E := by
  have hw : Region.wanted o (yielded ops a.tmps) = true := by simp [Region.wanted, hgd]
  rw [if_pos hw]
  exact wp_append_rin s x ho base B v ps qs hs hv hB hbase gp op m c hx hm hq hn h
end Go.Proofs.Ytjachohgffnbiaa
