/-
  Rows of bytes behind a first one: append of a slice of slices.
-/
import Derived.Test.YtkiogpnjkmdmgaaDoorKeep
namespace Go.Proofs.YtkiogpnjkmdmgaaDoor
open Go.RowKit

theorem run_append_rows (ty : TypeId) (gs : Nat) (Ap A : Option Addr) (cp c : Nat) (p : List UInt8) (qs : List (List UInt8)) (w : World) (hc : w.cell? ⟨gs, 0, none⟩ = some (.slice Ap p.length cp)) (hp : In w w.heap.size Ap cp p) (hq : PIn w w.heap.size A c qs) (hn : qs.length ≤ 1000000) :
    ∃ A' c' w', (Builtin.append_ #[22, 22] ty #[.slice (some ⟨gs, 0, none⟩) 1 1, .slice A qs.length c]).run Tryd.prog w = .ok (.slice A' (p :: qs).length c') w' ∧ (p :: qs).length ≤ c' ∧ c' ≤ 9223372036854775807 ∧ Below w.heap.size w w' ∧ ∀ g, w'.heap.size ≤ g → Parts w' g A' (p :: qs) := by
  obtain ⟨i, hi, hz, hsz, hby⟩ := info_parts infoS
  have hgs := block_lt_of_cell hc
  simp only at hgs
  rcases Nat.eq_zero_or_pos qs.length with h0 | h0
  · obtain rfl : qs = [] := List.eq_nil_of_length_eq_zero h0
    have hsrc : _root_.Go.Src Tryd.prog i.size 22 (.slice A 0 c) 0 [] w := by
      cases A with
      | none => exact _root_.Go.Src.ofNil w Tryd.underlying22 c
      | some a => exact _root_.Go.Src.ofSlice w Tryd.underlying22 a 0 c [] (by simp) (fun j u hu => by simp at hu) (fun u hu => by simp at hu)
    exact ⟨some ⟨gs, 0, none⟩, 1, w, run_append_nothing w 22 22 ty 27 i Tryd.underlying22 hi _ 1 1 (Nat.le_refl _) _ hsrc, Nat.le_refl _, by omega, Below.refl _ _, fun g hg => Parts.one hc (by omega) hp.1 hp.2.1 (hp.src hg)⟩
  · obtain ⟨hqc, hqm, hqe⟩ := hq
    obtain ⟨gp, op, rfl, hgp, hj⟩ := hqe h0
    obtain ⟨news, hnews⟩ : ∃ news, news = (List.range qs.length).map fun j => (w.cell? ⟨gp, op + j, none⟩).getD undef := ⟨_, rfl⟩
    have hnl : news.length = qs.length := by rw [hnews]; simp
    have hget : ∀ j, j < qs.length → ∃ Aj cj, news[j]? = some (.slice Aj (qs.getD j []).length cj) ∧ w.cell? ⟨gp, op + j, none⟩ = some (.slice Aj (qs.getD j []).length cj) ∧ In w w.heap.size Aj cj (qs.getD j []) := fun j hjl => by
      obtain ⟨Aj, cj, h1, h2⟩ := hj j hjl
      exact ⟨Aj, cj, by rw [hnews, List.getElem?_map, List.getElem?_range hjl]; simp [h1], h1, h2⟩
    clear hnews
    have hsrc : _root_.Go.Src Tryd.prog i.size 22 (.slice (some ⟨gp, op, none⟩) qs.length c) qs.length news w := by
      refine _root_.Go.Src.ofSlice w Tryd.underlying22 ⟨gp, op, none⟩ qs.length c news (by rw [hsz]; omega) (fun j u hu => ?_) (fun u hu => ?_)
      · have hjl : j < qs.length := by have := (List.getElem?_eq_some_iff.1 hu).1; omega
        obtain ⟨Aj, cj, h1, h2, _⟩ := hget j hjl
        rw [h1] at hu
        rw [add_row, h2, ← Option.some.inj hu]
      · obtain ⟨j, hjl, rfl⟩ := List.getElem_of_mem hu
        obtain ⟨Aj, cj, h1, _, _⟩ := hget j (by omega)
        rw [List.getElem?_eq_getElem hjl] at h1
        rw [Option.some.inj h1]; rfl
    have hold : (Builtin.firstCells i.size 1 (.slice (some ⟨gs, 0, none⟩) 1 1)).run Tryd.prog w.drew = .ok (#[.slice Ap p.length cp]) w.drew :=
      run_firstCells_some w.drew i.size 1 ⟨gs, 0, none⟩ 1 1 [.slice Ap p.length cp] (by rw [hsz]; rfl) (fun j u hu => by
        match j, hu with
        | 0, hu => simp at hu; subst hu; simpa [Addr.add] using hc
        | j + 1, hu => simp at hu)
    have hcap := grownCap_ge w (1 + qs.length) 1 27
    have hcap2 := grownCap_le_maxLen w (1 + qs.length) 1 27 (by simp only [maxLen]; omega)
    have hnext : Builtin.nextslicecap (1 + qs.length) 1 * i.bytes ≤ 281474976710656 := by
      rw [hby]
      have := nextslicecap_le (show 1 < 1 + qs.length by omega)
      omega
    have hr := run_append_grow_src w 22 22 ty 27 i (.slice none 0 0) Tryd.underlying22 hi hz (some ⟨gs, 0, none⟩) 1 1 [.slice Ap p.length cp] hold _ qs.length news hsrc (by omega) (by omega) hnext
    have hl : (p :: qs).length = 1 + qs.length := by rw [List.length_cons]; omega
    refine ⟨_, _, _, by rw [hl]; exact hr, by rw [hl]; exact hcap, by simpa [maxLen] using hcap2, (below_drewN (Below.refl _ _) 1).alloc (Nat.le_refl _) _, fun g hg _ => ⟨w.heap.size, 0, rfl, by rw [size_alloc] at hg; simp at hg; omega, fun j hjl => ?_⟩⟩
    have hB : Below w.heap.size w (w.drew.alloc (.cells (([Value.slice Ap p.length cp] ++ news).toArray ++ Builtin.zeroCells (Value.slice none 0 0).cells (grownCap w (1 + qs.length) 1 27 - (1 + qs.length))) 27)) := (below_drewN (Below.refl _ _) 1).alloc (Nat.le_refl _) _
    have hcell : ∀ j u, ([Value.slice Ap p.length cp] ++ news)[j]? = some u → (w.drew.alloc (.cells (([Value.slice Ap p.length cp] ++ news).toArray ++ Builtin.zeroCells (Value.slice none 0 0).cells (grownCap w (1 + qs.length) 1 27 - (1 + qs.length))) 27)).cell? ⟨w.heap.size, 0 + j, none⟩ = some u := fun j u hu => by
      rw [Nat.zero_add, cell_of_row _ w.heap.size j _ _ _ (heap_alloc_new w.drew _)]
      have hlt := (List.getElem?_eq_some_iff.1 hu).1
      rw [Array.getElem?_append_left (by simpa using hlt), List.getElem?_toArray]
      exact hu
    cases j with
    | zero => exact ⟨Ap, cp, hcell 0 _ rfl, hp.1, hp.2.1, (hp.up hB).src hg⟩
    | succ j =>
      obtain ⟨Aj, cj, h1, _, h3⟩ := hget j (by rw [List.length_cons] at hjl; omega)
      refine ⟨Aj, cj, hcell (j + 1) _ ?_, h3.1, h3.2.1, (h3.up hB).src hg⟩
      simpa using h1
theorem wpList_append_rows {ops : Array Oper} {rest : List Oper} {o : Oper} {a : Act} {w : World} {Q : Exit → Act → World → Prop} (hgd : o.guard = none) (s x : Operand)
    (ho : o.op = .call { callee := .builtin .append, args := #[s, x], argTypes := #[22, 22] })
    (gs : Nat) (Ap A : Option Addr) (cp c : Nat) (p : List UInt8) (qs : List (List UInt8)) (hs : a.eval s = .slice (some ⟨gs, 0, none⟩) 1 1) (hx : a.eval x = .slice A qs.length c) (hc : w.cell? ⟨gs, 0, none⟩ = some (.slice Ap p.length cp)) (hp : In w w.heap.size Ap cp p) (hq : PIn w w.heap.size A c qs) (hn : qs.length ≤ 1000000)
    (h : ∀ A' c' w', (p :: qs).length ≤ c' → c' ≤ 9223372036854775807 → Below w.heap.size w w' → (∀ g, w'.heap.size ≤ g → Parts w' g A' (p :: qs)) → wpList Tryd.prog ops Q rest (a.put o.dst (.slice A' (p :: qs).length c')) w') : wpList Tryd.prog ops Q (o :: rest) a w := by
  refine wpList_plain hgd fun K hK' => ?_
  obtain ⟨A', c', w', hr, h1, h2, h3, h4⟩ := run_append_rows o.type gs Ap A cp c p qs w hc hp hq hn
  unfold Oper.wp execOp
  simp only [ho, resolve, invoke, builtin, Sem.run_bind, Sem.run_pure, Result.andThen_ok, List.map_toArray, List.map_cons, List.map_nil, hs, hx, hr]
  exact hK' _ _ (h A' c' w' h1 h2 h3 h4)
end Go.Proofs.YtkiogpnjkmdmgaaDoor
