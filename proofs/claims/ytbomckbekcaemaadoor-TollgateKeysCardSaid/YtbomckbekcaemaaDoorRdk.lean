/-
  Rows of attributes put behind one another; the contracts of slices.Grow (of nothing) and slices.Concat (of two rows) over attributes.
-/
import Derived.Test.YtbomckbekcaemaaDoorRdj
import Derived.Lib.AppendZerosOnto
namespace Go.Proofs.YtbomckbekcaemaaDoor
open Go.RowKit

/-- Attributes that lie in a row of cells, all below block B; of their values' blocks ok holds. -/
def AInK (ok : Nat → Prop) (w : World) (B : Nat) (A : Option Addr) (c : Nat) (la : Attrs) : Prop := la.length ≤ c ∧ c ≤ 9223372036854775807 ∧ (0 < la.length → ∃ gp op, A = some ⟨gp, op, none⟩ ∧ gp < B ∧
  ∀ j, j < la.length → ∃ Aj cj, w.cell? ⟨gp, op + j * 2, none⟩ = some (.int .i64 (la.getD j (0, [])).1) ∧ w.cell? ⟨gp, op + j * 2 + 1, none⟩ = some (.slice Aj (la.getD j (0, [])).2.length cj) ∧ In w B Aj cj (la.getD j (0, [])).2 ∧ (0 < (la.getD j (0, [])).2.length → ∀ a, Aj = some a → ok a.block))
theorem AInK.below {ok : Nat → Prop} {w w' : World} {B : Nat} {A : Option Addr} {c : Nat} {la : Attrs} (h : AInK ok w B A c la) (hb : Below B w w') : AInK ok w' B A c la :=
  ⟨h.1, h.2.1, fun h0 => by
    obtain ⟨gp, op, e, hl, hj⟩ := h.2.2 h0
    refine ⟨gp, op, e, hl, fun j hjl => ?_⟩
    obtain ⟨Aj, cj, h1, h2, h3, h4⟩ := hj j hjl
    exact ⟨Aj, cj, (hb.cell (p := ⟨gp, op + j * 2, none⟩) hl).trans h1, (hb.cell (p := ⟨gp, op + j * 2 + 1, none⟩) hl).trans h2, h3.below hb, h4⟩⟩
theorem AInK.weaken {ok ok' : Nat → Prop} {w : World} {B B' : Nat} {A : Option Addr} {c : Nat} {la : Attrs} (h : AInK ok w B A c la) (hB : B ≤ B') (hk : ∀ b, ok b → ok' b) : AInK ok' w B' A c la :=
  ⟨h.1, h.2.1, fun h0 => by
    obtain ⟨gp, op, e, hl, hj⟩ := h.2.2 h0
    refine ⟨gp, op, e, Nat.lt_of_lt_of_le hl hB, fun j hjl => ?_⟩
    obtain ⟨Aj, cj, h1, h2, h3, h4⟩ := hj j hjl
    exact ⟨Aj, cj, h1, h2, in_weak h3 hB, fun h0 a e => hk _ (h4 h0 a e)⟩⟩
theorem AInK.toIn {ok : Nat → Prop} {w : World} {B : Nat} {A : Option Addr} {c : Nat} {la : Attrs} (h : AInK ok w B A c la) : AIn w B A c la :=
  ⟨h.1, h.2.1, fun h0 => by
    obtain ⟨gp, op, e, hl, hj⟩ := h.2.2 h0
    refine ⟨gp, op, e, hl, fun j hjl => ?_⟩
    obtain ⟨Aj, cj, h1, h2, h3, _⟩ := hj j hjl
    exact ⟨Aj, cj, h1, h2, h3⟩⟩
theorem AIn.toK {w : World} {B : Nat} {A : Option Addr} {c : Nat} {la : Attrs} (h : AIn w B A c la) : AInK (· < B) w B A c la :=
  ⟨h.1, h.2.1, fun h0 => by
    obtain ⟨gp, op, e, hl, hj⟩ := h.2.2 h0
    refine ⟨gp, op, e, hl, fun j hjl => ?_⟩
    obtain ⟨Aj, cj, h1, h2, h3⟩ := hj j hjl
    exact ⟨Aj, cj, h1, h2, h3, fun h0 a e => by obtain ⟨gb, ob, e2, hl2, _⟩ := h3.2.2 h0; rw [e2] at e; cases e; exact hl2⟩⟩
/-- A cell of another block may change. -/
theorem AInK.set {ok : Nat → Prop} {w : World} {A : Option Addr} {c g i : Nat} {la : Attrs} (h : AInK ok w w.heap.size A c la) (hA : ∀ a, A = some a → a.block ≠ g) (hk : ∀ b, ok b → b ≠ g) (u : Value) : AInK ok (w.setCell ⟨g, i, none⟩ u) (w.setCell ⟨g, i, none⟩ u).heap.size A c la := by
  have hg : w.grownBy (w.setCell ⟨g, i, none⟩ u) (some g) := grown_setCell (grown_refl w _) (.inl rfl) u
  refine ⟨h.1, h.2.1, fun h0 => ?_⟩
  obtain ⟨gp, op, e, hl, hj⟩ := h.2.2 h0
  have hne : gp ≠ g := hA _ e
  refine ⟨gp, op, e, Nat.lt_of_lt_of_le hl hg.size, fun j hjl => ?_⟩
  obtain ⟨Aj, cj, h1, h2, h3, h4⟩ := hj j hjl
  have hblk := hg.block gp hl (fun e2 => hne (by injection e2))
  exact ⟨Aj, cj, (World.cell?_of_block (w := w) (a := ⟨gp, op + j * 2, none⟩) hblk).trans h1, (World.cell?_of_block (w := w) (a := ⟨gp, op + j * 2 + 1, none⟩) hblk).trans h2, in_weak (h3.grown (Nat.le_refl _) hg (fun h0 x e e2 => by injection e2 with e2; exact hk _ (h4 h0 x e) e2.symm)) hg.size, h4⟩
/-- Attributes in a row of the call's own, whose values may be older; of their blocks ok holds. -/
def ARow0 (ok : Nat → Prop) (w : World) (base : Nat) (v : Value) (la : Attrs) : Prop :=
  ∃ cells : List Value, w.ownsRow base 69 2 v la.length cells ∧ ∀ j, j < la.length → ∃ Aj cj, cells[j * 2]? = some (.int .i64 (la.getD j (0, [])).1) ∧ cells[j * 2 + 1]? = some (.slice Aj (la.getD j (0, [])).2.length cj) ∧ In w w.heap.size Aj cj (la.getD j (0, [])).2 ∧ (0 < (la.getD j (0, [])).2.length → ∀ x, Aj = some x → v.ownBlock ≠ some x.block ∧ ok x.block)
theorem ARow0.nil (ok : Nat → Prop) (w : World) (base : Nat) : ARow0 ok w base (.slice none 0 0) [] := ⟨[], World.ownsRow_nil w base _ 2, fun j hj => by simp at hj⟩
theorem ARow0.below {ok : Nat → Prop} {w w' : World} {base : Nat} {v : Value} {la : Attrs} (h : ARow0 ok w base v la) (hb : Below w.heap.size w w') : ARow0 ok w' base v la := by
  obtain ⟨cells, ho, hc⟩ := h
  exact ⟨cells, ho.kept (grown_of_below hb none) (by cases e : v.ownBlock with | none => exact .inl rfl | some k => exact .inr (by simp)), fun j hj => by
    obtain ⟨Aj, cj, h1, h2, h3, h4⟩ := hc j hj
    exact ⟨Aj, cj, h1, h2, h3.up hb, h4⟩⟩
theorem ARow0.lt {ok : Nat → Prop} {w : World} {base : Nat} {v : Value} {la : Attrs} (h : ARow0 ok w base v la) : ∀ k, v.ownBlock = some k → base ≤ k ∧ k < w.heap.size := by
  obtain ⟨cells, ho, _⟩ := h; exact ho.lt
theorem ARow0.slice {ok : Nat → Prop} {w : World} {base : Nat} {v : Value} {la : Attrs} (h : ARow0 ok w base v la) : ∃ A c, v = .slice A la.length c ∧ AInK ok w w.heap.size A c la := by
  obtain ⟨cells, ho, hc⟩ := h
  rcases ho.2 with ⟨rfl, h0⟩ | ⟨g, cap, cur, rfl, hb, hg, hnc, hcm, hcs, ht⟩
  · exact ⟨none, 0, by rw [h0], by omega, by omega, fun h1 => by omega⟩
  · have hlt : g < w.heap.size := by
      rcases Nat.lt_or_ge g w.heap.size with hlt | hge
      · exact hlt
      · rw [Array.getElem?_eq_none hge] at hg; cases hg
    have hmx : cap ≤ 9223372036854775807 := by simpa [maxLen] using hcm
    have hlen : cells.length = la.length * 2 := ho.1
    refine ⟨some ⟨g, 0, none⟩, cap, rfl, hnc, hmx, fun _ => ⟨g, 0, rfl, hlt, fun j hj => ?_⟩⟩
    obtain ⟨Aj, cj, h1, h2, h3, h4⟩ := hc j hj
    exact ⟨Aj, cj, by rw [Nat.zero_add, ho.cellAt (j * 2) (by omega)]; exact h1, by rw [Nat.zero_add, ho.cellAt (j * 2 + 1) (by omega)]; exact h2, h3, fun h0 a e => (h4 h0 a e).2⟩
theorem run_append_none {T ST : TypeId} (hu : Tryd.prog.underlying ST = some (.slice T)) {size : Nat} (hinf : (Tryd.prog.info? T).map (·.size) = some size) (w : World) (base : Nat) (ty : TypeId) (v : Value) (n c : Nat) (xs : List Value) (hown : w.ownsRow base T size v n xs) :
    (Builtin.append_ #[ST, ST] ty #[v, .slice none 0 c]).run Tryd.prog w = .ok v w := by
  cases hi : Tryd.prog.info? T with
  | none => rw [hi] at hinf; simp at hinf
  | some i =>
    rcases hown.2 with ⟨rfl, rfl⟩ | ⟨g, cap, cur, rfl, _, hg, hnc, _⟩
    · simp [Builtin.append_, run_underlying hu, Go.sizeOf, typeInfo, hi, Builtin.lenOf, Builtin.firstCells]
    · simp [Builtin.append_, run_underlying hu, Go.sizeOf, typeInfo, hi, Builtin.lenOf, Builtin.firstCells, hnc, storeCells]
/-- The cells of a row of attributes. -/
def rowNews (w : World) (gp op m : Nat) : List Value := (List.range (m * 2)).map fun i => (w.cell? ⟨gp, op + i, none⟩).getD undef
theorem rowNews_at {w : World} {gp op m i : Nat} {u : Value} (hi : i < m * 2) (h : w.cell? ⟨gp, op + i, none⟩ = some u) : (rowNews w gp op m)[i]? = some u := by
  unfold rowNews
  rw [List.getElem?_map, List.getElem?_range hi]
  simp [h]
theorem rowNews_cell {w : World} {gp op m : Nat} (hc : ∀ i, i < m * 2 → ∃ u, w.cell? ⟨gp, op + i, none⟩ = some u ∧ u.oneCell' = true) : (rowNews w gp op m).length = m * 2 ∧ (∀ j u, (rowNews w gp op m)[j]? = some u → w.cell? (Addr.add ⟨gp, op, none⟩ j) = some u) ∧ ∀ u ∈ rowNews w gp op m, u.oneCell' = true := by
  refine ⟨by simp [rowNews], fun j u hj => ?_, fun u hu => ?_⟩
  · have hjl : j < m * 2 := by
      rcases Nat.lt_or_ge j (m * 2) with h | h
      · exact h
      · rw [List.getElem?_eq_none (by simpa [rowNews] using h)] at hj; cases hj
    obtain ⟨x, hx, _⟩ := hc j hjl
    rw [rowNews_at hjl hx] at hj
    cases hj
    rw [add_row]; exact hx
  · unfold rowNews at hu
    obtain ⟨i, hi, rfl⟩ := List.mem_map.1 hu
    obtain ⟨x, hx, h1⟩ := hc i (List.mem_range.1 hi)
    rw [hx]; exact h1
theorem aIn_cells {w : World} {gp op : Nat} {la : Attrs} (hrow : ∀ j, j < la.length → ∃ Aj cj, w.cell? ⟨gp, op + j * 2, none⟩ = some (.int .i64 (la.getD j (0, [])).1) ∧ w.cell? ⟨gp, op + j * 2 + 1, none⟩ = some (.slice Aj (la.getD j (0, [])).2.length cj)) : ∀ i, i < la.length * 2 → ∃ u, w.cell? ⟨gp, op + i, none⟩ = some u ∧ u.oneCell' = true := fun i hi => by
  obtain ⟨Aj, cj, h1, h2⟩ := hrow (i / 2) (by omega)
  rcases Nat.mod_two_eq_zero_or_one i with h | h
  · exact ⟨_, by rw [show op + i = op + i / 2 * 2 by omega]; exact h1, rfl⟩
  · exact ⟨_, by rw [show op + i = op + i / 2 * 2 + 1 by omega]; exact h2, rfl⟩
theorem getD_app (la lb : Attrs) (j : Nat) : (la ++ lb).getD j (0, []) = if j < la.length then la.getD j (0, []) else lb.getD (j - la.length) (0, []) := by
  rw [List.getD_eq_getElem?_getD]
  by_cases h : j < la.length
  · rw [if_pos h, List.getElem?_append_left h, List.getD_eq_getElem?_getD]
  · rw [if_neg h, List.getElem?_append_right (by omega), List.getD_eq_getElem?_getD]
theorem ARow0.app {ok : Nat → Prop} {w w' : World} {base B gp op : Nat} {v v' : Value} {la lb : Attrs} {cells : List Value} (hB : B ≤ base) (_hbs : base ≤ w.heap.size) (ho : w.ownsRow base 69 2 v la.length cells)
    (hc : ∀ j, j < la.length → ∃ Aj cj, cells[j * 2]? = some (.int .i64 (la.getD j (0, [])).1) ∧ cells[j * 2 + 1]? = some (.slice Aj (la.getD j (0, [])).2.length cj) ∧ In w w.heap.size Aj cj (la.getD j (0, [])).2 ∧ (0 < (la.getD j (0, [])).2.length → ∀ x, Aj = some x → v.ownBlock ≠ some x.block ∧ ok x.block))
    (hrow : ∀ j, j < lb.length → ∃ Aj cj, w.cell? ⟨gp, op + j * 2, none⟩ = some (.int .i64 (lb.getD j (0, [])).1) ∧ w.cell? ⟨gp, op + j * 2 + 1, none⟩ = some (.slice Aj (lb.getD j (0, [])).2.length cj) ∧ In w B Aj cj (lb.getD j (0, [])).2 ∧ (0 < (lb.getD j (0, [])).2.length → ∀ a, Aj = some a → ok a.block))
    (hw : w'.ownsRow base 69 2 v' (la.length + lb.length) (cells ++ rowNews w gp op lb.length)) (hg : w.grownBy w' v.ownBlock) (hv : v'.ownBlock = v.ownBlock ∨ v'.ownBlock = some w.heap.size) : ARow0 ok w' base v' (la ++ lb) := by
  have hlen : cells.length = la.length * 2 := ho.1
  have keep : ∀ {A : Option Addr} {c : Nat} {xs : List UInt8}, In w w.heap.size A c xs → (0 < xs.length → ∀ a, A = some a → v.ownBlock ≠ some a.block) → In w' w'.heap.size A c xs ∧ (0 < xs.length → ∀ a, A = some a → v'.ownBlock ≠ some a.block) := fun {A c xs} hi ho => by
    refine ⟨in_weak (hi.grown (Nat.le_refl _) hg (fun h0 x e => ho h0 x e)) hg.size, fun h0 a e => ?_⟩
    rcases hv with e2 | e2
    · rw [e2]; exact ho h0 a e
    · rw [e2]
      obtain ⟨gb, ob, e3, hl, _⟩ := hi.2.2 h0
      rw [e3] at e; cases e
      intro e4; injection e4 with e4; exact absurd hl (by rw [e4]; exact Nat.lt_irrefl _)
  refine ⟨_, by rw [List.length_append]; exact hw, fun j hj => ?_⟩
  rw [List.length_append] at hj
  rw [getD_app]
  by_cases hjl : j < la.length
  · rw [if_pos hjl]
    obtain ⟨Aj, cj, h1, h2, h3, h4⟩ := hc j hjl
    have hk := keep h3 (fun h0 a e => (h4 h0 a e).1)
    exact ⟨Aj, cj, by rw [List.getElem?_append_left (by omega)]; exact h1, by rw [List.getElem?_append_left (by omega)]; exact h2, hk.1, fun h0 a e => ⟨hk.2 h0 a e, (h4 h0 a e).2⟩⟩
  · rw [if_neg hjl]
    obtain ⟨Aj, cj, h1, h2, h3, h4⟩ := hrow (j - la.length) (by omega)
    have hk := keep (in_weak h3 (Nat.le_trans hB _hbs)) (fun h0 a e e2 => by
      have hx := (ho.lt _ e2).1
      obtain ⟨gb, ob, e3, hl, _⟩ := h3.2.2 h0
      rw [e3] at e; cases e
      have hx' : base ≤ gb := hx
      omega)
    refine ⟨Aj, cj, ?_, ?_, hk.1, fun h0 a e => ⟨hk.2 h0 a e, h4 h0 a e⟩⟩
    · rw [List.getElem?_append_right (by omega), show j * 2 - cells.length = (j - la.length) * 2 by omega]
      exact rowNews_at (by omega) h1
    · rw [List.getElem?_append_right (by omega), show j * 2 + 1 - cells.length = (j - la.length) * 2 + 1 by omega]
      exact rowNews_at (by omega) (by rw [← Nat.add_assoc]; exact h2)
theorem infAt2 : (Tryd.prog.info? 69).map (·.size) = some 2 := by kernel_rfl
/-- A row of attributes is put behind one of the call's own. -/
theorem wpList_append_attrs {ok : Nat → Prop} {ops : Array Oper} {rest : List Oper} {o : Oper} {a : Act} {w : World} {Q : Exit → Act → World → Prop} (hgd : o.guard = none) (s x : Operand) (ho : o.op = .call { callee := .builtin .append, args := #[s, x], argTypes := #[28, 28] })
    (base B : Nat) (hB : B ≤ base) (v : Value) (la lb : Attrs) (hs : a.eval s = v) (hown : ARow0 ok w base v la) (hbase : base ≤ w.heap.size) (A : Option Addr) (c m : Nat) (hm : lb.length = m) (hx : a.eval x = .slice A m c) (hA : AInK ok w B A c lb) (hn : la.length + m ≤ 1000000)
    (h : ∀ v' w', ARow0 ok w' base v' (la ++ lb) → w.grownBy w' v.ownBlock → (v'.ownBlock = v.ownBlock ∨ v'.ownBlock = some w.heap.size) → wpList Tryd.prog ops Q rest (a.put o.dst v') w') : wpList Tryd.prog ops Q (o :: rest) a w := by
  subst hm
  obtain ⟨cells, hcells, hc⟩ := hown
  by_cases h0 : 0 < lb.length
  · obtain ⟨gp, op, rfl, hgp, hrow⟩ := hA.2.2 h0
    obtain ⟨n1, n2, n3⟩ := rowNews_cell (aIn_cells (fun j hj => by obtain ⟨Aj, cj, h1, h2, _⟩ := hrow j hj; exact ⟨Aj, cj, h1, h2⟩))
    refine wpList_append_own (z := .agg #[.int .i64 0, .slice none 0 0]) (size := 2) (bytes := 32) Tryd.underlying28 infAttr rfl (by decide) (by decide) hgd s x ho base v la.length cells hs hcells hbase ⟨gp, op, none⟩ lb.length c hx (rowNews w gp op lb.length) n1 n2 n3 hn ?_
    intro v' w' hw' hg' hv'
    exact h v' w' (ARow0.app hB hbase hcells hc hrow hw' hg' hv') hg' hv'
  · have hl : lb = [] := List.eq_nil_of_length_eq_zero (by omega)
    subst hl
    have hfin : ∀ v' w', w'.ownsRow base 69 2 v' (la.length + 0) (cells ++ []) → w.grownBy w' v.ownBlock → (v'.ownBlock = v.ownBlock ∨ v'.ownBlock = some w.heap.size) → wpList Tryd.prog ops Q rest (a.put o.dst v') w' := fun v' w' hw' hg' hv' =>
      h v' w' (ARow0.app (gp := 0) (op := 0) (lb := []) hB hbase hcells hc (fun j hj => absurd hj (Nat.not_lt_zero _)) (by simpa [rowNews] using hw') hg' hv') hg' hv'
    cases A with
    | none =>
      refine wpList_plain hgd fun _ hK' => ?_
      unfold Oper.wp execOp
      simp only [ho, resolve, invoke, builtin, Sem.run_bind, Sem.run_pure, Result.andThen_ok, List.map_toArray, List.map_cons, List.map_nil, hs, hx, List.length_nil, run_append_none Tryd.underlying28 infAt2 w base o.type v la.length c cells hcells]
      exact hK' _ _ (hfin v w (by simpa using hcells) (grown_refl _ _) (.inl rfl))
    | some ad =>
      refine wpList_append_own (z := .agg #[.int .i64 0, .slice none 0 0]) (size := 2) (bytes := 32) Tryd.underlying28 infAttr rfl (by decide) (by decide) hgd s x ho base v la.length cells hs hcells hbase ad 0 c hx [] rfl (by simp) (by simp) (by simpa using hn) ?_
      exact fun v' w' hw' hg' hv' => hfin v' w' hw' hg' hv'
set_option maxRecDepth 100000 in
set_option maxHeartbeats 1000000 in
theorem grow_e (ok : Nat → Prop) (n : Nat) (w : World) (hn : n ≤ 1000000) :
    Calls Tryd.prog 84 #[.slice none 0 0, .int .i64 (n : Int)] w fun e w' => ∃ v, e = .returned v ∧ ARow0 ok w' w.heap.size v [] ∧ Below w.heap.size w w' := by
  by_cases h0 : n = 0
  · subst h0
    go_enter Tryd.func84, Tryd.ntmps84
    go_wp2
    go_ret
    exact ⟨_, rfl, ARow0.nil _ _ _, Below.refl _ _⟩
  · have hd : (n : Int) > 0 := by omega
    have hd2 : ¬ (n : Int) < 0 := by omega
    have hw : wrap64 (n : Int) = (n : Int) := by unfold wrap64; omega
    obtain ⟨i0, hi0, hz0, hsz, hbt⟩ : ∃ i0, Tryd.prog.info? 69 = some i0 ∧ i0.zero = some (.agg #[.int .i64 0, .slice none 0 0]) ∧ i0.size = 2 ∧ i0.bytes = 32 := by
      have hinf := infAttr
      cases hi : Tryd.prog.info? 69 with
      | none => rw [hi] at hinf; simp at hinf
      | some i => rw [hi] at hinf; simp only [Option.map_some, Option.some.injEq, Prod.mk.injEq] at hinf; exact ⟨i, rfl, hinf.1, hinf.2.1, hinf.2.2⟩
    have hrz : ∀ ty, (Builtin.append_ #[28, 3] ty #[.slice none 0 0, .int .i64 (n : Int)]).run Tryd.prog w = .ok (.slice (some ⟨w.heap.size, 0, none⟩) n (grownCap w n 0 69)) (w.drew.alloc (.cells (#[] ++ Builtin.zeroCells #[.int .i64 0, .slice none 0 0] n ++ Builtin.zeroCells #[.int .i64 0, .slice none 0 0] (grownCap w n 0 69 - n)) 69)) := fun ty => by
      have h := Lib.run_append_grow_zeros w 28 3 ty 69 i0 _ .i64 .i64 Tryd.underlying28 Tryd.underlying3 hi0 hz0 none 0 0 [] (run_firstCells_none w.drew i0.size 0 0 0) n (by omega) (by omega) (by omega) (by omega) (by rw [hbt]; omega)
        (by rw [Nat.zero_add]; exact growslice_fits (by omega) (by rw [hbt]; omega))
      rw [Nat.zero_add] at h
      exact h
    have hGn : n ≤ grownCap w n 0 69 := grownCap_ge w _ _ _
    have hG63 : grownCap w n 0 69 ≤ maxLen := grownCap_le_maxLen w n 0 69 (by unfold maxLen; omega)
    obtain ⟨G, hG⟩ : ∃ G, G = grownCap w n 0 69 := ⟨_, rfl⟩
    rw [← hG] at hrz hGn hG63
    have hcs : (#[] ++ Builtin.zeroCells #[.int .i64 0, .slice none 0 0] n ++ Builtin.zeroCells #[.int .i64 0, .slice none 0 0] (G - n)).size = G * 2 := by
      rw [Array.size_append, Array.size_append, size_zeroCells, size_zeroCells]
      simp
      omega
    obtain ⟨cs, hce⟩ : ∃ cs, cs = #[] ++ Builtin.zeroCells #[.int .i64 0, .slice none 0 0] n ++ Builtin.zeroCells #[.int .i64 0, .slice none 0 0] (G - n) := ⟨_, rfl⟩
    rw [← hce] at hrz hcs
    have HG := Lib.hid (And.intro hGn (And.intro hG63 hcs))
    have hG0 : (0 : Int) ≤ (G : Int) := by omega
    clear h0 hG hGn hG63 hcs hce hi0 hz0 hsz hbt
    go_enter Tryd.func84, Tryd.ntmps84
    go_wp2_with ((with_reducible refine (?_ : wpList _ _ _ (Oper.mk (some 22) _ _ _ _ _ :: _) _ _)); go_loud (refine Lib.wpList_append_run _ rfl (.tmp 20) (.tmp 21) 28 3 rfl (.slice none 0 0) (.int .i64 (n : Int)) rfl rfl _ _ (hrz _) ?_))
    go_ret
    have hb : Below w.heap.size w (w.drew.alloc (.cells cs 69)) := (below_drewN (Below.refl _ _) 1).alloc (Nat.le_refl _) _
    refine ⟨_, rfl, ⟨[], ⟨rfl, .inr ⟨w.heap.size, G, cs, rfl, Nat.le_refl _, heap_alloc_new w.drew _, Nat.zero_le _, HG.out.2.1, HG.out.2.2, rfl⟩⟩, fun j hj => absurd hj (Nat.not_lt_zero _)⟩, hb⟩
theorem row_below {ok : Nat → Prop} {w0 w w' : World} {v : Value} {la : Attrs} (h : Below w0.heap.size w0 w) (hr : ARow0 ok w w0.heap.size v la) (hg : w.grownBy w' v.ownBlock) : Below w0.heap.size w0 w' :=
  h.trans ⟨hg.os, hg.tape, hg.output, hg.size, fun k hk => hg.block k (Nat.lt_of_lt_of_le hk h.size) (fun e => by have := (hr.lt _ e.symm).1; omega)⟩
theorem two_cases {P : Value → Prop} {i : Value} (h : i = .int .i64 0 ∨ i = .int .i64 1 ∨ i = .int .i64 2) (h0 : P (.int .i64 0)) (h1 : P (.int .i64 1)) (h2 : P (.int .i64 2)) : P i := by
  rcases h with rfl | rfl | rfl <;> assumption
set_option maxRecDepth 100000 in
set_option maxHeartbeats 1000000 in
theorem concat2_e (ok : Nat → Prop) (gr n0 n1 c0 c1 : Nat) (A0 A1 : Option Addr) (la lb : Attrs) (w : World) (hgr : gr < w.heap.size) (h0 : w.cell? ⟨gr, 0, none⟩ = some (.slice A0 n0 c0)) (h1 : w.cell? ⟨gr, 1, none⟩ = some (.slice A1 n1 c1)) (hn0 : la.length = n0) (hn1 : lb.length = n1) (hA0 : AInK ok w w.heap.size A0 c0 la) (hA1 : AInK ok w w.heap.size A1 c1 lb) (hm0 : n0 ≤ 400000) (hm1 : n1 ≤ 400000) :
    Calls Tryd.prog 66 #[.slice (some ⟨gr, 0, none⟩) 2 2] w fun e w' => ∃ v, e = .returned v ∧ ARow0 ok w' w.heap.size v (la ++ lb) ∧ Below w.heap.size w w' := by
  have HC0 := Lib.hid (fun (W : World) (h : Below w.heap.size w W) => (show W.cell? ⟨gr, 0, none⟩ = some (.slice A0 n0 c0) from (h.cell (p := ⟨gr, 0, none⟩) hgr).trans h0))
  have HC1 := Lib.hid (fun (W : World) (h : Below w.heap.size w W) => (show W.cell? ⟨gr, 1, none⟩ = some (.slice A1 n1 c1) from (h.cell (p := ⟨gr, 1, none⟩) hgr).trans h1))
  have HA0 := Lib.hid (And.intro hA0 (And.intro hn0 hm0))
  have HA1 := Lib.hid (And.intro hA1 (And.intro hn1 hm1))
  obtain ⟨N, hN⟩ : ∃ N, n0 + n1 = N := ⟨_, rfl⟩
  have HNN := Lib.hid hN
  have hw0 : wrap64 (n0 : Int) = (n0 : Int) := by unfold wrap64; omega
  have hw1 : wrap64 (N : Int) = (N : Int) := by unfold wrap64; omega
  have hs1 : (n0 : Int) + (n1 : Int) = (N : Int) := by omega
  have hd0 : ¬ (n0 : Int) < 0 := by omega
  have hd1 : ¬ (N : Int) < 0 := by omega
  have HGR := Lib.hid (fun (W : World) => grow_e ok N W (by omega))
  clear hgr h0 h1 hn0 hn1 hA0 hA1 hm0 hm1 hN
  go_enter Tryd.func66, Tryd.ntmps66
  go_wp2
  go_loopw [11, 3] (fun i s wr => w = wr ∧ ((i = .int .i64 0 ∧ s = .int .i64 0) ∨ (i = .int .i64 1 ∧ s = .int .i64 (n0 : Int)) ∨ (i = .int .i64 2 ∧ s = .int .i64 (N : Int)))) (fun i _ _ => 2 - (intOf i).toNat)
  case atStart => exact ⟨rfl, .inl ⟨rfl, rfl⟩⟩
  case round =>
    obtain ⟨hww, hrel⟩ := hrel
    subst hww
    have hc0 := HC0.out w (Below.refl _ _)
    have hc1 := HC1.out w (Below.refl _ _)
    rcases hrel with ⟨rfl, rfl⟩ | ⟨rfl, rfl⟩ | ⟨rfl, rfl⟩
    · go_wp2
      go_roundw
      case rel => exact ⟨trivial, .inr (.inl ⟨rfl, by rw [hw0]⟩)⟩
      case measure => decide
    · go_wp2
      go_roundw
      case rel => exact ⟨trivial, .inr (.inr ⟨rfl, by rw [hw1]⟩)⟩
      case measure => decide
    · clear hc0 hc1 hw0 hs1 hd0
      go_wp2_with (go_at_call 84; refine (HGR.out _).mono ?_; rintro e w2 ⟨v2, rfl, hAR2, hb2⟩)
      go_loopw [27, 6] (fun i v wl => Below w.heap.size w wl ∧ ((i = .int .i64 0 ∧ ARow0 ok wl w.heap.size v []) ∨ (i = .int .i64 1 ∧ ARow0 ok wl w.heap.size v la) ∨ (i = .int .i64 2 ∧ ARow0 ok wl w.heap.size v (la ++ lb)))) (fun i _ _ => 2 - (intOf i).toNat)
      case atStart => exact ⟨hb2, .inl ⟨rfl, hAR2⟩⟩
      case round =>
        obtain ⟨hbl, hrel⟩ := hrel
        have HBL := Lib.hid hbl
        clear hb2 hAR2
        rcases hrel with ⟨rfl, hAR⟩ | ⟨rfl, hAR⟩ | ⟨rfl, hAR⟩
        · have hc0 := HC0.out _ hbl
          have HAR := Lib.hid hAR
          clear hAR hbl
          go_wp2_with (((with_reducible refine (?_ : wpList _ _ _ (Oper.mk (some 33) _ _ _ _ _ :: _) _ _)); go_loud (refine wpList_append_attrs rfl (.tmp 31) (.tmp 32) rfl w.heap.size w.heap.size (Nat.le_refl _) _ [] la rfl HAR.out HBL.out.size A0 c0 n0 HA0.out.2.1 rfl (HA0.out.1.below HBL.out) (by have := HA0.out.2.2; simp; omega) ?_); intro v3 w3 hA3 hg3 hv3))
          have HA3 := Lib.hid hA3
          have HB3 := Lib.hid (row_below HBL.out HAR.out hg3)
          clear hA3 hg3 hv3 HAR HBL hc0
          go_roundw
          case rel => exact ⟨HB3.out, .inr (.inl ⟨rfl, HA3.out⟩)⟩
          case measure => decide
        · have hc1 := HC1.out _ hbl
          have HAR := Lib.hid hAR
          clear hAR hbl
          go_wp2_with (((with_reducible refine (?_ : wpList _ _ _ (Oper.mk (some 33) _ _ _ _ _ :: _) _ _)); go_loud (refine wpList_append_attrs rfl (.tmp 31) (.tmp 32) rfl w.heap.size w.heap.size (Nat.le_refl _) _ la lb rfl HAR.out HBL.out.size A1 c1 n1 HA1.out.2.1 rfl (HA1.out.1.below HBL.out) (by have := HA0.out.2; have := HA1.out.2; omega) ?_); intro v3 w3 hA3 hg3 hv3))
          have HA3 := Lib.hid hA3
          have HB3 := Lib.hid (row_below HBL.out HAR.out hg3)
          clear hA3 hg3 hv3 HAR HBL hc1
          go_roundw
          case rel => exact ⟨HB3.out, .inr (.inr ⟨rfl, HA3.out⟩)⟩
          case measure => decide
        · have HAR := Lib.hid hAR
          clear hAR hbl
          go_wp2
          go_ret
          exact ⟨_, rfl, HAR.out, HBL.out⟩
end Go.Proofs.YtbomckbekcaemaaDoor
