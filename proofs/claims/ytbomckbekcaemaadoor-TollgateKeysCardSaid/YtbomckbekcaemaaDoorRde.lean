/-
  Rows of structs of the call's own: more put behind; rows of attributes.
-/
import Derived.Test.YtbomckbekcaemaaDoorRdd
import Derived.Maps.AppendAt
namespace Go.Proofs.YtbomckbekcaemaaDoor
open Go.RowKit

theorem wp_append_own {T ST : TypeId} {z : Value} {size bytes : Nat} (hu : Tryd.prog.underlying ST = some (.slice T)) (hinf : (Tryd.prog.info? T).map (fun i => (i.zero, i.size, i.bytes)) = some (some z, size, bytes)) (hzs : z.cells.size = size) (hs0 : 0 < size) (hby : bytes ≤ 10000)
    {o : Oper} {a : Act} {w : World} {K : Act → World → Prop} {Q : Exit → Act → World → Prop} (s x : Operand) (ho : o.op = .call { callee := .builtin .append, args := #[s, x], argTypes := #[ST, ST] })
    (base : Nat) (v : Value) (n : Nat) (xs : List Value) (hs : a.eval s = v) (hown : w.ownsRow base T size v n xs) (hbase : base ≤ w.heap.size)
    (ad : Addr) (m c : Nat) (hx : a.eval x = .slice (some ad) m c) (news : List Value) (hl : news.length = m * size) (hnews : ∀ j u, news[j]? = some u → w.cell? (ad.add j) = some u) (h1 : ∀ u ∈ news, u.oneCell' = true) (hn : n + m ≤ 1000000)
    (h : ∀ v' w', w'.ownsRow base T size v' (n + m) (xs ++ news) → w.grownBy w' v.ownBlock → (v'.ownBlock = v.ownBlock ∨ v'.ownBlock = some w.heap.size) → K (a.put o.dst v') w') : Oper.wp Tryd.prog o a w K Q := by
  cases hi : Tryd.prog.info? T with
  | none => rw [hi] at hinf; simp at hinf
  | some i =>
    rw [hi] at hinf
    simp only [Option.map_some, Option.some.injEq, Prod.mk.injEq] at hinf
    obtain ⟨hz, hsz, hb⟩ := hinf
    have hbn : (n + m) * bytes ≤ 140737488355328 := Nat.le_trans (Nat.mul_le_mul hn hby) (by decide)
    obtain ⟨v', w', hr, h2, h3, _, h4⟩ := run_append_own_at (P := Tryd.prog) w base ST o.type T i z size bytes hu hi hz hsz hb hzs hs0 v n xs hown ad m c news hl hnews h1 (by simp only [maxLen]; omega) hbn hbase
    unfold Oper.wp execOp
    simp only [ho, resolve, invoke, builtin, Sem.run_bind, Sem.run_pure, Result.andThen_ok, List.map_toArray, List.map_cons, List.map_nil, hs, hx, hr]
    exact h _ _ h2 h3 h4
theorem wpList_append_own {T ST : TypeId} {z : Value} {size bytes : Nat} (hu : Tryd.prog.underlying ST = some (.slice T)) (hinf : (Tryd.prog.info? T).map (fun i => (i.zero, i.size, i.bytes)) = some (some z, size, bytes)) (hzs : z.cells.size = size) (hs0 : 0 < size) (hby : bytes ≤ 10000)
    {ops : Array Oper} {rest : List Oper} {o : Oper} {a : Act} {w : World} {Q : Exit → Act → World → Prop} (hgd : o.guard = none) (s x : Operand) (ho : o.op = .call { callee := .builtin .append, args := #[s, x], argTypes := #[ST, ST] })
    (base : Nat) (v : Value) (n : Nat) (xs : List Value) (hs : a.eval s = v) (hown : w.ownsRow base T size v n xs) (hbase : base ≤ w.heap.size)
    (ad : Addr) (m c : Nat) (hx : a.eval x = .slice (some ad) m c) (news : List Value) (hl : news.length = m * size) (hnews : ∀ j u, news[j]? = some u → w.cell? (ad.add j) = some u) (h1 : ∀ u ∈ news, u.oneCell' = true) (hn : n + m ≤ 1000000)
    (h : ∀ v' w', w'.ownsRow base T size v' (n + m) (xs ++ news) → w.grownBy w' v.ownBlock → (v'.ownBlock = v.ownBlock ∨ v'.ownBlock = some w.heap.size) → wpList Tryd.prog ops Q rest (a.put o.dst v') w') : wpList Tryd.prog ops Q (o :: rest) a w :=
  wpList_plain hgd fun _ hK' => wp_append_own hu hinf hzs hs0 hby s x ho base v n xs hs hown hbase ad m c hx news hl hnews h1 hn (fun v' w' h2 h3 h4 => hK' _ _ (h v' w' h2 h3 h4))
theorem step_append_own {T ST : TypeId} {z : Value} {size bytes : Nat} (hu : Tryd.prog.underlying ST = some (.slice T)) (hinf : (Tryd.prog.info? T).map (fun i => (i.zero, i.size, i.bytes)) = some (some z, size, bytes)) (hzs : z.cells.size = size) (hs0 : 0 < size) (hby : bytes ≤ 10000)
    {ops : Array Oper} {o : Oper} {a : Act} {w : World} {K : Act → World → Prop} {Q : Exit → Act → World → Prop} {E : Prop} (hgd : o.guard = none) (s x : Operand) (ho : o.op = .call { callee := .builtin .append, args := #[s, x], argTypes := #[ST, ST] })
    (base : Nat) (v : Value) (n : Nat) (xs : List Value) (hs : a.eval s = v) (hown : w.ownsRow base T size v n xs) (hbase : base ≤ w.heap.size)
    (ad : Addr) (m c : Nat) (hx : a.eval x = .slice (some ad) m c) (news : List Value) (hl : news.length = m * size) (hnews : ∀ j u, news[j]? = some u → w.cell? (ad.add j) = some u) (h1 : ∀ u ∈ news, u.oneCell' = true) (hn : n + m ≤ 1000000)
    (h : ∀ v' w', w'.ownsRow base T size v' (n + m) (xs ++ news) → w.grownBy w' v.ownBlock → (v'.ownBlock = v.ownBlock ∨ v'.ownBlock = some w.heap.size) → K (a.put o.dst v') w') : if Region.wanted o (yielded ops a.tmps) = true then Oper.wp Tryd.prog o a w K Q else E := by
  have hw : Region.wanted o (yielded ops a.tmps) = true := by simp [Region.wanted, hgd]
  rw [if_pos hw]
  exact wp_append_own hu hinf hzs hs0 hby s x ho base v n xs hs hown hbase ad m c hx news hl hnews h1 hn h
/-- A slice of bytes stays, whatever grows in another block. -/
theorem In.grown {w w' : World} {B c : Nat} {A : Option Addr} {xs : List UInt8} {r : Option Nat} (h : In w B A c xs) (hB : B ≤ w.heap.size) (hg : w.grownBy w' r) (hr : 0 < xs.length → ∀ x, A = some x → r ≠ some x.block) : In w' B A c xs :=
  ⟨h.1, h.2.1, fun h0 => by
    obtain ⟨gb, ob, e, hl, hby⟩ := h.2.2 h0
    refine ⟨gb, ob, e, hl, fun j hj => ?_⟩
    have hblk := hg.block gb (Nat.lt_of_lt_of_le hl hB) (fun e2 => hr h0 _ e e2.symm)
    rw [← hby j hj]
    exact World.cell?_of_block (w := w) hblk⟩
theorem infAttr : (Tryd.prog.info? 69).map (fun i => (i.zero, i.size, i.bytes)) = some (some (.agg #[.int .i64 0, .slice none 0 0]), 2, 32) := by kernel_rfl
/-- Attributes in a row of the call's own, whose values lie elsewhere. -/
def ARow (w : World) (base : Nat) (v : Value) (la : Attrs) : Prop :=
  ∃ cells : List Value, w.ownsRow base 69 2 v la.length cells ∧ ∀ j, j < la.length → ∃ Aj cj, cells[j * 2]? = some (.int .i64 (la.getD j (0, [])).1) ∧ cells[j * 2 + 1]? = some (.slice Aj (la.getD j (0, [])).2.length cj) ∧ In w w.heap.size Aj cj (la.getD j (0, [])).2 ∧ (0 < (la.getD j (0, [])).2.length → ∀ x, Aj = some x → v.ownBlock ≠ some x.block ∧ base ≤ x.block)
theorem ARow.nil (w : World) (base : Nat) : ARow w base (.slice none 0 0) [] := ⟨[], World.ownsRow_nil w base _ 2, fun j hj => by simp at hj⟩
theorem getD_snocA (la : Attrs) (a : Int × List UInt8) (j : Nat) : (la ++ [a]).getD j (0, []) = if j < la.length then la.getD j (0, []) else if j = la.length then a else (0, []) := by
  rw [List.getD_eq_getElem?_getD]
  by_cases h : j < la.length
  · rw [if_pos h, List.getElem?_append_left h, List.getD_eq_getElem?_getD]
  · rw [if_neg h, List.getElem?_append_right (by omega)]
    by_cases h2 : j = la.length
    · subst h2; simp
    · rw [if_neg h2, List.getElem?_eq_none (by simp; omega)]; rfl
theorem ARow.below {w w' : World} {base : Nat} {v : Value} {la : Attrs} (h : ARow w base v la) (hb : Below w.heap.size w w') : ARow w' base v la := by
  obtain ⟨cells, ho, hc⟩ := h
  exact ⟨cells, ho.kept (grown_of_below hb none) (by cases e : v.ownBlock with | none => exact .inl rfl | some k => exact .inr (by simp)), fun j hj => by
    obtain ⟨Aj, cj, h1, h2, h3, h4⟩ := hc j hj
    exact ⟨Aj, cj, h1, h2, h3.up hb, h4⟩⟩
/-- What lies behind one attribute more. -/
theorem ARow.snoc {w w' : World} {base : Nat} {v v' : Value} {la : Attrs} {kd : Int} {x : List UInt8} {Ax : Option Addr} {cx : Nat} {XS : List Value} (_h : ARow w base v la) (hw : w'.ownsRow base 69 2 v' (la.length + 1) XS) (hg : w.grownBy w' v.ownBlock) (hv : v'.ownBlock = v.ownBlock ∨ v'.ownBlock = some w.heap.size)
    (hx : In w w.heap.size Ax cx x) (hxo : 0 < x.length → ∀ a, Ax = some a → v.ownBlock ≠ some a.block ∧ base ≤ a.block) (cells : List Value) (hcl : XS = cells ++ [.int .i64 kd, .slice Ax x.length cx]) (hch : w.ownsRow base 69 2 v la.length cells ∧ ∀ j, j < la.length → ∃ Aj cj, cells[j * 2]? = some (.int .i64 (la.getD j (0, [])).1) ∧ cells[j * 2 + 1]? = some (.slice Aj (la.getD j (0, [])).2.length cj) ∧ In w w.heap.size Aj cj (la.getD j (0, [])).2 ∧ (0 < (la.getD j (0, [])).2.length → ∀ x, Aj = some x → v.ownBlock ≠ some x.block ∧ base ≤ x.block)) :
    ARow w' base v' (la ++ [(kd, x)]) := by
  subst hcl
  have hlen : cells.length = la.length * 2 := hch.1.1
  have keep : ∀ {A : Option Addr} {c : Nat} {xs : List UInt8}, In w w.heap.size A c xs → (0 < xs.length → ∀ a, A = some a → v.ownBlock ≠ some a.block ∧ base ≤ a.block) → In w' w'.heap.size A c xs ∧ (0 < xs.length → ∀ a, A = some a → v'.ownBlock ≠ some a.block ∧ base ≤ a.block) := fun {A c xs} hi ho => by
    refine ⟨in_weak (hi.grown (Nat.le_refl _) hg (fun h0 x e => (ho h0 x e).1)) hg.size, fun h0 a e => ⟨?_, (ho h0 a e).2⟩⟩
    rcases hv with e2 | e2
    · rw [e2]; exact (ho h0 a e).1
    · rw [e2]
      obtain ⟨gb, ob, e3, hl, _⟩ := hi.2.2 h0
      rw [e3] at e; cases e
      intro e4; injection e4 with e4; exact absurd hl (by rw [e4]; exact Nat.lt_irrefl _)
  refine ⟨_, by rw [List.length_append]; exact hw, fun j hj => ?_⟩
  rw [List.length_append] at hj
  rw [getD_snocA]
  by_cases hjl : j < la.length
  · rw [if_pos hjl]
    obtain ⟨Aj, cj, h1, h2, h3, h4⟩ := hch.2 j hjl
    have hk := keep h3 h4
    exact ⟨Aj, cj, by rw [List.getElem?_append_left (by omega)]; exact h1, by rw [List.getElem?_append_left (by omega)]; exact h2, hk.1, hk.2⟩
  · have hje : j = la.length := by simp at hj; omega
    rw [if_neg hjl, if_pos hje]
    have hk := keep hx hxo
    refine ⟨Ax, cx, ?_, ?_, hk.1, hk.2⟩
    · rw [List.getElem?_append_right (by omega), show j * 2 - cells.length = 0 by omega]; rfl
    · rw [List.getElem?_append_right (by omega), show j * 2 + 1 - cells.length = 1 by omega]; rfl
/-- A row of attributes is told as one that lies. -/
theorem ARow.slice {w : World} {base : Nat} {v : Value} {la : Attrs} (h : ARow w base v la) : ∃ A c, v = .slice A la.length c ∧ AIn w w.heap.size A c la := by
  obtain ⟨cells, ho, hc⟩ := h
  rcases ho.2 with ⟨rfl, h0⟩ | ⟨g, cap, cur, rfl, hb, hg, hnc, hcm, hcs, ht⟩
  · exact ⟨none, 0, by rw [h0], by omega, by omega, fun h1 => by omega⟩
  · have hlt : g < w.heap.size := by
      rcases Nat.lt_or_ge g w.heap.size with hlt | hge
      · exact hlt
      · rw [Array.getElem?_eq_none hge] at hg; cases hg
    have hmx : cap ≤ 9223372036854775807 := by simpa [maxLen] using hcm
    have hlen : cells.length = la.length * 2 := ho.1
    refine ⟨some ⟨g, 0, none⟩, cap, rfl, hnc, hmx, fun _ => ⟨g, 0, rfl, hlt, fun j hj => ?_⟩⟩
    obtain ⟨Aj, cj, h1, h2, h3, _⟩ := hc j hj
    exact ⟨Aj, cj, by rw [Nat.zero_add, ho.cellAt (j * 2) (by omega)]; exact h1, by rw [Nat.zero_add, ho.cellAt (j * 2 + 1) (by omega)]; exact h2, h3⟩
end Go.Proofs.YtbomckbekcaemaaDoor
