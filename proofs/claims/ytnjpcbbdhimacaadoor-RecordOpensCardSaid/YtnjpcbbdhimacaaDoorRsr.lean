/-
 Rows of strings of the call's own.
-/
import Derived.Test.YtnjpcbbdhimacaaDoorRrp
import Derived.Test.YtnjpcbbdhimacaaDoorRsl
import Derived.Maps.AppendAt
namespace Go.Proofs.YtnjpcbbdhimacaaDoor
open Go.RowKit

theorem wp_append_own {T ST : TypeId} {z : Value} {size bytes : Nat} (hu : Tryd.prog.underlying ST = some (.slice T)) (hinf : (Tryd.prog.info? T).map (fun i => (i.zero, i.size, i.bytes)) = some (some z, size, bytes)) (hzs : z.cells.size = size) (hs0 : 0 < size) (hby : bytes ≤ 10000)
  {o : Oper} {a : Act} {w : World} {K : Act → World → Prop} {Q : Exit → Act → World → Prop} (s x : Operand) (ho : o.op = .call { callee := .builtin .append, args := #[s, x], argTypes := #[ST, ST] })
  (base : Nat) (v : Value) (n : Nat) (xs : List Value) (hs : a.eval s = v) (hown : w.ownsRow base T size v n xs) (hbase : base ≤ w.heap.size)
  (ad : Addr) (m c : Nat) (hx : a.eval x = .slice (some ad) m c) (news : List Value) (hl : news.length = m * size) (hnews : ∀ j u, news[j]? = some u → w.cell? (ad.add j) = some u) (h1 : ∀ u ∈ news, u.oneCell' = true) (hn : n + m ≤ 1000000)
  (h : ∀ v' w', w'.ownsRow base T size v' (n + m) (xs ++ news) → w.grownBy w' v.ownBlock → (v'.ownBlock = v.ownBlock ∨ v'.ownBlock = some w.heap.size) → K (a.put o.dst v') w') : Oper.wp Tryd.prog o a w K Q := by
 cases hi : Tryd.prog.info? T with
 | none => rw [hi] at hinf; simp at hinf
 | some i =>
  rw [hi] at hinf
  simp only [Option.map_some, Option.some.injEq, Prod.mk.injEq] at hinf
  obtain ⟨hz, hsz, hb⟩ := hinf
  have hbn : (n + m) * bytes ≤ 140737488355328 := Nat.le_trans (Nat.mul_le_mul hn hby) (by decide)
  obtain ⟨v', w', hr, h2, h3, _, h4⟩ := run_append_own_at (P := Tryd.prog) w base ST o.type T i z size bytes hu hi hz hsz hb hzs hs0 v n xs hown ad m c news hl hnews h1 (by simp only [maxLen]; omega) hbn hbase
  unfold Oper.wp execOp
  simp only [ho, resolve, invoke, builtin, Sem.run_bind, Sem.run_pure, Result.andThen_ok, List.map_toArray, List.map_cons, List.map_nil, hs, hx, hr]
  exact h _ _ h2 h3 h4
theorem wpList_append_own {T ST : TypeId} {z : Value} {size bytes : Nat} (hu : Tryd.prog.underlying ST = some (.slice T)) (hinf : (Tryd.prog.info? T).map (fun i => (i.zero, i.size, i.bytes)) = some (some z, size, bytes)) (hzs : z.cells.size = size) (hs0 : 0 < size) (hby : bytes ≤ 10000)
  {ops : Array Oper} {rest : List Oper} {o : Oper} {a : Act} {w : World} {Q : Exit → Act → World → Prop} (hgd : o.guard = none) (s x : Operand) (ho : o.op = .call { callee := .builtin .append, args := #[s, x], argTypes := #[ST, ST] })
  (base : Nat) (v : Value) (n : Nat) (xs : List Value) (hs : a.eval s = v) (hown : w.ownsRow base T size v n xs) (hbase : base ≤ w.heap.size)
  (ad : Addr) (m c : Nat) (hx : a.eval x = .slice (some ad) m c) (news : List Value) (hl : news.length = m * size) (hnews : ∀ j u, news[j]? = some u → w.cell? (ad.add j) = some u) (h1 : ∀ u ∈ news, u.oneCell' = true) (hn : n + m ≤ 1000000)
  (h : ∀ v' w', w'.ownsRow base T size v' (n + m) (xs ++ news) → w.grownBy w' v.ownBlock → (v'.ownBlock = v.ownBlock ∨ v'.ownBlock = some w.heap.size) → wpList Tryd.prog ops Q rest (a.put o.dst v') w') : wpList Tryd.prog ops Q (o :: rest) a w :=
 wpList_plain hgd fun _ hK' => wp_append_own hu hinf hzs hs0 hby s x ho base v n xs hs hown hbase ad m c hx news hl hnews h1 hn (fun v' w' h2 h3 h4 => hK' _ _ (h v' w' h2 h3 h4))
theorem step_append_own {T ST : TypeId} {z : Value} {size bytes : Nat} (hu : Tryd.prog.underlying ST = some (.slice T)) (hinf : (Tryd.prog.info? T).map (fun i => (i.zero, i.size, i.bytes)) = some (some z, size, bytes)) (hzs : z.cells.size = size) (hs0 : 0 < size) (hby : bytes ≤ 10000)
  {ops : Array Oper} {o : Oper} {a : Act} {w : World} {K : Act → World → Prop} {Q : Exit → Act → World → Prop} {E : Prop} (hgd : o.guard = none) (s x : Operand) (ho : o.op = .call { callee := .builtin .append, args := #[s, x], argTypes := #[ST, ST] })
  (base : Nat) (v : Value) (n : Nat) (xs : List Value) (hs : a.eval s = v) (hown : w.ownsRow base T size v n xs) (hbase : base ≤ w.heap.size)
  (ad : Addr) (m c : Nat) (hx : a.eval x = .slice (some ad) m c) (news : List Value) (hl : news.length = m * size) (hnews : ∀ j u, news[j]? = some u → w.cell? (ad.add j) = some u) (h1 : ∀ u ∈ news, u.oneCell' = true) (hn : n + m ≤ 1000000)
  (h : ∀ v' w', w'.ownsRow base T size v' (n + m) (xs ++ news) → w.grownBy w' v.ownBlock → (v'.ownBlock = v.ownBlock ∨ v'.ownBlock = some w.heap.size) → K (a.put o.dst v') w') : if Region.wanted o (yielded ops a.tmps) = true then Oper.wp Tryd.prog o a w K Q else E := by
 have hw : Region.wanted o (yielded ops a.tmps) = true := by simp [Region.wanted, hgd]
 rw [if_pos hw]
 exact wp_append_own hu hinf hzs hs0 hby s x ho base v n xs hs hown hbase ad m c hx news hl hnews h1 hn h
theorem HalfAt.grownR {w w' : World} {gh gx gk gr R u g : Nat} {L : List UInt32} {iv : List UInt8} {cs : List Value} (h : HalfAt w gh gx gk gr R L iv u) (hh : Blk w g 37 cs) (hg : w.grownBy w' (some g)) : HalfAt w' gh gx gk gr R L iv u :=
 ⟨h.half.grown hg (by simpa using blk_ne h.half hh (by decide)), h.box.grown hg (blk_ne h.box.box hh (by decide)) (blk_ne h.box.key.key hh (by decide)) (blk_ne h.box.key.rounds hh (by decide)), h.len, h.far⟩
theorem recE_len (L : List UInt32) (R : Nat) (iv : List UInt8) (u k : Nat) (b : List UInt8) (pad : Nat) : (recE L R iv u k b pad).length = 5 + (b.length + 1 + pad + 16) := by
 unfold recE
 rw [List.length_append, boxE_length, innerE_length]; rfl
def sv (s : List UInt8) : Value := .string ⟨s.toArray⟩
theorem infStr : (Tryd.prog.info? 9).map (fun i => (i.zero, i.size, i.bytes)) = some (some (.string ⟨#[]⟩), 1, 16) := by kernel_rfl
def StrRow (w : World) (base : Nat) (v : Value) (ls : List (List UInt8)) : Prop := w.ownsRow base 9 1 v ls.length (ls.map sv)
theorem StrRow.nil (w : World) (base : Nat) : StrRow w base (.slice none 0 0) [] := World.ownsRow_nil w base _ 1
theorem StrRow.below {w w' : World} {base : Nat} {v : Value} {ls : List (List UInt8)} (h : StrRow w base v ls) (hb : Below w.heap.size w w') : StrRow w' base v ls :=
 h.kept (grown_of_below hb none) (by cases e : v.ownBlock with | none => exact .inl rfl | some k => exact .inr (by simp))
theorem StrRow.lt {w : World} {base : Nat} {v : Value} {ls : List (List UInt8)} (h : StrRow w base v ls) : ∀ k, v.ownBlock = some k → base ≤ k ∧ k < w.heap.size := World.ownsRow.lt h
theorem StrRow.grown {w w' : World} {base g : Nat} {v : Value} {ls : List (List UInt8)} (h : StrRow w base v ls) (hg : w.grownBy w' (some g)) (hne : v.ownBlock ≠ some g) : StrRow w' base v ls :=
 h.kept hg (by
  cases e : v.ownBlock with
  | none => exact .inl rfl
  | some k => exact .inr (fun e2 => hne (e.trans (by first | exact e2 | exact e2.symm))))
theorem StrRow.slice {w : World} {base : Nat} {v : Value} {ls : List (List UInt8)} (h : StrRow w base v ls) : ∃ A c, v = .slice A ls.length c ∧ (0 < ls.length → ∃ g, A = some ⟨g, 0, none⟩ ∧ base ≤ g ∧ g < w.heap.size ∧ ∀ j, j < ls.length → w.cell? ⟨g, j, none⟩ = some (sv (ls.getD j []))) := by
 have hlt := h.lt
 have ho : w.ownsRow base 9 1 v ls.length (ls.map sv) := h
 rcases ho.2 with ⟨rfl, h0⟩ | ⟨g, cap, cur, rfl, hb, hg, hnc, hcm, hcs, ht⟩
 ·
  exact ⟨none, 0, by rw [h0], fun h1 => by omega⟩
 ·
  refine ⟨some ⟨g, 0, none⟩, cap, rfl, fun h0 => ⟨g, rfl, hb, ?_, fun j hj => ?_⟩⟩
  ·
   rcases Nat.lt_or_ge g w.heap.size with hlt | hge
   ·
    exact hlt
   ·
    rw [Array.getElem?_eq_none hge] at hg; cases hg
  ·
   rw [ho.cellAt j (by omega)]
   rw [List.getElem?_map, List.getElem?_eq_getElem hj, List.getD_eq_getElem?_getD, List.getElem?_eq_getElem hj]; rfl
def LOK (ls : List (List UInt8)) : Prop := ∀ s ∈ ls, 5 ≤ s.length ∧ s.length ≤ 200
theorem LOK.snoc {ls : List (List UInt8)} {s : List UInt8} (h : LOK ls) (h1 : 5 ≤ s.length) (h2 : s.length ≤ 200) : LOK (ls ++ [s]) := fun t ht => by
 rcases List.mem_append.1 ht with h3 | h3
 ·
  exact h t h3
 ·
  rw [List.mem_singleton.1 h3]; exact ⟨h1, h2⟩
theorem new_str (W : World) (s : List UInt8) : ∀ j u, [sv s][j]? = some u → (W.alloc (.cells #[sv s] 9)).cell? ((⟨W.heap.size, 0, none⟩ : Addr).add j) = some u := fun j u hj => by
 have hB := Blk.new_of W 9 #[sv s] [sv s] rfl
 rw [add_row]; exact rangeAt_of_blk hB j u hj
end Go.Proofs.YtnjpcbbdhimacaaDoor
