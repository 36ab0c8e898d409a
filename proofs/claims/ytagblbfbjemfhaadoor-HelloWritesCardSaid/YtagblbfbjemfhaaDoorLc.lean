/-
  Joined: RwsB, KeepB.
-/
import Derived.Test.YtagblbfbjemfhaaDoorProg
import Derived.Deep.MidRow
import Derived.Maps.AppendAt
import Derived.Deep.AppendLies
import Derived.Laws.CopyRow
import Derived.Deep.Matrix
import Derived.OpenShut
import Derived.ProofKit
import Derived.Test.YtagblbfbjemfhaaDoorLa
import Derived.Test.YtagblbfbjemfhaaDoorLb
namespace Go.Proofs.YtagblbfbjemfhaaDoor
section
open Go.RowKit
/-- Rows of bytes that came in, all below block B. -/
def PIn (w : World) (B : Nat) (A : Option Addr) (c : Nat) (ps : List (List UInt8)) : Prop := ps.length ≤ c ∧ c ≤ 9223372036854775807 ∧ (0 < ps.length → ∃ gp op, A = some ⟨gp, op, none⟩ ∧ gp < B ∧
  ∀ j, j < ps.length → ∃ Aj cj, w.cell? ⟨gp, op + j, none⟩ = some (.slice Aj (ps.getD j []).length cj) ∧ In w B Aj cj (ps.getD j []))
theorem PIn.below {w w' : World} {B : Nat} {A : Option Addr} {c : Nat} {ps : List (List UInt8)} (h : PIn w B A c ps) (hb : Below B w w') : PIn w' B A c ps :=
  ⟨h.1, h.2.1, fun h0 => by
    obtain ⟨gp, op, e, hl, hj⟩ := h.2.2 h0
    refine ⟨gp, op, e, hl, fun j hjl => ?_⟩
    obtain ⟨Aj, cj, hc, hi⟩ := hj j hjl
    exact ⟨Aj, cj, (hb.cell (p := ⟨gp, op + j, none⟩) hl).trans hc, hi.below hb⟩⟩
/-- Block g' of a later row stands behind those of all earlier ones. -/
def ownLt : Option Addr → Option Addr → Prop
  | some a, some b => a.block < b.block
  | _, _ => True

/-- Rows of bytes of the call's own (from block base on), behind a slice of its own; each may be written. -/
def Rws (w : World) (base : Nat) (v : Value) (ps : List (List UInt8)) : Prop :=
  ∃ cells : List Value, w.ownsRow base 27 1 v ps.length cells ∧
    (∀ j, j < ps.length → ∃ Aj cj, cells[j]? = some (.slice Aj (ps.getD j []).length cj) ∧ Buf w base Aj (ps.getD j []).length cj (ps.getD j []) ∧ ∀ k, v.ownBlock = some k → ∀ a, Aj = some a → a.block ≠ k) ∧
    (∀ i j, i < j → j < ps.length → ∀ Ai Aj ni nj ci cj, cells[i]? = some (.slice Ai ni ci) → cells[j]? = some (.slice Aj nj cj) → ownLt Ai Aj)
theorem Rws.nil (w : World) (base : Nat) : Rws w base (.slice none 0 0) [] := ⟨[], World.ownsRow_nil w base _ 1, fun j hj => by simp at hj, fun i j _ hj => by simp at hj⟩
/-- Whatever is written elsewhere, the rows stay. -/
theorem Rws.kept {w w' : World} {base : Nat} {v : Value} {ps : List (List UInt8)} {row : Option Nat} (h : Rws w base v ps) (hg : w.grownBy w' row) (hr : ∀ k, row = some k → k < base) : Rws w' base v ps := by
  obtain ⟨cells, ho, hc, hl⟩ := h
  refine ⟨cells, ho.kept hg ?_, fun j hj => ?_, hl⟩
  · cases e : v.ownBlock with
    | none => exact .inl rfl
    | some k =>
      right
      intro e2
      have := (ho.lt k e).1
      have := hr k e2.symm
      omega
  · obtain ⟨Aj, cj, h1, h2, h3⟩ := hc j hj
    refine ⟨Aj, cj, h1, h2.kept hg (fun g e e2 => ?_), h3⟩
    have := (h2.lt e).1
    have := hr g e2.symm
    omega
theorem Rws.below {w w' : World} {base : Nat} {v : Value} {ps : List (List UInt8)} (h : Rws w base v ps) (hg : Below w.heap.size w w') : Rws w' base v ps :=
  h.kept (grown_of_below hg none) (fun _ e => by cases e)
theorem Rws.base_le {w : World} {base base' : Nat} {v : Value} {ps : List (List UInt8)} (h : Rws w base v ps) (hb : base' ≤ base) : Rws w base' v ps := by
  obtain ⟨cells, ho, hc, hl⟩ := h
  refine ⟨cells, ⟨ho.1, ?_⟩, fun j hj => ?_, hl⟩
  · rcases ho.2 with h0 | ⟨g, cap, cur, e, hbg, r⟩
    · exact .inl h0
    · exact .inr ⟨g, cap, cur, e, by omega, r⟩
  · obtain ⟨Aj, cj, h1, h2, h3⟩ := hc j hj
    exact ⟨Aj, cj, h1, h2.base hb, h3⟩
theorem Rws.slice {w : World} {base : Nat} {v : Value} {ps : List (List UInt8)} (h : Rws w base v ps) :
    ∃ A c, v = .slice A ps.length c ∧ PIn w w.heap.size A c ps ∧ ∀ g, g < base → Parts w g A ps := by
  obtain ⟨cells, ho, hc, hl⟩ := h
  rcases ho.2 with ⟨rfl, h0⟩ | ⟨g, cap, cur, rfl, hb, hg, hnc, hcm, hcs, ht⟩
  · exact ⟨none, 0, by rw [h0], ⟨by omega, by omega, fun h1 => by omega⟩, fun g hg h1 => by omega⟩
  · have hlt : g < w.heap.size := by
      rcases Nat.lt_or_ge g w.heap.size with hlt | hge
      · exact hlt
      · rw [Array.getElem?_eq_none hge] at hg; cases hg
    have hcell : ∀ j, j < ps.length → w.cell? ⟨g, 0 + j, none⟩ = cells[j]? := fun j hj => by
      rw [Nat.zero_add, ho.cellAt j (by omega)]
    have hmx : cap ≤ 9223372036854775807 := by simpa [maxLen] using hcm
    refine ⟨some ⟨g, 0, none⟩, cap, rfl, ⟨hnc, hmx, fun _ => ⟨g, 0, rfl, hlt, fun j hj => ?_⟩⟩, fun g' hg' _ => ⟨g, 0, rfl, by omega, fun j hj => ?_⟩⟩
    · obtain ⟨Aj, cj, h1, h2, h3⟩ := hc j hj
      exact ⟨Aj, cj, (hcell j hj).trans h1, h2.toIn (Nat.le_refl _)⟩
    · obtain ⟨Aj, cj, h1, h2, h3⟩ := hc j hj
      refine ⟨Aj, cj, (hcell j hj).trans h1, h2.le.1, h2.le.2, h2.src (fun k e => ?_)⟩
      have := (h2.lt e).1
      omega

theorem infoS : (Tryd.prog.info? 27).map (fun i => (i.zero, i.size, i.bytes)) = some (some (.slice none 0 0), 1, 24) := by kernel_rfl
/-- A row more behind rows of the call's own. -/
theorem wp_append_rws {o : Oper} {a : Act} {w0 w : World} {K : Act → World → Prop} {Q : Exit → Act → World → Prop} (s x : Operand)
    (ho : o.op = .call { callee := .builtin .append, args := #[s, x], argTypes := #[28, 28] })
    (base : Nat) (v : Value) (ps : List (List UInt8)) (hs : a.eval s = v) (hv : Rws w0 base v ps) (hbl : Below w0.heap.size w0 w) (hbase : base ≤ w0.heap.size)
    (gx : Nat) (hx : a.eval x = .slice (some ⟨gx, 0, none⟩) 1 1) (y : List UInt8) (Ay : Option Addr) (cy : Nat) (hc : w.cell? ⟨gx, 0, none⟩ = some (.slice Ay y.length cy)) (hy : Buf w w0.heap.size Ay y.length cy y)
    (hn : ps.length ≤ 1000000)
    (h : ∀ v' w', Rws w' base v' (ps ++ [y]) → Below base w w' → w.grownBy w' v.ownBlock → K (a.put o.dst v') w') : Oper.wp Tryd.prog o a w K Q := by
  obtain ⟨i, hi, hz, hsz, hby⟩ := info_parts infoS
  obtain ⟨cells, hown0, hcell0, hord⟩ := hv
  have hown : w.ownsRow base 27 1 v ps.length cells := hown0.kept (grown_of_below hbl none) (by
    cases e : v.ownBlock with
    | none => exact .inl rfl
    | some k => exact .inr (by simp))
  have hsize := hbl.size
  refine wp_append_lies w s x 28 ho base 27 i _ 1 24 Tryd.underlying28 hi hz hsz hby rfl (by decide) v ps.length cells hs hown ⟨gx, 0, none⟩ 1 1 [.slice Ay y.length cy] hx rfl ?_ ?_ (by decide) (by simp only [maxLen]; omega) (by omega) (by omega) w.heap.size rfl ?_
  · intro j u hj
    match j, hj with
    | 0, hj => simp at hj; subst hj; simpa [Addr.add] using hc
    | j + 1, hj => simp at hj
  · intro u hu; simp at hu; subst hu; rfl
  · intro g cap w' hown' hg hgo hlt
    have hcl : cells.length = ps.length := by have := hown.1; omega
    have hBel : Below base w w' := ⟨hg.os, hg.tape, hg.output, hg.size, fun k hk => hg.block k (by omega) (fun e => by have := (hown.lt k e.symm).1; omega)⟩
    refine h _ w' ⟨cells ++ [.slice Ay y.length cy], ?_, fun j hj => ?_, fun j k hjk hk => ?_⟩ hBel hg
    · rw [List.length_append]; exact hown'
    · rw [List.length_append, List.length_singleton] at hj
      by_cases hjl : j < ps.length
      · obtain ⟨Aj, cj, h1, h2, h3⟩ := hcell0 j hjl
        have e : (ps ++ [y]).getD j [] = ps.getD j [] := by rw [List.getD_eq_getElem?_getD, List.getElem?_append_left hjl, ← List.getD_eq_getElem?_getD]
        rw [e, List.getElem?_append_left (by omega)]
        refine ⟨Aj, cj, h1, (h2.below hbl).kept hg (fun k e2 e3 => h3 k e3.symm _ e2 rfl), fun k hk ad had => ?_⟩
        simp only [Value.ownBlock, Option.some.injEq] at hk
        subst hk
        rcases hgo with hgo | hgo
        · exact h3 _ hgo ad had
        · rcases h2.2 with ⟨hnil, _⟩ | ⟨q, e2, _, hq, _⟩
          · rw [hnil] at had; cases had
          · rw [e2] at had; cases had; show q ≠ g; omega
      · obtain rfl : j = ps.length := by omega
        have e : (ps ++ [y]).getD ps.length [] = y := by rw [List.getD_eq_getElem?_getD, List.getElem?_append_right (Nat.le_refl _)]; simp
        rw [e, List.getElem?_append_right (by omega), hcl, Nat.sub_self]
        have hne : ∀ k, v.ownBlock = some k → ∀ ad, Ay = some ad → ad.block ≠ k := fun k hk ad had => by
          have := (hown0.lt k hk).2
          rcases hy.2 with ⟨hnil, _⟩ | ⟨q, e2, hq, _⟩
          · rw [hnil] at had; cases had
          · rw [e2] at had; cases had; show q ≠ k; omega
        refine ⟨Ay, cy, rfl, (hy.base hbase).kept hg (fun k e2 e3 => hne k e3.symm _ e2 rfl), fun k hk ad had => ?_⟩
        simp only [Value.ownBlock, Option.some.injEq] at hk
        subst hk
        rcases hgo with hgo | hgo
        · exact hne _ hgo ad had
        · rcases hy.2 with ⟨hnil, _⟩ | ⟨q, e2, _, hq, _⟩
          · rw [hnil] at had; cases had
          · rw [e2] at had; cases had; show q ≠ g; omega
    · rw [List.length_append, List.length_singleton] at hk
      intro Aj Ak nj nk cj ck e1 e2
      rw [List.getElem?_append_left (by omega)] at e1
      by_cases hkl : k < ps.length
      · rw [List.getElem?_append_left (by omega)] at e2
        exact hord j k hjk hkl Aj Ak nj nk cj ck e1 e2
      · obtain rfl : k = ps.length := by omega
        rw [List.getElem?_append_right (by omega), hcl, Nat.sub_self] at e2
        simp only [List.getElem?_cons_zero, Option.some.injEq, Value.slice.injEq] at e2
        obtain ⟨rfl, _, _⟩ := e2
        obtain ⟨Aj', cj', h1, h2, _⟩ := hcell0 j hjk
        rw [h1] at e1
        simp only [Option.some.injEq, Value.slice.injEq] at e1
        obtain ⟨rfl, _, _⟩ := e1
        rcases h2.2 with ⟨hnil, _⟩ | ⟨q, e3, _, hq, _⟩
        · rw [hnil]; cases Ay <;> trivial
        · rcases hy.2 with ⟨hnil, _⟩ | ⟨q', e4, hq', _⟩
          · rw [e3, hnil]; trivial
          · rw [e3, e4]; show q < q'; omega
theorem step_append_rws {ops : Array Oper} {o : Oper} {a : Act} {w0 w : World} {K : Act → World → Prop} {Q : Exit → Act → World → Prop} {E : Prop} (hgd : o.guard = none) (s x : Operand)
    (ho : o.op = .call { callee := .builtin .append, args := #[s, x], argTypes := #[28, 28] })
    (base : Nat) (v : Value) (ps : List (List UInt8)) (hs : a.eval s = v) (hv : Rws w0 base v ps) (hbl : Below w0.heap.size w0 w) (hbase : base ≤ w0.heap.size)
    (gx : Nat) (hx : a.eval x = .slice (some ⟨gx, 0, none⟩) 1 1) (y : List UInt8) (Ay : Option Addr) (cy : Nat) (hc : w.cell? ⟨gx, 0, none⟩ = some (.slice Ay y.length cy)) (hy : Buf w w0.heap.size Ay y.length cy y)
    (hn : ps.length ≤ 1000000)
    (h : ∀ v' w', Rws w' base v' (ps ++ [y]) → Below base w w' → w.grownBy w' v.ownBlock → K (a.put o.dst v') w') : if Region.wanted o (yielded ops a.tmps) = true then Oper.wp Tryd.prog o a w K Q else E := by
  have hw : Region.wanted o (yielded ops a.tmps) = true := by simp [Region.wanted, hgd]
  rw [if_pos hw]
  exact wp_append_rws s x ho base v ps hs hv hbl hbase gx hx y Ay cy hc hy hn h

end
section
open Go.RowKit
/-- Where a row lies behind an append: where it lay, or in a new block. -/
def Fresh (w : World) (A A' : Option Addr) : Prop := A' = A ∨ ∃ g, A' = some ⟨g, 0, none⟩ ∧ w.heap.size ≤ g
/-- Two rows that lie in two blocks. -/
def Apart (A B : Option Addr) : Prop := ∀ a b, A = some a → B = some b → a.block ≠ b.block
/-- What an append of bytes makes, from whatever source; what was appended to reads as it did. -/
theorem run_append_far (tx ty : TypeId) (base : Nat) (A : Option Addr) (n c : Nat) (bs ys : List UInt8) (x : Value) (w : World) (hb : Buf w base A n c bs) (hs : _root_.Go.Src Tryd.prog 1 tx x ys.length (ys.map B8) w)
    (hn : n + ys.length ≤ 1099511627776) (hbase : base ≤ w.heap.size) :
    ∃ A' c' w', (Builtin.append_ #[27, tx] ty #[.slice A n c, x]).run Tryd.prog w = .ok (.slice A' (n + ys.length) c') w' ∧ Buf w' base A' (n + ys.length) c' (bs ++ ys) ∧ w.grownBy w' (ownOf A) ∧ Buf w' base A n c bs ∧ Fresh w A A' := by
  obtain ⟨i, hi, hz, hsz, hby⟩ := info_parts infoB
  have hl : (bs ++ ys).length = n + ys.length := by rw [List.length_append, hb.1]
  have hs' : _root_.Go.Src Tryd.prog i.size tx x ys.length (ys.map B8) w := by rw [hsz]; exact hs
  have hone := hb.le
  by_cases hroom : n + ys.length ≤ c
  · rcases hb.2 with ⟨rfl, rfl, rfl⟩ | ⟨g, rfl, hbg, hlt, hnc, hcm, hbytes, hall⟩
    · have hy : ys = [] := List.eq_nil_of_length_eq_zero (by omega)
      subst hy
      have hbs : bs = [] := List.eq_nil_of_length_eq_zero hb.1
      subst hbs
      exact ⟨none, 0, w, run_append_nothing w 27 tx ty 5 i Tryd.underlying27 hi none 0 0 (Nat.le_refl _) x hs', Buf.nil _ _, grown_refl _ _, hb, .inl rfl⟩
    · have hr := run_append_room_src w 27 tx ty 5 i Tryd.underlying27 hi g 0 n c x ys.length (ys.map B8) hs' hroom (fun j hj => (hall (0 + n * i.size + j) (by rw [hsz]; simp at hj; omega)).1) (fun j hj => (hall (0 + n * i.size + j) (by rw [hsz]; simp at hj; omega)).2)
      rw [hsz] at hr
      simp only [Nat.zero_add, Nat.mul_one] at hr
      have hkeep : Buf (w.setCells g n (ys.map B8)) base (some ⟨g, 0, none⟩) n c bs := ⟨hb.1, .inr ⟨g, rfl, hbg, Nat.lt_of_lt_of_le hlt (grown_setCells w g n (ys.map B8)).size, hnc, hcm, fun j hj => by
          have := hbytes j hj
          rw [Nat.zero_add] at this ⊢
          rw [World.cell?_setCells_out g _ n w _ (fun _ _ => .inl (show j < n by rw [hb.1] at hj; exact hj)), this], fun j hj => ⟨World.isSome_setCells g _ n w _ (hall j hj).1, by rw [World.frozen?_setCells]; exact (hall j hj).2⟩⟩⟩
      refine ⟨_, _, _, hr, ⟨hl, .inr ⟨g, rfl, hbg, ?_, hroom, hcm, fun j hj => ?_, fun j hj => ⟨?_, ?_⟩⟩⟩, grown_setCells _ _ _ _, hkeep, .inl rfl⟩
      · exact Nat.lt_of_lt_of_le hlt (grown_setCells w g n (ys.map B8)).size
      · rw [Nat.zero_add]
        by_cases hjn : j < n
        · rw [World.cell?_setCells_out g _ n w _ (fun _ _ => .inl hjn)]
          have := hbytes j (by rw [hb.1]; exact hjn)
          rw [Nat.zero_add] at this
          rw [this]
          simp [List.getD_eq_getElem?_getD, List.getElem?_append_left (show j < bs.length by rw [hb.1]; exact hjn)]
        · obtain ⟨k, rfl⟩ : ∃ k, j = n + k := ⟨j - n, by omega⟩
          have hk : k < ys.length := by omega
          rw [World.cell?_setCells_in g (ys.map B8) n w (fun k hk => (hall (n + k) (by simp at hk; omega)).1) k (by simpa using hk)]
          have e : (bs ++ ys).getD (n + k) 0 = ys.getD k 0 := by
            rw [List.getD_eq_getElem?_getD, List.getElem?_append_right (by rw [hb.1]; omega), hb.1, show n + k - n = k by omega, ← List.getD_eq_getElem?_getD]
          rw [e]
          simp [List.getD_eq_getElem?_getD, List.getElem?_eq_getElem hk]
      · exact World.isSome_setCells g _ n w _ (hall j hj).1
      · rw [World.frozen?_setCells]; exact (hall j hj).2
  · have hold : (Builtin.firstCells i.size n (.slice A n c)).run Tryd.prog w.drew = .ok ((bs.map B8).toArray) w.drew := by
      rcases hb.2 with ⟨rfl, rfl, rfl⟩ | ⟨g, rfl, hbg, hlt, hnc, hcm, hbytes, hall⟩
      · have hbs : bs = [] := List.eq_nil_of_length_eq_zero hb.1
        subst hbs
        exact run_firstCells_none w.drew i.size 0 0 0
      · refine run_firstCells_some w.drew i.size n ⟨g, 0, none⟩ n c (bs.map B8) (by rw [hsz, List.length_map, hb.1, Nat.mul_one]) (fun j u hu => ?_)
        have hj : j < bs.length := by have := (List.getElem?_eq_some_iff.1 hu).1; simpa using this
        rw [getD_map8 bs j hj] at hu
        rw [← Option.some.inj hu, add_row]
        exact hbytes j hj
    have hcap := grownCap_ge w (n + ys.length) c 5
    have hcap2 := grownCap_le_maxLen w (n + ys.length) c 5 (by simp only [maxLen]; omega)
    have hnext : Builtin.nextslicecap (n + ys.length) c * i.bytes ≤ 281474976710656 := by
      rw [hby, Nat.mul_one]
      have := nextslicecap_le (show c < n + ys.length by omega)
      omega
    have hr := run_append_grow_src w 27 tx ty 5 i (.int .u8 0) Tryd.underlying27 hi hz A n c (bs.map B8) hold x ys.length (ys.map B8) hs' (by omega) (by omega) hnext
    refine ⟨_, _, _, hr, ?_, grown_alloc (grown_drew (grown_refl _ _)) _, (hb.drew).alloc _, .inr ⟨_, rfl, Nat.le_refl _⟩⟩
    refine Buf.made (w := w.drew) (n := n + ys.length) _ _ 0 0 hbase hl hcap hcap2 ?_ (.inr rfl) (fun j hj => ?_)
    · simp [size_zeroCells, Value.cells, hb.1]; omega
    · rw [← List.map_append, Array.getElem?_append_left (by simp [hb.1]; omega)]
      rw [List.getElem?_toArray]
      exact getD_map8 _ j (by omega)
theorem run_append_keep (tx ty : TypeId) (base : Nat) (A : Option Addr) (n c : Nat) (bs ys : List UInt8) (x : Value) (w : World) (hb : Buf w base A n c bs) (hs : _root_.Go.Src Tryd.prog 1 tx x ys.length (ys.map B8) w)
    (hn : n + ys.length ≤ 1099511627776) (hbase : base ≤ w.heap.size) :
    ∃ A' c' w', (Builtin.append_ #[27, tx] ty #[.slice A n c, x]).run Tryd.prog w = .ok (.slice A' (n + ys.length) c') w' ∧ Buf w' base A' (n + ys.length) c' (bs ++ ys) ∧ w.grownBy w' (ownOf A) ∧ Buf w' base A n c bs := by
  obtain ⟨A', c', w', h1, h2, h3, h4, _⟩ := run_append_far tx ty base A n c bs ys x w hb hs hn hbase
  exact ⟨A', c', w', h1, h2, h3, h4⟩
/-- The same in a plain region. -/
theorem wpList_append_keep {ops : Array Oper} {rest : List Oper} {o : Oper} {a : Act} {w : World} {Q : Exit → Act → World → Prop} (hgd : o.guard = none) (s x : Operand) (tx : TypeId)
    (ho : o.op = .call { callee := .builtin .append, args := #[s, x], argTypes := #[27, tx] })
    (base : Nat) (A : Option Addr) (n c : Nat) (bs ys : List UInt8) (v : Value) (hs : a.eval s = .slice A n c) (hb : Buf w base A n c bs) (hx : a.eval x = v) (hsrc : _root_.Go.Src Tryd.prog 1 tx v ys.length (ys.map B8) w)
    (hn : n + ys.length ≤ 1099511627776) (hbase : base ≤ w.heap.size) (m : Nat) (hm : m = n + ys.length)
    (h : ∀ A' c' w', Buf w' base A' m c' (bs ++ ys) → w.grownBy w' (ownOf A) → Buf w' base A n c bs → wpList Tryd.prog ops Q rest (a.put o.dst (.slice A' m c')) w') : wpList Tryd.prog ops Q (o :: rest) a w := by
  subst hm
  refine wpList_plain hgd fun K hK' => ?_
  obtain ⟨A', c', w', hr, h1, h2, h3⟩ := run_append_keep tx o.type base A n c bs ys v w hb hsrc hn hbase
  unfold Oper.wp execOp
  simp only [ho, resolve, invoke, builtin, Sem.run_bind, Sem.run_pure, Result.andThen_ok, List.map_toArray, List.map_cons, List.map_nil, hs, hx, hr]
  exact hK' _ _ (h A' c' w' h1 h2 h3)
theorem buf_empty (w : World) : Buf (w.alloc (.cells #[] 5)) w.heap.size (some ⟨w.heap.size, 0, none⟩) 0 0 [] :=
  Buf.made (w := w) #[] 5 0 0 (Nat.le_refl _) rfl (Nat.le_refl _) (by decide) rfl (.inr rfl) (fun j hj => by omega)
theorem Bytes.set {w : World} {g i : Nat} {bs : List UInt8} (h : Bytes w g 0 bs) (hi : i < bs.length) (y : UInt8) : Bytes (w.setCell ⟨g, i, none⟩ (B8 y)) g 0 (bs.set i y) := fun j hj => by
  rw [List.length_set] at hj
  have h1 := h j hj
  rw [Nat.zero_add] at h1 ⊢
  by_cases e : i = j
  · subst e
    rw [World.cell?_setCell_same _ _ _ h1]
    simp [List.getD_eq_getElem?_getD, hi]
  · rw [cell_past w g i j e, h1]
    simp [List.getD_eq_getElem?_getD, e]
theorem Buf.notFrozen {w : World} {base n c g j : Nat} {bs : List UInt8} (h : Buf w base (some ⟨g, 0, none⟩) n c bs) (hj : j < c) : w.frozen? ⟨g, j, none⟩ = false := by
  rcases h.2 with ⟨e, _⟩ | ⟨q, e, _, _, _, _, _, hall⟩
  · cases e
  · cases e; exact (hall j hj).2
/-- One place of a row of the call's own is written. -/
theorem Buf.set {w : World} {base n c g i : Nat} {bs : List UInt8} (h : Buf w base (some ⟨g, 0, none⟩) n c bs) (hi : i < n) (y : UInt8) : Buf (w.setCell ⟨g, i, none⟩ (B8 y)) base (some ⟨g, 0, none⟩) n c (bs.set i y) := by
  refine ⟨by rw [List.length_set]; exact h.1, ?_⟩
  rcases h.2 with ⟨e, _⟩ | ⟨q, e, h1, h2, h3, h4, h5, hall⟩
  · cases e
  · cases e
    refine .inr ⟨g, rfl, h1, by simpa [World.setCell] using h2, h3, h4, h5.set (by rw [h.1]; exact hi) y, fun j hj => ⟨?_, ?_⟩⟩
    · by_cases e : i = j
      · subst e
        obtain ⟨v, hv⟩ := Option.isSome_iff_exists.1 (hall i hj).1
        rw [World.cell?_setCell_same _ _ _ hv]; rfl
      · rw [cell_past w g i j e]; exact (hall j hj).1
    · rw [frozen_past]; exact (hall j hj).2
/-- The same in a plain region, and where the row lies. -/
theorem wpList_append_far {ops : Array Oper} {rest : List Oper} {o : Oper} {a : Act} {w : World} {Q : Exit → Act → World → Prop} (hgd : o.guard = none) (s x : Operand) (tx : TypeId)
    (ho : o.op = .call { callee := .builtin .append, args := #[s, x], argTypes := #[27, tx] })
    (base : Nat) (A : Option Addr) (n c : Nat) (bs ys : List UInt8) (v : Value) (hs : a.eval s = .slice A n c) (hb : Buf w base A n c bs) (hx : a.eval x = v) (hsrc : _root_.Go.Src Tryd.prog 1 tx v ys.length (ys.map B8) w)
    (hn : n + ys.length ≤ 1099511627776) (hbase : base ≤ w.heap.size) (m : Nat) (hm : m = n + ys.length)
    (h : ∀ A' c' w', Buf w' base A' m c' (bs ++ ys) → w.grownBy w' (ownOf A) → Fresh w A A' → wpList Tryd.prog ops Q rest (a.put o.dst (.slice A' m c')) w') : wpList Tryd.prog ops Q (o :: rest) a w := by
  subst hm
  refine wpList_plain hgd fun K hK' => ?_
  obtain ⟨A', c', w', hr, h1, h2, _, h3⟩ := run_append_far tx o.type base A n c bs ys v w hb hsrc hn hbase
  unfold Oper.wp execOp
  simp only [ho, resolve, invoke, builtin, Sem.run_bind, Sem.run_pure, Result.andThen_ok, List.map_toArray, List.map_cons, List.map_nil, hs, hx, hr]
  exact hK' _ _ (h A' c' w' h1 h2 h3)

end
end Go.Proofs.YtagblbfbjemfhaaDoor
