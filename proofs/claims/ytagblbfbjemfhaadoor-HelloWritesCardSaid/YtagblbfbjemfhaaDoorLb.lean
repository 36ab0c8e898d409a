/-
  Joined: BufB, BufC.
-/
import Derived.Test.YtagblbfbjemfhaaDoorProg
import Derived.Deep.MidRow
import Derived.Maps.AppendAt
import Derived.Deep.AppendLies
import Derived.Laws.CopyRow
import Derived.Deep.AppendSrc
import Derived.Deep.Upon
import Derived.Laws.IdiomStrings
import Derived.Lib.MinMax
import Derived.Stop.BytesEq
import Derived.Test.YtagblbfbjemfhaaDoorLa
namespace Go.Proofs.YtagblbfbjemfhaaDoor
section
open Go.RowKit
theorem infoB : (Tryd.prog.info? 5).map (fun i => (i.zero, i.size, i.bytes)) = some (some (.int .u8 0), 1, 1) := by kernel_rfl
theorem oneB8 (cs : List UInt8) : ∀ v ∈ cs.map B8, v.oneCell' = true := by
  intro v hv; simp at hv; obtain ⟨x, _, rfl⟩ := hv; rfl
/-- The slice of n bytes with room for c behind A holds just bs, in a block of the call's own (from base on) all of whose places may be written. -/
def Buf (w : World) (base : Nat) (A : Option Addr) (n c : Nat) (bs : List UInt8) : Prop :=
  bs.length = n ∧ ((A = none ∧ n = 0 ∧ c = 0) ∨
    ∃ g, A = some ⟨g, 0, none⟩ ∧ base ≤ g ∧ g < w.heap.size ∧ n ≤ c ∧ c ≤ maxLen ∧ Bytes w g 0 bs ∧ ∀ j, j < c → (w.cell? ⟨g, j, none⟩).isSome = true ∧ w.frozen? ⟨g, j, none⟩ = false)

def ownOf : Option Addr → Option Nat
  | some a => some a.block
  | none => none

theorem Buf.nil (w : World) (base : Nat) : Buf w base none 0 0 [] := ⟨rfl, .inl ⟨rfl, rfl, rfl⟩⟩
theorem Buf.len {w : World} {base n c : Nat} {A : Option Addr} {bs : List UInt8} (h : Buf w base A n c bs) : bs.length = n := h.1
theorem Buf.le {w : World} {base n c : Nat} {A : Option Addr} {bs : List UInt8} (h : Buf w base A n c bs) : n ≤ c ∧ c ≤ 9223372036854775807 := by
  rcases h.2 with ⟨_, rfl, rfl⟩ | ⟨g, _, _, _, h1, h2, _⟩
  · omega
  · exact ⟨h1, by simpa [maxLen] using h2⟩
theorem Buf.kept {w w' : World} {base n c : Nat} {A : Option Addr} {bs : List UInt8} {row : Option Nat} (h : Buf w base A n c bs) (hg : w.grownBy w' row) (hne : ∀ g, A = some ⟨g, 0, none⟩ → some g ≠ row) : Buf w' base A n c bs := by
  refine ⟨h.1, ?_⟩
  rcases h.2 with hn | ⟨g, rfl, hb, hlt, h1, h2, hby, hall⟩
  · exact .inl hn
  · have hB := hg.block g hlt (hne g rfl)
    refine .inr ⟨g, rfl, hb, Nat.lt_of_lt_of_le hlt hg.size, h1, h2, fun j hj => (World.cell?_of_block (a := ⟨g, 0 + j, none⟩) hB).trans (hby j hj), fun j hj => ?_⟩
    rw [World.cell?_of_block (a := ⟨g, j, none⟩) hB, World.frozen?_of_block (a := ⟨g, j, none⟩) hB]
    exact hall j hj
theorem Buf.below {w w' : World} {base n c : Nat} {A : Option Addr} {bs : List UInt8} (h : Buf w base A n c bs) (hg : Below w.heap.size w w') : Buf w' base A n c bs :=
  h.kept (grown_of_below hg none) (fun _ _ => by simp)
theorem Buf.alloc {w : World} {base n c : Nat} {A : Option Addr} {bs : List UInt8} (h : Buf w base A n c bs) (o : Obj) : Buf (w.alloc o) base A n c bs := h.below ((Below.refl _ _).alloc (Nat.le_refl _) o)
theorem Buf.drew {w : World} {base n c : Nat} {A : Option Addr} {bs : List UInt8} (h : Buf w base A n c bs) : Buf w.drew base A n c bs := h
theorem Buf.base {w : World} {base base' n c : Nat} {A : Option Addr} {bs : List UInt8} (h : Buf w base A n c bs) (hb : base' ≤ base) : Buf w base' A n c bs := by
  refine ⟨h.1, ?_⟩
  rcases h.2 with hn | ⟨g, e, hb', r⟩
  · exact .inl hn
  · exact .inr ⟨g, e, by omega, r⟩
theorem Buf.lt {w : World} {base n c : Nat} {A : Option Addr} {bs : List UInt8} (h : Buf w base A n c bs) {k : Nat} (e : A = some ⟨k, 0, none⟩) : base ≤ k ∧ k < w.heap.size := by
  rcases h.2 with ⟨rfl, _⟩ | ⟨k', rfl, hb, hlt, _⟩
  · cases e
  · injection e with e; injection e with e; omega
theorem Buf.at {w : World} {base n c : Nat} {A : Option Addr} {bs : List UInt8} (h : Buf w base A n c bs) (h0 : 0 < n) : ∃ g, A = some ⟨g, 0, none⟩ ∧ base ≤ g ∧ g < w.heap.size ∧ Bytes w g 0 bs := by
  rcases h.2 with ⟨_, hn, _⟩ | ⟨k, rfl, hb, hlt, _, _, hby, _⟩
  · omega
  · exact ⟨k, rfl, hb, hlt, hby⟩

/-- A new block that begins with these bytes, whatever mark stands behind its places. -/
theorem Buf.made {w : World} {base n c : Nat} {bs : List UInt8} (cells : Array Value) (t : TypeId) (f0 f1 : Nat) (hb : base ≤ w.heap.size) (hn : bs.length = n) (hnc : n ≤ c) (hc : c ≤ maxLen) (hs : cells.size = c)
    (hf : c ≤ f0 ∨ f1 = 0) (hcells : ∀ j, j < n → cells[j]? = some (B8 (bs.getD j 0))) : Buf (w.alloc (.cells cells t (f0, f1))) base (some ⟨w.heap.size, 0, none⟩) n c bs := by
  have hB : (w.alloc (.cells cells t (f0, f1))).heap[w.heap.size]? = some (.cells cells t (f0, f1)) := heap_alloc_new w _
  refine ⟨hn, .inr ⟨w.heap.size, rfl, hb, by simp, hnc, hc, fun j hj => ?_, fun j hj => ⟨?_, ?_⟩⟩⟩
  · rw [Nat.zero_add, cell_of_row _ _ j cells t (f0, f1) hB]
    exact hcells j (by omega)
  · rw [cell_of_row _ _ j cells t (f0, f1) hB, Array.getElem?_eq_getElem (by omega)]; rfl
  · simp only [World.frozen?, hB, Bool.and_eq_false_iff, decide_eq_false_iff_not]
    rcases hf with hf | hf
    · left; omega
    · right; omega
theorem grown_setCells (w : World) (g o : Nat) (vs : List Value) : w.grownBy (w.setCells g o vs) (some g) := by
  induction vs generalizing w o with
  | nil => exact grown_refl _ _
  | cons v r ih =>
    rw [World.setCells]
    exact grown_trans (grown_setCell (grown_refl w _) (.inl rfl) v) (ih _ _)

/-- What an append of bytes makes, from whatever source. -/
theorem run_append_buf (tx ty : TypeId) (base : Nat) (A : Option Addr) (n c : Nat) (bs ys : List UInt8) (x : Value) (w : World) (hb : Buf w base A n c bs) (hs : _root_.Go.Src Tryd.prog 1 tx x ys.length (ys.map B8) w)
    (hn : n + ys.length ≤ 1099511627776) (hbase : base ≤ w.heap.size) :
    ∃ A' c' w', (Builtin.append_ #[27, tx] ty #[.slice A n c, x]).run Tryd.prog w = .ok (.slice A' (n + ys.length) c') w' ∧ Buf w' base A' (n + ys.length) c' (bs ++ ys) ∧ w.grownBy w' (ownOf A) := by
  obtain ⟨i, hi, hz, hsz, hby⟩ := info_parts infoB
  have hl : (bs ++ ys).length = n + ys.length := by rw [List.length_append, hb.1]
  have hs' : _root_.Go.Src Tryd.prog i.size tx x ys.length (ys.map B8) w := by rw [hsz]; exact hs
  have hone := hb.le
  by_cases hroom : n + ys.length ≤ c
  · rcases hb.2 with ⟨rfl, rfl, rfl⟩ | ⟨g, rfl, hbg, hlt, hnc, hcm, hbytes, hall⟩
    · have hy : ys = [] := List.eq_nil_of_length_eq_zero (by omega)
      subst hy
      have hbs : bs = [] := List.eq_nil_of_length_eq_zero hb.1
      subst hbs
      exact ⟨none, 0, w, run_append_nothing w 27 tx ty 5 i Tryd.underlying27 hi none 0 0 (Nat.le_refl _) x hs', Buf.nil _ _, grown_refl _ _⟩
    · have hr := run_append_room_src w 27 tx ty 5 i Tryd.underlying27 hi g 0 n c x ys.length (ys.map B8) hs' hroom (fun j hj => (hall (0 + n * i.size + j) (by rw [hsz]; simp at hj; omega)).1) (fun j hj => (hall (0 + n * i.size + j) (by rw [hsz]; simp at hj; omega)).2)
      rw [hsz] at hr
      simp only [Nat.zero_add, Nat.mul_one] at hr
      refine ⟨_, _, _, hr, ⟨hl, .inr ⟨g, rfl, hbg, ?_, hroom, hcm, fun j hj => ?_, fun j hj => ⟨?_, ?_⟩⟩⟩, grown_setCells _ _ _ _⟩
      · exact Nat.lt_of_lt_of_le hlt (grown_setCells w g n (ys.map B8)).size
      · rw [Nat.zero_add]
        by_cases hjn : j < n
        · rw [World.cell?_setCells_out g _ n w _ (fun _ _ => .inl hjn)]
          have := hbytes j (by rw [hb.1]; exact hjn)
          rw [Nat.zero_add] at this
          rw [this]
          simp [List.getD_eq_getElem?_getD, List.getElem?_append_left (show j < bs.length by rw [hb.1]; exact hjn)]
        · obtain ⟨k, rfl⟩ : ∃ k, j = n + k := ⟨j - n, by omega⟩
          have hk : k < ys.length := by omega
          rw [World.cell?_setCells_in g (ys.map B8) n w (fun k hk => (hall (n + k) (by simp at hk; omega)).1) k (by simpa using hk)]
          have e : (bs ++ ys).getD (n + k) 0 = ys.getD k 0 := by
            rw [List.getD_eq_getElem?_getD, List.getElem?_append_right (by rw [hb.1]; omega), hb.1, show n + k - n = k by omega, ← List.getD_eq_getElem?_getD]
          rw [e]
          simp [List.getD_eq_getElem?_getD, List.getElem?_eq_getElem hk]
      · exact World.isSome_setCells g _ n w _ (hall j hj).1
      · rw [World.frozen?_setCells]; exact (hall j hj).2
  · have hold : (Builtin.firstCells i.size n (.slice A n c)).run Tryd.prog w.drew = .ok ((bs.map B8).toArray) w.drew := by
      rcases hb.2 with ⟨rfl, rfl, rfl⟩ | ⟨g, rfl, hbg, hlt, hnc, hcm, hbytes, hall⟩
      · have hbs : bs = [] := List.eq_nil_of_length_eq_zero hb.1
        subst hbs
        exact run_firstCells_none w.drew i.size 0 0 0
      · refine run_firstCells_some w.drew i.size n ⟨g, 0, none⟩ n c (bs.map B8) (by rw [hsz, List.length_map, hb.1, Nat.mul_one]) (fun j u hu => ?_)
        have hj : j < bs.length := by have := (List.getElem?_eq_some_iff.1 hu).1; simpa using this
        rw [getD_map8 bs j hj] at hu
        rw [← Option.some.inj hu, add_row]
        exact hbytes j hj
    have hcap := grownCap_ge w (n + ys.length) c 5
    have hcap2 := grownCap_le_maxLen w (n + ys.length) c 5 (by simp only [maxLen]; omega)
    have hnext : Builtin.nextslicecap (n + ys.length) c * i.bytes ≤ 281474976710656 := by
      rw [hby, Nat.mul_one]
      have := nextslicecap_le (show c < n + ys.length by omega)
      omega
    have hr := run_append_grow_src w 27 tx ty 5 i (.int .u8 0) Tryd.underlying27 hi hz A n c (bs.map B8) hold x ys.length (ys.map B8) hs' (by omega) (by omega) hnext
    refine ⟨_, _, _, hr, ?_, grown_alloc (grown_drew (grown_refl _ _)) _⟩
    refine Buf.made (w := w.drew) (n := n + ys.length) _ _ 0 0 hbase hl hcap hcap2 ?_ (.inr rfl) (fun j hj => ?_)
    · simp [size_zeroCells, Value.cells, hb.1]; omega
    · rw [← List.map_append, Array.getElem?_append_left (by simp [hb.1]; omega)]
      rw [List.getElem?_toArray]
      exact getD_map8 _ j (by omega)

theorem ownOf_fresh {base g : Nat} {A : Option Addr} {w : World} {n c : Nat} {bs : List UInt8} (h : Buf w base A n c bs) (hg : g < base) : some g ≠ ownOf A := by
  rcases h.2 with ⟨rfl, _⟩ | ⟨k, rfl, hb, _⟩
  · simp [ownOf]
  · simp [ownOf]; omega
theorem below_own {B base n c : Nat} {A : Option Addr} {bs : List UInt8} {a w w' : World} (h : Below B a w) (hb : Buf w base A n c bs) (hg : w.grownBy w' (ownOf A)) (hB : B ≤ base) (hs : B ≤ w.heap.size) : Below B a w' :=
  h.trans ⟨hg.os, hg.tape, hg.output, hg.size, fun k hk => hg.block k (by omega) (ownOf_fresh hb (by omega))⟩

/-- Bytes more behind a row of the call's own, from whatever source. -/
theorem wpList_append_buf {ops : Array Oper} {rest : List Oper} {o : Oper} {a : Act} {w : World} {Q : Exit → Act → World → Prop} (hgd : o.guard = none) (s x : Operand) (tx : TypeId)
    (ho : o.op = .call { callee := .builtin .append, args := #[s, x], argTypes := #[27, tx] })
    (base : Nat) (A : Option Addr) (n c : Nat) (bs ys : List UInt8) (v : Value) (hs : a.eval s = .slice A n c) (hb : Buf w base A n c bs) (hx : a.eval x = v) (hsrc : _root_.Go.Src Tryd.prog 1 tx v ys.length (ys.map B8) w)
    (hn : n + ys.length ≤ 1099511627776) (hbase : base ≤ w.heap.size)
    (h : ∀ A' c' w', Buf w' base A' (n + ys.length) c' (bs ++ ys) → w.grownBy w' (ownOf A) → wpList Tryd.prog ops Q rest (a.put o.dst (.slice A' (n + ys.length) c')) w') : wpList Tryd.prog ops Q (o :: rest) a w := by
  refine wpList_plain hgd fun K hK' => ?_
  obtain ⟨A', c', w', hr, h1, h2⟩ := run_append_buf tx o.type base A n c bs ys v w hb hsrc hn hbase
  unfold Oper.wp execOp
  simp only [ho, resolve, invoke, builtin, Sem.run_bind, Sem.run_pure, Result.andThen_ok, List.map_toArray, List.map_cons, List.map_nil, hs, hx, hr]
  exact hK' _ _ (h A' c' w' h1 h2)
end
section
open Go.RowKit
/-- Bytes that came in, below block B. -/
def In (w : World) (B : Nat) (A : Option Addr) (c : Nat) (xs : List UInt8) : Prop := xs.length ≤ c ∧ c ≤ 9223372036854775807 ∧ (0 < xs.length → ∃ gb ob, A = some ⟨gb, ob, none⟩ ∧ gb < B ∧ Bytes w gb ob xs)
theorem In.src {w : World} {B g : Nat} {A : Option Addr} {c : Nat} {xs : List UInt8} (h : In w B A c xs) (hg : B ≤ g) : Src w g A xs := fun h0 => by
  obtain ⟨gb, ob, e, hb, hby⟩ := h.2.2 h0
  exact ⟨gb, ob, e, by omega, hby⟩
theorem In.below {w w' : World} {B : Nat} {A : Option Addr} {c : Nat} {xs : List UInt8} (h : In w B A c xs) (hb : Below B w w') : In w' B A c xs :=
  ⟨h.1, h.2.1, fun h0 => by
    obtain ⟨gb, ob, e, hl, hby⟩ := h.2.2 h0
    exact ⟨gb, ob, e, hl, hby.below hb hl⟩⟩
theorem In.take {w : World} {B : Nat} {A : Option Addr} {c : Nat} {xs : List UInt8} (h : In w B A c xs) (k : Nat) : In w B A c (xs.take k) :=
  ⟨by have := h.1; rw [List.length_take]; omega, h.2.1, fun h0 => by
    obtain ⟨gb, ob, e, hl, hby⟩ := h.2.2 (by rw [List.length_take] at h0; omega)
    exact ⟨gb, ob, e, hl, hby.take k⟩⟩
theorem size8 (w : World) : (sizeOf 5).run Tryd.prog w = .ok 1 w := by
  obtain ⟨i, hi, hz, hs, hb⟩ := info_parts infoB
  simp [sizeOf, typeInfo, hi, hs]
def Parts (w : World) (g : Nat) (A : Option Addr) (ps : List (List UInt8)) : Prop := 0 < ps.length → ∃ gp op, A = some ⟨gp, op, none⟩ ∧ gp ≠ g ∧
  ∀ j, j < ps.length → ∃ Aj cj, w.cell? ⟨gp, op + j, none⟩ = some (.slice Aj (ps.getD j []).length cj) ∧ (ps.getD j []).length ≤ cj ∧ cj ≤ 9223372036854775807 ∧ Src w g Aj (ps.getD j [])
theorem cell_past (w : World) (g i j : Nat) (h : i ≠ j) (x : Value) : (w.setCell ⟨g, i, none⟩ x).cell? ⟨g, j, none⟩ = w.cell? ⟨g, j, none⟩ :=
  World.cell?_setCell_other w ⟨g, i, none⟩ ⟨g, j, none⟩ x (fun e => by injection e; omega)
theorem frozen_past (w : World) (p q : Addr) (x : Value) : (w.setCell p x).frozen? q = w.frozen? q := by simp

theorem Buf.src {w : World} {base n c g : Nat} {A : Option Addr} {bs : List UInt8} (h : Buf w base A n c bs) (hg : ∀ k, A = some ⟨k, 0, none⟩ → k ≠ g) : Src w g A bs := fun h0 => by
  rcases h.2 with ⟨_, hn, _⟩ | ⟨k, rfl, _, hlt, _, _, hby, _⟩
  · have := h.1; omega
  · exact ⟨k, 0, rfl, hg k rfl, hby⟩
theorem Buf.toIn {w : World} {base n c B : Nat} {A : Option Addr} {bs : List UInt8} (h : Buf w base A n c bs) (hB : w.heap.size ≤ B) : In w B A c bs := by
  refine ⟨by rw [h.1]; exact h.le.1, h.le.2, fun h0 => ?_⟩
  rcases h.2 with ⟨_, hn, _⟩ | ⟨k, rfl, _, hlt, _, _, hby, _⟩
  · have := h.1; omega
  · exact ⟨k, 0, rfl, by omega, hby⟩
/-- A source of bytes that came in. -/
theorem src_in {w : World} {A : Option Addr} {g c : Nat} {ys : List UInt8} (h : Src w g A ys) (hc : A = none → ys = []) : _root_.Go.Src Tryd.prog 1 27 (.slice A ys.length c) ys.length (ys.map B8) w := by
  cases A with
  | none =>
    obtain rfl := hc rfl
    exact _root_.Go.Src.ofNil w Tryd.underlying27 c
  | some ad =>
    refine _root_.Go.Src.ofSlice w Tryd.underlying27 ad ys.length c _ (by simp) (fun j u hu => ?_) (oneB8 _)
    have hj : j < ys.length := by have := (List.getElem?_eq_some_iff.1 hu).1; simpa using this
    obtain ⟨gb, ob, e, _, hby⟩ := h (by omega)
    rw [getD_map8 ys j hj] at hu
    rw [← Option.some.inj hu, Option.some.inj e, add_row]
    exact hby j hj
theorem src_in' {w : World} {A : Option Addr} {g c : Nat} {ys : List UInt8} (h : Src w g A ys) : _root_.Go.Src Tryd.prog 1 27 (.slice A ys.length c) ys.length (ys.map B8) w := by
  refine src_in h fun hA => ?_
  rcases Nat.eq_zero_or_pos ys.length with h0 | h0
  · exact List.eq_nil_of_length_eq_zero h0
  · obtain ⟨_, _, e, _⟩ := h h0
    rw [hA] at e; cases e
theorem bytesRow_at (s : List UInt8) (cap j : Nat) (hj : j < s.length) : (bytesRow ⟨s.toArray⟩ cap)[j]? = some (B8 (s.getD j 0)) := by
  unfold bytesRow
  rw [Array.getElem?_append_left (by simpa using hj)]
  simp [List.getD_eq_getElem?_getD, List.getElem?_eq_getElem hj]
theorem bytesRow_size (s : List UInt8) (cap : Nat) (h : s.length ≤ cap) : (bytesRow ⟨s.toArray⟩ cap).size = cap := by
  have e : (⟨s.toArray⟩ : ByteArray).size = s.length := rfl
  unfold bytesRow
  simp [e]; omega
theorem conv_in {W : World} {B n c : Nat} {A : Option Addr} {y : List UInt8} (hn : y.length = n) (h : In W B A c y) : (convert 27 9 (.slice A n c)).run Tryd.prog W = .ok (.string ⟨y.toArray⟩) W := by
  subst hn
  rcases Nat.eq_zero_or_pos y.length with h0 | h0
  · obtain rfl : y = [] := List.eq_nil_of_length_eq_zero h0
    rw [run_convert_bytes_string W _ _ _ A _ c Tryd.underlying27 Tryd.underlying5 Tryd.underlying9]
    cases A <;> rfl
  · obtain ⟨gb, ob, rfl, _, hby⟩ := h.2.2 h0
    refine run_convert_bytes_back W 27 9 5 ⟨gb, ob, none⟩ c y Tryd.underlying27 Tryd.underlying5 Tryd.underlying9 (fun j hj => ?_)
    rw [add_row, hby j hj]
    simp [List.getD_eq_getElem?_getD, List.getElem?_eq_getElem hj]
theorem in_weak {w : World} {B B' c : Nat} {A : Option Addr} {xs : List UInt8} (h : In w B A c xs) (hB : B ≤ B') : In w B' A c xs :=
  ⟨h.1, h.2.1, fun h0 => by
    obtain ⟨gb, ob, e, hb, hby⟩ := h.2.2 h0
    exact ⟨gb, ob, e, by omega, hby⟩⟩
theorem in_up {w w' : World} {c : Nat} {A : Option Addr} {xs : List UInt8} (h : In w w.heap.size A c xs) (hb : Below w.heap.size w w') : In w' w'.heap.size A c xs := in_weak (h.below hb) hb.size
theorem in_blk {w : World} {g n : Nat} {t : TypeId} {xs : List UInt8} (h : Blk w g t (xs.map B8)) (hn : xs.length = n) (hm : n < 1000) : In w w.heap.size (some ⟨g, 0, none⟩) n xs :=
  ⟨by omega, by omega, fun _ => ⟨g, 0, rfl, h.lt, fun j hj => by rw [Nat.zero_add]; exact h.at8 j hj⟩⟩
theorem in_nil (w : World) (c : Nat) (hc : c ≤ 9223372036854775807) (A : Option Addr) : In w w.heap.size A c [] := ⟨Nat.zero_le _, hc, fun h => absurd h (by simp)⟩

end
end Go.Proofs.YtagblbfbjemfhaaDoor
