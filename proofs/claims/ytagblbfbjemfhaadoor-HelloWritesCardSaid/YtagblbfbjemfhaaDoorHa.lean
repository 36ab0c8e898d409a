/-
  Rows of bytes and rows of rows as values; a number's bytes.
-/
import Derived.Test.YtagblbfbjemfhaaDoorLe
import Derived.Test.YtagblbfbjemfhaaDoorSl
import Derived.Test.YtagblbfbjemfhaaDoorHG
import Derived.Lib.AppendZeros
import Derived.Lib.AppendZerosOnto
import Derived.Great.Walk
import Derived.PlainAid
import Derived.Deep.DeepCutAuto
import Derived.StillTailTactics
namespace Go.Proofs.YtagblbfbjemfhaaDoor
open Go.RowKit
open HelloMath (numB numB_length vecB vecB_length)

/-- bytes that somebody may read -/
def SlV (w : World) (v : Value) (bs : List UInt8) : Prop := ∃ A c, v = .slice A bs.length c ∧ In w w.heap.size A c bs
/-- bytes of the call's own -/
def BufV (w : World) (base : Nat) (v : Value) (bs : List UInt8) : Prop := ∃ A c, v = .slice A bs.length c ∧ Buf w base A bs.length c bs
/-- rows that somebody may read -/
def RowV (w : World) (v : Value) (ps : List (List UInt8)) : Prop := ∃ A c, v = .slice A ps.length c ∧ PIn w w.heap.size A c ps
theorem SlV.below {w w' : World} {v : Value} {bs : List UInt8} (h : SlV w v bs) (hb : Below w.heap.size w w') : SlV w' v bs := by
  obtain ⟨A, c, e, h⟩ := h
  exact ⟨A, c, e, in_weak (h.below hb) hb.size⟩
theorem BufV.below {w w' : World} {base : Nat} {v : Value} {bs : List UInt8} (h : BufV w base v bs) (hb : Below w.heap.size w w') : BufV w' base v bs := by
  obtain ⟨A, c, e, h⟩ := h
  exact ⟨A, c, e, h.below hb⟩
theorem BufV.base {w : World} {base base' : Nat} {v : Value} {bs : List UInt8} (h : BufV w base v bs) (hb : base' ≤ base) : BufV w base' v bs := by
  obtain ⟨A, c, e, h⟩ := h
  exact ⟨A, c, e, h.base hb⟩
theorem BufV.sl {w : World} {base : Nat} {v : Value} {bs : List UInt8} (h : BufV w base v bs) : SlV w v bs := by
  obtain ⟨A, c, e, h⟩ := h
  exact ⟨A, c, e, h.toIn (Nat.le_refl _)⟩
theorem pin_weak {w : World} {B B' c : Nat} {A : Option Addr} {ps : List (List UInt8)} (h : PIn w B A c ps) (hB : B ≤ B') : PIn w B' A c ps :=
  ⟨h.1, h.2.1, fun h0 => by
    obtain ⟨gp, op, e, hl, hj⟩ := h.2.2 h0
    refine ⟨gp, op, e, by omega, fun j hjl => ?_⟩
    obtain ⟨Aj, cj, hc, hi⟩ := hj j hjl
    exact ⟨Aj, cj, hc, in_weak hi hB⟩⟩
theorem RowV.below {w w' : World} {v : Value} {ps : List (List UInt8)} (h : RowV w v ps) (hb : Below w.heap.size w w') : RowV w' v ps := by
  obtain ⟨A, c, e, h⟩ := h
  exact ⟨A, c, e, pin_weak (h.below hb) hb.size⟩
/-- values that are bytes, one by one -/
def SlVs (w : World) : List Value → List (List UInt8) → Prop
  | [], [] => True
  | v :: vs, p :: ps => SlV w v p ∧ SlVs w vs ps
  | _, _ => False
theorem SlVs.at {w : World} : ∀ {vs : List Value} {ps : List (List UInt8)}, SlVs w vs ps → ∀ j, j < ps.length → ∃ v, vs[j]? = some v ∧ SlV w v (ps.getD j [])
  | [], [], _, j, hj => absurd hj (Nat.not_lt_zero _)
  | v :: vs, p :: ps, h, 0, hj => ⟨v, rfl, h.1⟩
  | v :: vs, p :: ps, h, j + 1, hj => SlVs.at h.2 j (by simpa using hj)
  | [], _ :: _, h, _, _ => absurd h id
  | _ :: _, [], h, _, _ => absurd h id
theorem SlVs.below {w w' : World} (hb : Below w.heap.size w w') : ∀ {_vs : List Value} {_ps : List (List UInt8)}, SlVs w _vs _ps → SlVs w' _vs _ps
  | [], [], _ => trivial
  | _v :: _vs, _p :: _ps, h => ⟨h.1.below hb, SlVs.below hb h.2⟩
  | [], _ :: _, h => absurd h id
  | _ :: _, [], h => absurd h id
theorem rowV_of {w : World} {g : Nat} {t : TypeId} {vs : List Value} {ps : List (List UInt8)} (hb : Blk w g t vs) (h : SlVs w vs ps) (hs : ps.length ≤ 1000) : RowV w (.slice (some ⟨g, 0, none⟩) ps.length ps.length) ps := by
  refine ⟨_, _, rfl, Nat.le_refl _, by omega, fun h0 => ⟨g, 0, rfl, hb.lt, fun j hj => ?_⟩⟩
  obtain ⟨v, e, A, c, ev, hi⟩ := h.at j hj
  exact ⟨A, c, by rw [Nat.zero_add, hb.cell, e, ev], hi⟩
theorem info40 : (Tryd.prog.info? 22).map (·.size) = some 32 := by kernel_rfl
theorem rangeAt_of_blk {w : World} {g : Nat} {t : TypeId} {cs : List Value} (h : Blk w g t cs) : w.rangeAt g 0 cs := fun j v hv => by
  rw [Nat.zero_add, h.cell, hv]

section
variable {ops : Array Oper} {rest : List Oper} {o : Oper} {a : Act} {w : World} {K : Act → World → Prop} {Q : Exit → Act → World → Prop}
theorem run_rowOf {t e : TypeId} {m g ob : Nat} (hu : Tryd.prog.underlying t = some (.array m e)) (hs : (sizeOf e).run Tryd.prog w = .ok 1 w) :
    (Instr.sliceAt t (.pointer (some ⟨g, ob, none⟩)) none none none).run Tryd.prog w = .ok (.slice (some ⟨g, ob, none⟩) m m) w := by
  by_cases hm : m = 0
  · subst hm
    simp [Instr.sliceAt, run_underlying hu, Instr.sliceBounds, hs, Addr.add, Instr.sureAddr, go_sem]
  · simp [Instr.sliceAt, run_underlying hu, Instr.sliceBounds, hs, Addr.add, Instr.sureAddr, go_sem]
theorem wp_rowOf {x : Operand} {t e : TypeId} {m g ob : Nat} (ho : o.op = .slice t x none none none) (hu : Tryd.prog.underlying t = some (.array m e)) (hs : ∀ w, (sizeOf e).run Tryd.prog w = .ok 1 w) (hx : a.eval x = .pointer (some ⟨g, ob, none⟩))
    (hk : K (a.put o.dst (.slice (some ⟨g, ob, none⟩) m m)) w) : o.wp Tryd.prog a w K Q := by
  unfold Oper.wp execOp
  simp only [ho, hx, Option.map_none, Sem.run_bind, run_rowOf hu (hs w), Result.andThen_ok]
  exact hk
theorem wpList_make_buf (hgd : o.guard = none) {x y : Operand} (ho : o.op = .makeSlice 27 x y) {n c : Nat} (hx : a.eval x = .int .i64 (n : Int)) (hy : a.eval y = .int .i64 (c : Int)) (hnc : n ≤ c) (hc : c ≤ 1000000)
    (h : ∀ g w', g = w.heap.size → Buf w' w.heap.size (some ⟨g, 0, none⟩) n c (List.replicate n 0) → Below w.heap.size w w' → wpList Tryd.prog ops Q rest (a.put o.dst (.slice (some ⟨g, 0, none⟩) n c)) w') : wpList Tryd.prog ops Q (o :: rest) a w := by
  refine wpList_plain hgd fun K hK => ?_
  have hz : Buf (w.alloc (.cells ((List.replicate c (0 : UInt8)).map B8).toArray 5)) w.heap.size (some ⟨w.heap.size, 0, none⟩) n c (List.replicate n 0) :=
    Buf.made _ _ _ _ (Nat.le_refl _) List.length_replicate hnc (by unfold maxLen; omega) (by simp) (.inr rfl) (fun j hj => by
      rw [List.getElem?_toArray]
      simp [List.getD_eq_getElem?_getD, show j < c by omega, hj])
  unfold Oper.wp execOp
  simp only [ho, hx, hy, Sem.run_bind, run_make_bytes _ _ n c hnc (by omega) w, Result.andThen_ok]
  exact hK _ _ (h _ _ rfl hz ((Below.refl _ _).alloc (Nat.le_refl _) _))
theorem wpList_store8 (hgd : o.guard = none) {x y : Operand} (ho : o.op = .store 5 x y) {g j n c base : Nat} {bs : List UInt8} {b : UInt8} (hx : a.eval x = .pointer (some ⟨g, j, none⟩)) (hy : a.eval y = .int .u8 (b.toNat : Int)) (hB : Buf w base (some ⟨g, 0, none⟩) n c bs) (hj : j < n) (hd : o.dst = none)
    (h : ∀ w', Buf w' base (some ⟨g, 0, none⟩) n c (bs.set j b) → w.grownBy w' (some g) → wpList Tryd.prog ops Q rest a w') : wpList Tryd.prog ops Q (o :: rest) a w := by
  have hc : w.cell? ⟨g, j, none⟩ = some (B8 (bs.getD j 0)) := by
    obtain ⟨g', e, _, _, hb⟩ := hB.at (by omega)
    cases e
    have := hb j (by rw [hB.len]; exact hj)
    rwa [Nat.zero_add] at this
  have hf := hB.notFrozen (j := j) (Nat.lt_of_lt_of_le hj hB.le.1)
  refine wpList_plain hgd fun K hK => ?_
  unfold Oper.wp execOp
  simp only [ho, hx, hy]
  simp [hc, hf, hd, go_sem]
  exact hK _ _ (h _ (hB.set hj b) (grown_setCell (grown_refl w _) (.inl rfl) _))
theorem wp_builtS (t e : TypeId) (len : Nat) (parts : Array (Nat × Operand)) (ho : o.op = .buildSlice t len parts) (hu : Tryd.prog.underlying t = some (.slice e)) (cells : Array Value)
    (hf : Tryd.prog.builtSlice e len (parts.map fun (i, x) => (i, a.eval x)).toList = some cells)
    (h : K (a.put o.dst (.slice (some ⟨w.heap.size, 0, none⟩) len len)) (w.alloc (.cells cells e))) : o.wp Tryd.prog a w K Q := by
  unfold Program.builtSlice at hf
  cases hie : Tryd.prog.info? e with
  | none => simp [hie] at hf
  | some ie =>
    simp only [hie] at hf
    cases hz : ie.zero with
    | none => simp [hz] at hf
    | some z =>
      simp only [hz] at hf
      by_cases hc : len * ie.size > 2 ^ 24 ∨ len * ie.size = 0
      · simp [hc] at hf
      · rw [if_neg hc] at hf
        exact wp_buildSlice t e len parts ho cells ie z hu hie hz (fun h' => hc (Or.inl h')) (fun h' => hc (Or.inr h')) hf h
/-- Constant bytes as a slice. -/
theorem wp_bytesc {n : Nat} {parts : Array (Nat × Operand)} (bs : List UInt8) (ho : o.op = .buildSlice 27 n parts) (hn : bs.length = n) (hm : n < 1000) (hv : Tryd.prog.builtSlice 5 n (parts.map fun (i, x) => (i, a.eval x)).toList = some (bs.map B8).toArray)
    (hk : ∀ v w', SlV w' v bs → Below w.heap.size w w' → K (a.put o.dst v) w') : o.wp Tryd.prog a w K Q :=
  wp_builtS _ _ _ _ ho Tryd.underlying27 _ hv (hk _ _ ⟨_, _, by rw [hn], in_blk (Blk.new w _ _) hn hm⟩ ((Below.refl _ _).alloc (Nat.le_refl _) _))
/-- Rows put together. -/
theorem wp_rowsc {n : Nat} {parts : Array (Nat × Operand)} (vs : List Value) (ps : List (List UInt8)) (ho : o.op = .buildSlice 28 n parts) (hn : ps.length = n) (hm : n ≤ 1000) (zs : List (Nat × Value)) (hp : (parts.map fun (i, x) => (i, a.eval x)).toList = zs) (hv : Tryd.prog.builtSlice 27 n zs = some vs.toArray) (hs : SlVs w vs ps)
    (hk : ∀ v w', RowV w' v ps → Below w.heap.size w w' → K (a.put o.dst v) w') : o.wp Tryd.prog a w K Q :=
  wp_builtS _ _ _ _ ho Tryd.underlying28 _ (hp ▸ hv) (hk _ _ (by subst hn; exact rowV_of (Blk.new w _ _) (hs.below ((Below.refl _ _).alloc (Nat.le_refl _) _)) hm) ((Below.refl _ _).alloc (Nat.le_refl _) _))
theorem wpList_bytesc (hgd : o.guard = none) {n : Nat} {parts : Array (Nat × Operand)} (bs : List UInt8) (ho : o.op = .buildSlice 27 n parts) (hn : bs.length = n) (hm : n < 1000) (hv : Tryd.prog.builtSlice 5 n (parts.map fun (i, x) => (i, a.eval x)).toList = some (bs.map B8).toArray)
    (hk : ∀ v w', SlV w' v bs → Below w.heap.size w w' → wpList Tryd.prog ops Q rest (a.put o.dst v) w') : wpList Tryd.prog ops Q (o :: rest) a w :=
  wpList_plain hgd fun _ hK => wp_bytesc bs ho hn hm hv fun v w' h1 h2 => hK _ _ (hk v w' h1 h2)
end
theorem rows1 (Aa : Option Addr) (na ca : Nat) : Tryd.prog.builtSlice 27 1 [(0, .slice Aa na ca)] = some [.slice Aa na ca].toArray := by kernel_rfl
theorem rows2 (Aa Ab : Option Addr) (na ca nb cb : Nat) : Tryd.prog.builtSlice 27 2 [(0, .slice Aa na ca), (1, .slice Ab nb cb)] = some [.slice Aa na ca, .slice Ab nb cb].toArray := by kernel_rfl
theorem rows3 (Aa Ab Ac : Option Addr) (na ca nb cb nc cc : Nat) : Tryd.prog.builtSlice 27 3 [(0, .slice Aa na ca), (1, .slice Ab nb cb), (2, .slice Ac nc cc)] = some [.slice Aa na ca, .slice Ab nb cb, .slice Ac nc cc].toArray := by kernel_rfl
theorem rows5 (Aa Ab Ac Ad Ae : Option Addr) (na ca nb cb nc cc nd cd ne ce : Nat) : Tryd.prog.builtSlice 27 5 [(0, .slice Aa na ca), (1, .slice Ab nb cb), (2, .slice Ac nc cc), (3, .slice Ad nd cd), (4, .slice Ae ne ce)] = some [.slice Aa na ca, .slice Ab nb cb, .slice Ac nc cc, .slice Ad nd cd, .slice Ae ne ce].toArray := by kernel_rfl
theorem byte1 (a : Int) : Tryd.prog.builtSlice 5 1 [(0, .int .u8 a)] = some [.int .u8 a].toArray := by kernel_rfl

/-- the low byte of a number, a few bytes up -/
theorem numB_front : ∀ (k n : Nat), numB (k + 1) n = UInt8.ofNat (n / 256 ^ k) :: numB k n
  | 0, n => by simp [numB]
  | k + 1, n => by
    rw [numB, numB_front k (n / 256), List.cons_append, Nat.div_div_eq_div_mul, ← Nat.pow_succ']
    rfl
theorem num_set (k j n : Nat) (h : j < k) : (List.replicate (k - j) (0 : UInt8) ++ numB j n).set (k - 1 - j) (UInt8.ofNat (n / 256 ^ j)) = List.replicate (k - (j + 1)) 0 ++ numB (j + 1) n := by
  obtain ⟨d, rfl⟩ : ∃ d, k = j + 1 + d := ⟨k - (j + 1), by omega⟩
  have e1 : j + 1 + d - j = d + 1 := by omega
  have e2 : j + 1 + d - 1 - j = d := by omega
  have e3 : j + 1 + d - (j + 1) = d := by omega
  rw [e1, e2, e3, numB_front, List.replicate_succ', List.append_assoc, List.set_append_right _ _ (by simp)]
  simp
end Go.Proofs.YtagblbfbjemfhaaDoor
