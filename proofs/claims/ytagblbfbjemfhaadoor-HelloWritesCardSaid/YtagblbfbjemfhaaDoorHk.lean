/-
  Rows under the frame that lets marks turn; constant bytes in regions that draw.
-/
import Derived.Test.YtagblbfbjemfhaaDoorHd
import Derived.Test.YtagblbfbjemfhaaDoorFk
namespace Go.Proofs.YtagblbfbjemfhaaDoor
open Go.RowKit

theorem in_cb {B : Nat} {w w' : World} {A : Option Addr} {c : Nat} {xs : List UInt8} (h : In w w.heap.size A c xs) (hb : CB B w w') : In w' w'.heap.size A c xs :=
  ⟨h.1, h.2.1, fun h0 => by
    obtain ⟨gb, ob, e, hl, hy⟩ := h.2.2 h0
    exact ⟨gb, ob, e, Nat.lt_of_lt_of_le hl hb.below.size, fun j hj => (hb.cells _ hl).trans (hy j hj)⟩⟩
theorem SlV.cb {B : Nat} {w w' : World} {v : Value} {bs : List UInt8} (h : SlV w v bs) (hb : CB B w w') : SlV w' v bs := by
  obtain ⟨A, c, e, h⟩ := h
  exact ⟨A, c, e, in_cb h hb⟩
theorem RowV.cb {B : Nat} {w w' : World} {v : Value} {ps : List (List UInt8)} (h : RowV w v ps) (hb : CB B w w') : RowV w' v ps := by
  obtain ⟨A, c, e, h⟩ := h
  refine ⟨A, c, e, h.1, h.2.1, fun h0 => ?_⟩
  obtain ⟨gp, op, e, hl, hj⟩ := h.2.2 h0
  refine ⟨gp, op, e, Nat.lt_of_lt_of_le hl hb.below.size, fun j hjl => ?_⟩
  obtain ⟨Aj, cj, hc, hi⟩ := hj j hjl
  exact ⟨Aj, cj, (hb.cells _ hl).trans hc, in_cb hi hb⟩
/-- bytes in a block that the region made -/
def FrV (B : Nat) (w : World) (v : Value) (bs : List UInt8) : Prop := ∃ a c, v = .slice (some a) bs.length c ∧ B ≤ a.block ∧ a.block < w.heap.size ∧ Unmarked w a.block ∧ In w w.heap.size (some a) c bs
theorem FrV.cb {B B' : Nat} {w w' : World} {v : Value} {bs : List UInt8} (h : FrV B w v bs) (hb : CB B' w w') : FrV B w' v bs := by
  obtain ⟨a, c, e, ha, hl, hu, h⟩ := h
  exact ⟨a, c, e, ha, Nat.lt_of_lt_of_le hl hb.below.size, hb.unm _ hl hu, in_cb h hb⟩
theorem BufV.cb {B B' : Nat} {w w' : World} {v : Value} {bs : List UInt8} (h : BufV w B v bs) (hb : CB B' w w') : BufV w' B v bs := by
  obtain ⟨A, c, e, h⟩ := h
  refine ⟨A, c, e, h.1, ?_⟩
  rcases h.2 with h1 | ⟨g, e, h1, h2, h3, h4, h5, h6⟩
  · exact .inl h1
  · exact .inr ⟨g, e, h1, Nat.lt_of_lt_of_le h2 hb.below.size, h3, h4, fun j hj => (hb.cells _ h2).trans (h5 j hj), fun j hj => ⟨by rw [hb.cells _ h2]; exact (h6 j hj).1, hb.fro _ h2 (h6 j hj).1 (h6 j hj).2⟩⟩
theorem FrV.sl {B : Nat} {w : World} {v : Value} {bs : List UInt8} (h : FrV B w v bs) : SlV w v bs := by
  obtain ⟨a, c, e, _, _, _, h⟩ := h
  exact ⟨some a, c, e, h⟩
theorem cb_freeze (w : World) (k B : Nat) (C : Array Value) (t : TypeId) (lo hi : Nat) (hh : w.heap[k]? = some (.cells C t (lo, hi))) (hm : lo = hi ∨ C.size ≤ lo) (h : B ≤ k) : CB B w (w.freeze ⟨k, C.size, none⟩ 1) := by
  have e1 : ∀ j, (w.freeze ⟨k, C.size, none⟩ 1).heap[j]? = if k = j then some (.cells C t (if lo == hi then (C.size, C.size + 1) else (min lo C.size, max hi (C.size + 1)))) else w.heap[j]? := by
    intro j
    unfold World.freeze
    rw [if_neg (by decide)]
    simp only [Array.getElem?_modify]
    by_cases e : k = j
    · subst e
      rw [if_pos rfl, if_pos rfl, hh]
      rfl
    · rw [if_neg e, if_neg e]
  have e2 : ∃ lo' hi', (if lo == hi then (C.size, C.size + 1) else (min lo C.size, max hi (C.size + 1))) = (lo', hi') ∧ C.size ≤ lo' := by
    by_cases e : lo = hi
    · subst e
      exact ⟨C.size, C.size + 1, by simp, Nat.le_refl _⟩
    · refine ⟨min lo C.size, max hi (C.size + 1), by rw [if_neg (by simpa using e)], ?_⟩
      have := hm.resolve_left e
      omega
  obtain ⟨lo', hi', e3, hle⟩ := e2
  rw [e3] at e1
  have hs : (w.freeze ⟨k, C.size, none⟩ 1).heap.size = w.heap.size := by unfold World.freeze; rw [if_neg (by decide)]; simp
  refine ⟨⟨?_, ?_, ?_, Nat.le_of_eq hs.symm, fun j hj => ?_⟩, fun p hp => ?_, fun j hj hu => ?_, fun p hp hs h0 => ?_⟩
  · unfold World.freeze; rw [if_neg (by decide)]
  · unfold World.freeze; rw [if_neg (by decide)]
  · unfold World.freeze; rw [if_neg (by decide)]
  · rw [e1, if_neg (by omega)]
  · unfold World.cell?
    rw [e1]
    by_cases e : k = p.block
    · rw [if_pos e, ← e, hh]
    · rw [if_neg e]
  · by_cases e : k = j
    · subst e; exact ⟨C, t, lo', hi', by rw [e1, if_pos rfl], .inr hle⟩
    · obtain ⟨C', t', a, b, h1, h2⟩ := hu
      exact ⟨C', t', a, b, by rw [e1, if_neg e]; exact h1, h2⟩
  · unfold World.frozen? at h0 ⊢
    rw [e1]
    by_cases e : k = p.block
    · rw [if_pos e]
      unfold World.cell? at hs
      rw [← e, hh] at hs
      have hlt : p.off < C.size := by
        cases hsp : p.spot with
        | some x => simp [hsp] at hs
        | none => simp [hsp] at hs; omega
      simp only [Bool.and_eq_false_iff, decide_eq_false_iff_not]
      left; omega
    · rw [if_neg e]; exact h0
theorem run_constK (w : World) (a : Addr) (l c B : Nat) (hB : B ≤ a.block) (hu : Unmarked w a.block) : ∃ w', (convert 27 27 (.slice (some a) l c)).run Tryd.prog w = .ok (.slice (some a) l c) w' ∧ CB B w w' := by
  obtain ⟨C, t, lo, hi, hh, hm⟩ := hu
  have hsh : w.shape? a.block = some (t, C.size) := by unfold World.shape?; rw [hh]
  exact ⟨w.freeze ⟨a.block, C.size, none⟩ 1, by simp [convert, run_underlying Tryd.underlying27, run_underlying Tryd.underlying5, markStringish, hsh], cb_freeze w a.block B C t lo hi hh hm hB⟩
section
variable {o : Oper} {a : Act} {w : World} {K : Act → World → Prop} {Q : Exit → Act → World → Prop}
theorem wp_constK {x : Operand} {B : Nat} {v : Value} {bs : List UInt8} (ho : o.op = .convert 27 27 x) (hx : a.eval x = v) (h : FrV B w v bs)
    (hk : ∀ v w', FrV B w' v bs → CB B w w' → K (a.put o.dst v) w') : o.wp Tryd.prog a w K Q := by
  obtain ⟨ad, c, rfl, hB, hl, hu, hi⟩ := h
  obtain ⟨w', hr, hcb⟩ := run_constK w ad bs.length c B hB hu
  unfold Oper.wp execOp
  simp only [ho, hx, Sem.run_bind, hr, Result.andThen_ok]
  exact hk _ _ ⟨ad, c, rfl, hB, Nat.lt_of_lt_of_le hl hcb.below.size, hcb.unm _ hl hu, in_cb hi hcb⟩ hcb
theorem wp_bytescK {n : Nat} {parts : Array (Nat × Operand)} (bs : List UInt8) (B : Nat) (hB : B ≤ w.heap.size) (ho : o.op = .buildSlice 27 n parts) (hn : bs.length = n) (hm : n < 1000) (hv : Tryd.prog.builtSlice 5 n (parts.map fun (i, x) => (i, a.eval x)).toList = some (bs.map B8).toArray)
    (hk : ∀ v w', FrV B w' v bs → Below w.heap.size w w' → K (a.put o.dst v) w') : o.wp Tryd.prog a w K Q :=
  wp_builtS _ _ _ _ ho Tryd.underlying27 _ hv (hk _ _ ⟨⟨w.heap.size, 0, none⟩, n, by rw [hn], hB, (Blk.new w _ _).lt, ⟨_, _, 0, 0, Blk.new w _ _, .inl rfl⟩, in_blk (Blk.new w _ _) hn hm⟩ ((Below.refl _ _).alloc (Nat.le_refl _) _))
end
end Go.Proofs.YtagblbfbjemfhaaDoor
