/-
  A message that is being filled: its parts lie in blocks of the call's own.
-/
import Derived.Test.YtagblbfbjemfhaaDoorHs
namespace Go.Proofs.YtagblbfbjemfhaaDoor
open Go.RowKit
open HelloMath (numB numB_length vecB vecB_length Msg getN getN_snoc pad32 zero32 zeroM)

theorem BufV.kept {w w' : World} {D g : Nat} {v : Value} {bs : List UInt8} (h : BufV w D v bs) (hg : w.grownBy w' (some g)) (hD : g < D) : BufV w' D v bs := by
  obtain ⟨A, c, e, hb⟩ := h
  refine ⟨A, c, e, hb.kept hg fun k ek e2 => ?_⟩
  have := (hb.lt ek).1
  injection e2 with e2
  have hk : D ≤ k := this
  omega
def MW (w : World) (D g : Nat) (m : Msg) : Prop := g < D ∧ (m.rnd.length = 32 ∧ m.mark.length = 32) ∧ ∃ v1 v2 v3 v4 v5 vc, Blk w g 30 (mC m v1 v2 v3 v4 v5 vc) ∧ BufV w D v1 m.ses ∧ BufV w D v2 m.sha ∧ BufV w D v3 m.tic ∧ BufV w D v4 m.non ∧ BufV w D v5 m.sig ∧ Rws w D vc m.certs
theorem MW.kept {w w' : World} {D g k : Nat} {m : Msg} (h : MW w D g m) (hg : w.grownBy w' (some k)) (hk : k < D) (hne : g ≠ k) : MW w' D g m := by
  obtain ⟨hD, hl, v1, v2, v3, v4, v5, vc, hb, h1, h2, h3, h4, h5, h6⟩ := h
  exact ⟨hD, hl, v1, v2, v3, v4, v5, vc, hb.grown hg (fun e => hne (Option.some.inj e)), h1.kept hg hk, h2.kept hg hk, h3.kept hg hk, h4.kept hg hk, h5.kept hg hk, h6.kept hg (fun j e => by injection e with e; omega)⟩
theorem MW.below {w w' : World} {D g : Nat} {m : Msg} (h : MW w D g m) (hb : Below w.heap.size w w') : MW w' D g m := by
  obtain ⟨hD, hl, v1, v2, v3, v4, v5, vc, h0, h1, h2, h3, h4, h5, h6⟩ := h
  exact ⟨hD, hl, v1, v2, v3, v4, v5, vc, h0.below hb h0.lt, h1.below hb, h2.below hb, h3.below hb, h4.below hb, h5.below hb, h6.below hb⟩
theorem MW.lt {w : World} {D g : Nat} {m : Msg} (h : MW w D g m) : g < w.heap.size := by
  obtain ⟨_, _, v1, v2, v3, v4, v5, vc, hb, _⟩ := h
  exact hb.lt
theorem MW.there {w : World} {D g : Nat} {m : Msg} (h : MW w D g m) (k : Nat) (hk : k < 75) : (w.cell? ⟨g, k, none⟩).isSome = true ∧ w.frozen? ⟨g, k, none⟩ = false := by
  obtain ⟨_, hl, v1, v2, v3, v4, v5, vc, hb, _⟩ := h
  refine ⟨?_, hb.frozen k⟩
  rw [hb.cell, List.getElem?_eq_getElem (by rw [mC_length hl.1 hl.2]; exact hk)]
  rfl
theorem mC_set {m : Msg} {v1 v2 v3 v4 v5 vc : Value} (hr : m.rnd.length = 32) (hm : m.mark.length = 32) (j : Nat) (x : Value) : (mC m v1 v2 v3 v4 v5 vc).set (65 + j) x = .int .i64 m.kind :: (m.rnd.map B8 ++ (m.mark.map B8 ++ [v1, v2, v3, v4, v5, vc, .int .i64 m.life, .int .i64 m.age, .bool m.psk, .bool m.retry].set j x)) := by
  unfold mC
  rw [show 65 + j = (64 + j) + 1 by omega, List.set_cons_succ, List.set_append_right _ _ (by rw [List.length_map, hr]; omega), List.set_append_right _ _ (by rw [List.length_map, List.length_map, hr, hm]; omega), List.length_map, List.length_map, hr, hm, show 64 + j - 32 - 32 = j by omega]
section
variable {w : World} {D g : Nat} {m : Msg}
theorem grown_cell (w : World) (g k : Nat) (v : Value) : w.grownBy (w.setCell ⟨g, k, none⟩ v) (some g) := grown_setCell (grown_refl w _) (.inl rfl) _
theorem MW.set_ses (h : MW w D g m) {v : Value} {bs : List UInt8} (hv : BufV w D v bs) : MW (w.setCell ⟨g, 65, none⟩ v) D g { m with ses := bs } := by
  obtain ⟨hD, hl, v1, v2, v3, v4, v5, vc, h0, h1, h2, h3, h4, h5, h6⟩ := h
  have hg := grown_cell w g 65 v
  have hs := h0.set_ 65 v
  rw [show (65 : Nat) = 65 + 0 from rfl, mC_set hl.1 hl.2] at hs
  exact ⟨hD, hl, v, v2, v3, v4, v5, vc, hs, hv.kept hg hD, h2.kept hg hD, h3.kept hg hD, h4.kept hg hD, h5.kept hg hD, h6.kept hg (fun j e => by injection e with e; omega)⟩
theorem MW.set_sha (h : MW w D g m) {v : Value} {bs : List UInt8} (hv : BufV w D v bs) : MW (w.setCell ⟨g, 66, none⟩ v) D g { m with sha := bs } := by
  obtain ⟨hD, hl, v1, v2, v3, v4, v5, vc, h0, h1, h2, h3, h4, h5, h6⟩ := h
  have hg := grown_cell w g 66 v
  have hs := h0.set_ 66 v
  rw [show (66 : Nat) = 65 + 1 from rfl, mC_set hl.1 hl.2] at hs
  exact ⟨hD, hl, v1, v, v3, v4, v5, vc, hs, h1.kept hg hD, hv.kept hg hD, h3.kept hg hD, h4.kept hg hD, h5.kept hg hD, h6.kept hg (fun j e => by injection e with e; omega)⟩
theorem MW.set_tic (h : MW w D g m) {v : Value} {bs : List UInt8} (hv : BufV w D v bs) : MW (w.setCell ⟨g, 67, none⟩ v) D g { m with tic := bs } := by
  obtain ⟨hD, hl, v1, v2, v3, v4, v5, vc, h0, h1, h2, h3, h4, h5, h6⟩ := h
  have hg := grown_cell w g 67 v
  have hs := h0.set_ 67 v
  rw [show (67 : Nat) = 65 + 2 from rfl, mC_set hl.1 hl.2] at hs
  exact ⟨hD, hl, v1, v2, v, v4, v5, vc, hs, h1.kept hg hD, h2.kept hg hD, hv.kept hg hD, h4.kept hg hD, h5.kept hg hD, h6.kept hg (fun j e => by injection e with e; omega)⟩
theorem MW.set_non (h : MW w D g m) {v : Value} {bs : List UInt8} (hv : BufV w D v bs) : MW (w.setCell ⟨g, 68, none⟩ v) D g { m with non := bs } := by
  obtain ⟨hD, hl, v1, v2, v3, v4, v5, vc, h0, h1, h2, h3, h4, h5, h6⟩ := h
  have hg := grown_cell w g 68 v
  have hs := h0.set_ 68 v
  rw [show (68 : Nat) = 65 + 3 from rfl, mC_set hl.1 hl.2] at hs
  exact ⟨hD, hl, v1, v2, v3, v, v5, vc, hs, h1.kept hg hD, h2.kept hg hD, h3.kept hg hD, hv.kept hg hD, h5.kept hg hD, h6.kept hg (fun j e => by injection e with e; omega)⟩
theorem MW.set_sig (h : MW w D g m) {v : Value} {bs : List UInt8} (hv : BufV w D v bs) : MW (w.setCell ⟨g, 69, none⟩ v) D g { m with sig := bs } := by
  obtain ⟨hD, hl, v1, v2, v3, v4, v5, vc, h0, h1, h2, h3, h4, h5, h6⟩ := h
  have hg := grown_cell w g 69 v
  have hs := h0.set_ 69 v
  rw [show (69 : Nat) = 65 + 4 from rfl, mC_set hl.1 hl.2] at hs
  exact ⟨hD, hl, v1, v2, v3, v4, v, vc, hs, h1.kept hg hD, h2.kept hg hD, h3.kept hg hD, h4.kept hg hD, hv.kept hg hD, h6.kept hg (fun j e => by injection e with e; omega)⟩
theorem MW.set_certs (h : MW w D g m) {v : Value} {bs : List (List UInt8)} (hv : Rws w D v bs) : MW (w.setCell ⟨g, 70, none⟩ v) D g { m with certs := bs } := by
  obtain ⟨hD, hl, v1, v2, v3, v4, v5, vc, h0, h1, h2, h3, h4, h5, h6⟩ := h
  have hg := grown_cell w g 70 v
  have hs := h0.set_ 70 v
  rw [show (70 : Nat) = 65 + 5 from rfl, mC_set hl.1 hl.2] at hs
  exact ⟨hD, hl, v1, v2, v3, v4, v5, v, hs, h1.kept hg hD, h2.kept hg hD, h3.kept hg hD, h4.kept hg hD, h5.kept hg hD, hv.kept hg (fun j e => by injection e with e; omega)⟩
theorem MW.set_life (h : MW w D g m) (x : Int) : MW (w.setCell ⟨g, 71, none⟩ (.int .i64 x)) D g { m with life := x } := by
  obtain ⟨hD, hl, v1, v2, v3, v4, v5, vc, h0, h1, h2, h3, h4, h5, h6⟩ := h
  have hg := grown_cell w g 71 (.int .i64 x)
  have hs := h0.set_ 71 (.int .i64 x)
  rw [show (71 : Nat) = 65 + 6 from rfl, mC_set hl.1 hl.2] at hs
  exact ⟨hD, hl, v1, v2, v3, v4, v5, vc, hs, h1.kept hg hD, h2.kept hg hD, h3.kept hg hD, h4.kept hg hD, h5.kept hg hD, h6.kept hg (fun j e => by injection e with e; omega)⟩
theorem MW.set_age (h : MW w D g m) (x : Int) : MW (w.setCell ⟨g, 72, none⟩ (.int .i64 x)) D g { m with age := x } := by
  obtain ⟨hD, hl, v1, v2, v3, v4, v5, vc, h0, h1, h2, h3, h4, h5, h6⟩ := h
  have hg := grown_cell w g 72 (.int .i64 x)
  have hs := h0.set_ 72 (.int .i64 x)
  rw [show (72 : Nat) = 65 + 7 from rfl, mC_set hl.1 hl.2] at hs
  exact ⟨hD, hl, v1, v2, v3, v4, v5, vc, hs, h1.kept hg hD, h2.kept hg hD, h3.kept hg hD, h4.kept hg hD, h5.kept hg hD, h6.kept hg (fun j e => by injection e with e; omega)⟩
theorem MW.set_psk (h : MW w D g m) (x : Bool) : MW (w.setCell ⟨g, 73, none⟩ (.bool x)) D g { m with psk := x } := by
  obtain ⟨hD, hl, v1, v2, v3, v4, v5, vc, h0, h1, h2, h3, h4, h5, h6⟩ := h
  have hg := grown_cell w g 73 (.bool x)
  have hs := h0.set_ 73 (.bool x)
  rw [show (73 : Nat) = 65 + 8 from rfl, mC_set hl.1 hl.2] at hs
  exact ⟨hD, hl, v1, v2, v3, v4, v5, vc, hs, h1.kept hg hD, h2.kept hg hD, h3.kept hg hD, h4.kept hg hD, h5.kept hg hD, h6.kept hg (fun j e => by injection e with e; omega)⟩
theorem MW.set_retry (h : MW w D g m) (x : Bool) : MW (w.setCell ⟨g, 74, none⟩ (.bool x)) D g { m with retry := x } := by
  obtain ⟨hD, hl, v1, v2, v3, v4, v5, vc, h0, h1, h2, h3, h4, h5, h6⟩ := h
  have hg := grown_cell w g 74 (.bool x)
  have hs := h0.set_ 74 (.bool x)
  rw [show (74 : Nat) = 65 + 9 from rfl, mC_set hl.1 hl.2] at hs
  exact ⟨hD, hl, v1, v2, v3, v4, v5, vc, hs, h1.kept hg hD, h2.kept hg hD, h3.kept hg hD, h4.kept hg hD, h5.kept hg hD, h6.kept hg (fun j e => by injection e with e; omega)⟩
end
theorem blk_setCells {t : TypeId} {g : Nat} : ∀ (vs : List Value) (o : Nat) (cs : List Value) (w : World), Blk w g t cs → o + vs.length ≤ cs.length → Blk (w.setCells g o vs) g t (splice cs o vs)
  | [], o, cs, w, h, _ => by rw [splice_nil]; exact h
  | v :: vs, o, cs, w, h, hl => by
    have hl' : o + (vs.length + 1) ≤ cs.length := hl
    have ih := blk_setCells vs (o + 1) (cs.set o v) (w.setCell ⟨g, o, none⟩ v) (h.set_ o v) (by rw [List.length_set]; omega)
    have e : splice (cs.set o v) (o + 1) vs = splice cs o (v :: vs) := by
      rw [splice_eq, splice_eq, List.length_cons, List.drop_set_of_lt (by omega), List.take_set, List.take_succ_eq_append_getElem (by omega), List.set_append_right _ _ (by rw [List.length_take]; omega), List.length_take, Nat.min_eq_left (by omega), Nat.sub_self, List.set_cons_zero, List.append_assoc, show o + 1 + vs.length = o + (vs.length + 1) by omega]
      rfl
    rw [e] at ih
    exact ih
theorem MW.set_rnd {w : World} {D g : Nat} {m : Msg} (h : MW w D g m) {x : List UInt8} (hx : x.length = 32) : MW (w.setCells g 1 (x.map B8)) D g { m with rnd := x } := by
  obtain ⟨hD, hl, v1, v2, v3, v4, v5, vc, h0, h1, h2, h3, h4, h5, h6⟩ := h
  have hg := grown_setCells w g 1 (x.map B8)
  have hs := blk_setCells (x.map B8) 1 _ w h0 (by rw [List.length_map, hx, mC_length hl.1 hl.2]; decide)
  have e : splice (mC m v1 v2 v3 v4 v5 vc) 1 (x.map B8) = mC { m with rnd := x } v1 v2 v3 v4 v5 vc := by
    unfold mC
    rw [splice_eq, List.length_map, hx, show 1 + 32 = 32 + 1 by rfl, List.drop_succ_cons, List.drop_left' (by rw [List.length_map, hl.1])]
    rfl
  rw [e] at hs
  exact ⟨hD, ⟨hx, hl.2⟩, v1, v2, v3, v4, v5, vc, hs, h1.kept hg hD, h2.kept hg hD, h3.kept hg hD, h4.kept hg hD, h5.kept hg hD, h6.kept hg (fun j e => by injection e with e; omega)⟩
theorem MW.set_mark {w : World} {D g : Nat} {m : Msg} (h : MW w D g m) {x : List UInt8} (hx : x.length = 32) : MW (w.setCells g 33 (x.map B8)) D g { m with mark := x } := by
  obtain ⟨hD, hl, v1, v2, v3, v4, v5, vc, h0, h1, h2, h3, h4, h5, h6⟩ := h
  have hg := grown_setCells w g 33 (x.map B8)
  have hs := blk_setCells (x.map B8) 33 _ w h0 (by rw [List.length_map, hx, mC_length hl.1 hl.2]; decide)
  have e : splice (mC m v1 v2 v3 v4 v5 vc) 33 (x.map B8) = mC { m with mark := x } v1 v2 v3 v4 v5 vc := by
    unfold mC
    rw [splice_eq, List.length_map, hx, show 33 + 32 = 64 + 1 by rfl, List.drop_succ_cons, show (33 : Nat) = 32 + 1 by rfl, List.take_succ_cons, List.take_left' (by rw [List.length_map, hl.1]), ← List.append_assoc (m.rnd.map B8) (m.mark.map B8), List.drop_left' (by rw [List.length_append, List.length_map, List.length_map, hl.1, hl.2])]
    rw [List.cons_append]
  rw [e] at hs
  exact ⟨hD, ⟨hl.1, hx⟩, v1, v2, v3, v4, v5, vc, hs, h1.kept hg hD, h2.kept hg hD, h3.kept hg hD, h4.kept hg hD, h5.kept hg hD, h6.kept hg (fun j e => by injection e with e; omega)⟩
theorem CAt.other {w w' : World} {B g k : Nat} {r : List UInt8} (h : CAt w B g r) (hg : w.grownBy w' (some k)) (hk : B ≤ k) (hne : g ≠ k) : CAt w' B g r := by
  obtain ⟨hB, v, h1, h2⟩ := h
  exact ⟨hB, v, h1.grown hg (fun e => hne (Option.some.inj e)), h2.below (grown_below hg hk (Nat.le_trans hB (Nat.le_of_lt h1.lt)))⟩
theorem Rws.rowV {w : World} {D : Nat} {v : Value} {ps : List (List UInt8)} (h : Rws w D v ps) : RowV w v ps := by
  obtain ⟨A, c, e, hp, _⟩ := h.slice
  exact ⟨A, c, e, hp⟩
theorem MW.mvs {w : World} {D g : Nat} {m : Msg} (h : MW w D g m) : ∃ cs, Blk w g 30 cs ∧ MVs w m cs ∧ cs.length = 75 := by
  obtain ⟨hD, hl, v1, v2, v3, v4, v5, vc, h0, h1, h2, h3, h4, h5, h6⟩ := h
  exact ⟨_, h0, ⟨v1, v2, v3, v4, v5, vc, rfl, hl, h1.sl, h2.sl, h3.sl, h4.sl, h5.sl, h6.rowV⟩, mC_length hl.1 hl.2⟩
end Go.Proofs.YtagblbfbjemfhaaDoor
