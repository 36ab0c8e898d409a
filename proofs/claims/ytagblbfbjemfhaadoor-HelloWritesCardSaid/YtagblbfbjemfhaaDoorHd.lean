/-
  Package hello's message in memory: where its parts lie.
-/
import Derived.Test.YtagblbfbjemfhaaDoorHc
namespace Go.Proofs.YtagblbfbjemfhaaDoor
open Go.RowKit
open HelloMath (numB numB_length vecB vecB_length Msg)

/-- a message's cells: the values of its rows are letters -/
def mC (m : Msg) (v1 v2 v3 v4 v5 vc : Value) : List Value := .int .i64 m.kind :: (m.rnd.map B8 ++ (m.mark.map B8 ++ [v1, v2, v3, v4, v5, vc, .int .i64 m.life, .int .i64 m.age, .bool m.psk, .bool m.retry]))
def MVs (w : World) (m : Msg) (cs : List Value) : Prop := ∃ v1 v2 v3 v4 v5 vc, cs = mC m v1 v2 v3 v4 v5 vc ∧ (m.rnd.length = 32 ∧ m.mark.length = 32) ∧ SlV w v1 m.ses ∧ SlV w v2 m.sha ∧ SlV w v3 m.tic ∧ SlV w v4 m.non ∧ SlV w v5 m.sig ∧ RowV w vc m.certs
/-- a message in a block -/
def MAt (w : World) (g : Nat) (m : Msg) : Prop := ∃ cs, Blk w g 30 cs ∧ MVs w m cs
theorem MVs.below {w w' : World} {m : Msg} {cs : List Value} (h : MVs w m cs) (hb : Below w.heap.size w w') : MVs w' m cs := by
  obtain ⟨v1, v2, v3, v4, v5, vc, e, hl, h1, h2, h3, h4, h5, h6⟩ := h
  exact ⟨v1, v2, v3, v4, v5, vc, e, hl, h1.below hb, h2.below hb, h3.below hb, h4.below hb, h5.below hb, h6.below hb⟩
theorem MAt.below {w w' : World} {g : Nat} {m : Msg} (h : MAt w g m) (hb : Below w.heap.size w w') : MAt w' g m := by
  obtain ⟨cs, h1, h2⟩ := h
  exact ⟨cs, h1.below hb h1.lt, h2.below hb⟩
theorem mC_get {m : Msg} {v1 v2 v3 v4 v5 vc : Value} (hr : m.rnd.length = 32) (hm : m.mark.length = 32) (j : Nat) : (mC m v1 v2 v3 v4 v5 vc)[65 + j]? = [v1, v2, v3, v4, v5, vc, .int .i64 m.life, .int .i64 m.age, .bool m.psk, .bool m.retry][j]? := by
  unfold mC
  rw [show 65 + j = (64 + j) + 1 by omega, List.getElem?_cons_succ, List.getElem?_append_right (by rw [List.length_map, hr]; omega), List.getElem?_append_right (by rw [List.length_map, List.length_map, hr, hm]; omega), List.length_map, List.length_map, hr, hm, show 64 + j - 32 - 32 = j by omega]
theorem mC_rnd {m : Msg} {v1 v2 v3 v4 v5 vc : Value} (hr : m.rnd.length = 32) (j : Nat) (hj : j < 32) : (mC m v1 v2 v3 v4 v5 vc)[1 + j]? = (m.rnd.map B8)[j]? := by
  unfold mC
  rw [show 1 + j = j + 1 by omega, List.getElem?_cons_succ, List.getElem?_append_left (by rw [List.length_map, hr]; omega)]
theorem mC_mark {m : Msg} {v1 v2 v3 v4 v5 vc : Value} (hr : m.rnd.length = 32) (hm : m.mark.length = 32) (j : Nat) (hj : j < 32) : (mC m v1 v2 v3 v4 v5 vc)[33 + j]? = (m.mark.map B8)[j]? := by
  unfold mC
  rw [show 33 + j = (32 + j) + 1 by omega, List.getElem?_cons_succ, List.getElem?_append_right (by rw [List.length_map, hr]; omega), List.length_map, hr, show 32 + j - 32 = j by omega, List.getElem?_append_left (by rw [List.length_map, hm]; omega)]
section
variable {w : World} {g : Nat} {m : Msg}
theorem MAt.lens (h : MAt w g m) : m.rnd.length = 32 ∧ m.mark.length = 32 := by
  obtain ⟨cs, _, v1, v2, v3, v4, v5, vc, _, hl, _⟩ := h
  exact hl
theorem MAt.lt (h : MAt w g m) : g < w.heap.size := by
  obtain ⟨cs, hb, _⟩ := h
  exact hb.lt
theorem MAt.kind (h : MAt w g m) : w.cell? ⟨g, 0, none⟩ = some (.int .i64 m.kind) := by
  obtain ⟨cs, hb, v1, v2, v3, v4, v5, vc, rfl, _⟩ := h
  exact hb.cell 0
theorem MAt.ses (h : MAt w g m) : ∃ v, w.cell? ⟨g, 65, none⟩ = some v ∧ SlV w v m.ses := by
  obtain ⟨cs, hb, v1, v2, v3, v4, v5, vc, rfl, hl, h1, h2, h3, h4, h5, h6⟩ := h
  exact ⟨v1, (hb.cell (65 + 0)).trans (mC_get hl.1 hl.2 0), h1⟩
theorem MAt.sha (h : MAt w g m) : ∃ v, w.cell? ⟨g, 66, none⟩ = some v ∧ SlV w v m.sha := by
  obtain ⟨cs, hb, v1, v2, v3, v4, v5, vc, rfl, hl, h1, h2, h3, h4, h5, h6⟩ := h
  exact ⟨v2, (hb.cell (65 + 1)).trans (mC_get hl.1 hl.2 1), h2⟩
theorem MAt.tic (h : MAt w g m) : ∃ v, w.cell? ⟨g, 67, none⟩ = some v ∧ SlV w v m.tic := by
  obtain ⟨cs, hb, v1, v2, v3, v4, v5, vc, rfl, hl, h1, h2, h3, h4, h5, h6⟩ := h
  exact ⟨v3, (hb.cell (65 + 2)).trans (mC_get hl.1 hl.2 2), h3⟩
theorem MAt.non (h : MAt w g m) : ∃ v, w.cell? ⟨g, 68, none⟩ = some v ∧ SlV w v m.non := by
  obtain ⟨cs, hb, v1, v2, v3, v4, v5, vc, rfl, hl, h1, h2, h3, h4, h5, h6⟩ := h
  exact ⟨v4, (hb.cell (65 + 3)).trans (mC_get hl.1 hl.2 3), h4⟩
theorem MAt.sig (h : MAt w g m) : ∃ v, w.cell? ⟨g, 69, none⟩ = some v ∧ SlV w v m.sig := by
  obtain ⟨cs, hb, v1, v2, v3, v4, v5, vc, rfl, hl, h1, h2, h3, h4, h5, h6⟩ := h
  exact ⟨v5, (hb.cell (65 + 4)).trans (mC_get hl.1 hl.2 4), h5⟩
theorem MAt.certs (h : MAt w g m) : ∃ v, w.cell? ⟨g, 70, none⟩ = some v ∧ RowV w v m.certs := by
  obtain ⟨cs, hb, v1, v2, v3, v4, v5, vc, rfl, hl, h1, h2, h3, h4, h5, h6⟩ := h
  exact ⟨vc, (hb.cell (65 + 5)).trans (mC_get hl.1 hl.2 5), h6⟩
theorem MAt.life (h : MAt w g m) : w.cell? ⟨g, 71, none⟩ = some (.int .i64 m.life) := by
  obtain ⟨cs, hb, v1, v2, v3, v4, v5, vc, rfl, hl, _⟩ := h
  exact (hb.cell (65 + 6)).trans (mC_get hl.1 hl.2 6)
theorem MAt.age (h : MAt w g m) : w.cell? ⟨g, 72, none⟩ = some (.int .i64 m.age) := by
  obtain ⟨cs, hb, v1, v2, v3, v4, v5, vc, rfl, hl, _⟩ := h
  exact (hb.cell (65 + 7)).trans (mC_get hl.1 hl.2 7)
theorem MAt.psk (h : MAt w g m) : w.cell? ⟨g, 73, none⟩ = some (.bool m.psk) := by
  obtain ⟨cs, hb, v1, v2, v3, v4, v5, vc, rfl, hl, _⟩ := h
  exact (hb.cell (65 + 8)).trans (mC_get hl.1 hl.2 8)
theorem MAt.retry (h : MAt w g m) : w.cell? ⟨g, 74, none⟩ = some (.bool m.retry) := by
  obtain ⟨cs, hb, v1, v2, v3, v4, v5, vc, rfl, hl, _⟩ := h
  exact (hb.cell (65 + 9)).trans (mC_get hl.1 hl.2 9)
theorem MAt.rnd (h : MAt w g m) : w.rangeAt g 1 (m.rnd.map B8) := by
  obtain ⟨cs, hb, v1, v2, v3, v4, v5, vc, rfl, hl, _⟩ := h
  intro j v hv
  have hj : j < 32 := by have := (List.getElem?_eq_some_iff.1 hv).1; rw [List.length_map, hl.1] at this; exact this
  rw [hb.cell, mC_rnd hl.1 j hj, hv]
theorem MAt.mark (h : MAt w g m) : w.rangeAt g 33 (m.mark.map B8) := by
  obtain ⟨cs, hb, v1, v2, v3, v4, v5, vc, rfl, hl, _⟩ := h
  intro j v hv
  have hj : j < 32 := by have := (List.getElem?_eq_some_iff.1 hv).1; rw [List.length_map, hl.2] at this; exact this
  rw [hb.cell, mC_mark hl.1 hl.2 j hj, hv]
theorem slV_range {o : Nat} {bs : List UInt8} (h : w.rangeAt g o (bs.map B8)) (hg : g < w.heap.size) (hl : bs.length = 32) : SlV w (.slice (some ⟨g, o, none⟩) 32 32) bs :=
  ⟨_, _, by rw [hl], by omega, by omega, fun _ => ⟨g, o, rfl, hg, fun j hj => by
    have := h j (B8 (bs.getD j 0)) (getD_map8 bs j hj)
    exact this⟩⟩
theorem MAt.markV (h : MAt w g m) : SlV w (.slice (some ⟨g, 33, none⟩) 32 32) m.mark := slV_range h.mark h.lt h.lens.2
theorem MAt.rndV (h : MAt w g m) : SlV w (.slice (some ⟨g, 1, none⟩) 32 32) m.rnd := slV_range h.rnd h.lt h.lens.1
end
theorem number_i (k : Nat) (x : Int) (w : World) (hk : k ≤ 4) (h0 : 0 ≤ x) (h1 : x ≤ 4294967295) :
    Calls Tryd.prog 57 #[.int .i64 (k : Int), .int .i64 x] w fun e w' => ∃ v, e = .returned v ∧ BufV w' w.heap.size v (numB k x.toNat) ∧ Below w.heap.size w w' := by
  have h := number_e k x.toNat w hk (by omega)
  rwa [Int.toNat_of_nonneg h0] at h
end Go.Proofs.YtagblbfbjemfhaaDoor
