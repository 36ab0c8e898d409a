/-
  A message that is being filled: its parts lie in blocks of the call's own.
-/
import Derived.Test.YtagblbfbjemfhaaDoorHs
namespace Go.Proofs.YtagblbfbjemfhaaDoor
open Go.RowKit
open HelloMath (numB numB_length vecB vecB_length Msg getN getN_snoc pad32 zero32 zeroM)

theorem BufV.kept {w w' : World} {D g : Nat} {v : Value} {bs : List UInt8} (h : BufV w D v bs) (hg : w.grownBy w' (some g)) (hD : g < D) : BufV w' D v bs := by
  obtain ⟨A, c, e, hb⟩ := h
  refine ⟨A, c, e, hb.kept hg fun k ek e2 => ?_⟩
  have := (hb.lt ek).1
  injection e2 with e2
  have hk : D ≤ k := this
  omega
def MW (w : World) (D g : Nat) (m : Msg) : Prop := g < D ∧ (m.rnd.length = 32 ∧ m.mark.length = 32) ∧ ∃ v1 v2 v3 v4 v5 vc, Blk w g 30 (mC m v1 v2 v3 v4 v5 vc) ∧ BufV w D v1 m.ses ∧ BufV w D v2 m.sha ∧ BufV w D v3 m.tic ∧ BufV w D v4 m.non ∧ BufV w D v5 m.sig ∧ Rws w D vc m.certs
theorem mC_set {m : Msg} {v1 v2 v3 v4 v5 vc : Value} (hr : m.rnd.length = 32) (hm : m.mark.length = 32) (j : Nat) (x : Value) : (mC m v1 v2 v3 v4 v5 vc).set (65 + j) x = .int .i64 m.kind :: (m.rnd.map B8 ++ (m.mark.map B8 ++ [v1, v2, v3, v4, v5, vc, .int .i64 m.life, .int .i64 m.age, .bool m.psk, .bool m.retry].set j x)) := by
  unfold mC
  rw [show 65 + j = (64 + j) + 1 by omega, List.set_cons_succ, List.set_append_right _ _ (by rw [List.length_map, hr]; omega), List.set_append_right _ _ (by rw [List.length_map, List.length_map, hr, hm]; omega), List.length_map, List.length_map, hr, hm, show 64 + j - 32 - 32 = j by omega]
section
variable {w : World} {D g : Nat} {m : Msg}
theorem grown_cell (w : World) (g k : Nat) (v : Value) : w.grownBy (w.setCell ⟨g, k, none⟩ v) (some g) := grown_setCell (grown_refl w _) (.inl rfl) _
end
theorem Rws.rowV {w : World} {D : Nat} {v : Value} {ps : List (List UInt8)} (h : Rws w D v ps) : RowV w v ps := by
  obtain ⟨A, c, e, hp, _⟩ := h.slice
  exact ⟨A, c, e, hp⟩
end Go.Proofs.YtagblbfbjemfhaaDoor
