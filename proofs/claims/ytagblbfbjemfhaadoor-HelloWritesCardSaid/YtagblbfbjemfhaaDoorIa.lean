/-
  Package hello's said: the message that bytes may be those of.
-/
import Derived.Test.YtagblbfbjemfhaaDoorHt
namespace Go.Proofs.YtagblbfbjemfhaaDoor
open Go.RowKit
open HelloMath (numB numB_length vecB vecB_length Msg getN getN_snoc pad32 zero32 zeroM saidTicket saidClient saidServer saidCerts saidVerify saidFinished saidM special)

set_option maxRecDepth 100000 in
theorem zeroMsg : Zero Tryd.prog 30 (mC (zeroM 0) (.slice none 0 0) (.slice none 0 0) (.slice none 0 0) (.slice none 0 0) (.slice none 0 0) (.slice none 0 0)) := ⟨_, _, rfl, rfl, by kernel_rfl⟩
set_option maxRecDepth 100000 in
theorem zeroCur : Zero Tryd.prog 77 [.slice none 0 0] := ⟨_, _, rfl, rfl, by kernel_rfl⟩
set_option maxRecDepth 100000 in
theorem builtMsg (k : Int) : Tryd.prog.built 30 [(0, .int .i64 k)] = some (mC (zeroM k) (.slice none 0 0) (.slice none 0 0) (.slice none 0 0) (.slice none 0 0) (.slice none 0 0) (.slice none 0 0)).toArray := by kernel_rfl
theorem builtCur (A : Option Addr) (n c : Nat) : Tryd.prog.built 77 [(0, .slice A n c)] = some [.slice A n c].toArray := by kernel_rfl
theorem infoMsg : (Tryd.prog.info? 30).map (·.size) = some 75 := by kernel_rfl
theorem infoCur : (Tryd.prog.info? 77).map (·.size) = some 1 := by kernel_rfl
theorem one_mC {m : Msg} {v1 v2 v3 v4 v5 vc : Value} (h1 : v1.oneCell' = true) (h2 : v2.oneCell' = true) (h3 : v3.oneCell' = true) (h4 : v4.oneCell' = true) (h5 : v5.oneCell' = true) (h6 : vc.oneCell' = true) : (mC m v1 v2 v3 v4 v5 vc).toArray.all (·.oneCell') = true := by
  rw [Array.all_eq_true_iff_forall_mem]
  intro v hv
  simp only [mC, List.mem_toArray, List.mem_cons, List.mem_append, List.mem_map, List.not_mem_nil, or_false] at hv
  rcases hv with rfl | ⟨b, _, rfl⟩ | ⟨b, _, rfl⟩ | rfl | rfl | rfl | rfl | rfl | rfl | rfl | rfl | rfl | rfl <;> first | rfl | assumption
theorem BufV.one {w : World} {D : Nat} {v : Value} {bs : List UInt8} (h : BufV w D v bs) : v.oneCell' = true := by
  obtain ⟨A, c, rfl, _⟩ := h
  rfl
/-- a message as a value, whose rows are of the call's own -/
def MVo (w : World) (D : Nat) (m : Msg) (cs : List Value) : Prop := (m.rnd.length = 32 ∧ m.mark.length = 32) ∧ ∃ v1 v2 v3 v4 v5 vc, cs = mC m v1 v2 v3 v4 v5 vc ∧ BufV w D v1 m.ses ∧ BufV w D v2 m.sha ∧ BufV w D v3 m.tic ∧ BufV w D v4 m.non ∧ BufV w D v5 m.sig ∧ Rws w D vc m.certs
theorem MVo.mvs {w : World} {D : Nat} {m : Msg} {cs : List Value} (h : MVo w D m cs) : MVs w m cs := by
  obtain ⟨hl, v1, v2, v3, v4, v5, vc, e, h1, h2, h3, h4, h5, h6⟩ := h
  exact ⟨v1, v2, v3, v4, v5, vc, e, hl, h1.sl, h2.sl, h3.sl, h4.sl, h5.sl, h6.rowV⟩
theorem MVo.below {w w' : World} {D : Nat} {m : Msg} {cs : List Value} (h : MVo w D m cs) (hb : Below w.heap.size w w') : MVo w' D m cs := by
  obtain ⟨hl, v1, v2, v3, v4, v5, vc, e, h1, h2, h3, h4, h5, h6⟩ := h
  exact ⟨hl, v1, v2, v3, v4, v5, vc, e, h1.below hb, h2.below hb, h3.below hb, h4.below hb, h5.below hb, h6.below hb⟩
theorem MVo.base {w : World} {D D' : Nat} {m : Msg} {cs : List Value} (h : MVo w D m cs) (hD : D' ≤ D) : MVo w D' m cs := by
  obtain ⟨hl, v1, v2, v3, v4, v5, vc, e, h1, h2, h3, h4, h5, h6⟩ := h
  exact ⟨hl, v1, v2, v3, v4, v5, vc, e, h1.base hD, h2.base hD, h3.base hD, h4.base hD, h5.base hD, h6.base_le hD⟩
theorem MVo.len {w : World} {D : Nat} {m : Msg} {cs : List Value} (h : MVo w D m cs) : cs.length = 75 := by
  obtain ⟨hl, v1, v2, v3, v4, v5, vc, rfl, _⟩ := h
  exact mC_length hl.1 hl.2
theorem MVo.one {w : World} {D : Nat} {m : Msg} {cs : List Value} (h : MVo w D m cs) : cs.toArray.all (·.oneCell') = true := by
  obtain ⟨hl, v1, v2, v3, v4, v5, vc, rfl, h1, h2, h3, h4, h5, h6⟩ := h
  obtain ⟨A, c, rfl, _⟩ := h6.slice
  exact one_mC h1.one h2.one h3.one h4.one h5.one rfl
theorem MW.mvo {w : World} {D g : Nat} {m : Msg} (h : MW w D g m) : ∃ cs, Blk w g 30 cs ∧ MVo w D m cs := by
  obtain ⟨hD, hl, v1, v2, v3, v4, v5, vc, h0, h1, h2, h3, h4, h5, h6⟩ := h
  exact ⟨_, h0, hl, v1, v2, v3, v4, v5, vc, rfl, h1, h2, h3, h4, h5, h6⟩
theorem MVo.kept {w w' : World} {D g : Nat} {m : Msg} {cs : List Value} (h : MVo w D m cs) (hg : w.grownBy w' (some g)) (hD : g < D) : MVo w' D m cs := by
  obtain ⟨hl, v1, v2, v3, v4, v5, vc, e, h1, h2, h3, h4, h5, h6⟩ := h
  exact ⟨hl, v1, v2, v3, v4, v5, vc, e, h1.kept hg hD, h2.kept hg hD, h3.kept hg hD, h4.kept hg hD, h5.kept hg hD, h6.kept hg (fun j e => by injection e with e; omega)⟩
end Go.Proofs.YtagblbfbjemfhaaDoor
