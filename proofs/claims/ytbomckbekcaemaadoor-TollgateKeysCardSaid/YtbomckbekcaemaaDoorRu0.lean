/-
  Laws of a packet's Auth and of marks.
-/
import Derived.Test.YtbomckbekcaemaaDoorRdn
namespace Go.Proofs.YtbomckbekcaemaaDoor
open Go.RowKit

theorem pkOK_mac (code id : Int) (la : Attrs) (x y : List UInt8) (hx : x.length = 16) (hy : y.length = 16) : pkOK code id (la ++ [(80, x)]) = pkOK code id (la ++ [(80, y)]) := by
  unfold pkOK attrsOK
  rw [List.all_append, List.all_append, sizeA_snoc, sizeA_snoc]
  simp only [List.all_cons, List.all_nil, attrOK, hx, hy]
theorem blk_setCells {g : Nat} {t : TypeId} : ∀ (us : List Value) (o : Nat) (cs : List Value) (w : World), Blk w g t cs → o + us.length ≤ cs.length → Blk (w.setCells g o us) g t (cs.take o ++ (us ++ cs.drop (o + us.length)))
  | [], o, cs, w, h, _ => by simpa [World.setCells] using h
  | u :: us, o, cs, w, h, hl => by
    have hl' : o + 1 + us.length ≤ cs.length := by simp only [List.length_cons] at hl; omega
    have h1 := blk_setCells us (o + 1) (cs.set o u) (w.setCell ⟨g, o, none⟩ u) (h.set_ o u) (by rw [List.length_set]; exact hl')
    have he : (cs.set o u).take (o + 1) ++ (us ++ (cs.set o u).drop (o + 1 + us.length)) = cs.take o ++ ((u :: us) ++ cs.drop (o + (u :: us).length)) := by
      rw [List.drop_set_of_lt (by omega), List.take_succ_eq_append_getElem (by rw [List.length_set]; omega), List.take_set_of_le (Nat.le_refl o), List.getElem_set_self, List.append_assoc]
      simp only [List.length_cons, List.cons_append, List.nil_append]
      rw [show o + 1 + us.length = o + (us.length + 1) by omega]
    rw [he] at h1
    exact h1
theorem blk_auth {w : World} {g n c : Nat} {t : TypeId} {code id : Int} {Q M : List UInt8} {A : Option Addr} (h : Blk w g t (pkC code id Q A n c)) (hQ : Q.length = 16) (hM : M.length = 16) : Blk (w.setCells g 2 (M.map B8)) g t (pkC code id M A n c) := by
  have h1 := blk_setCells (M.map B8) 2 (pkC code id Q A n c) w h (by rw [List.length_map, pkC_length _ _ _ _ _ _ hQ]; omega)
  have he : (pkC code id Q A n c).take 2 ++ (M.map B8 ++ (pkC code id Q A n c).drop (2 + (M.map B8).length)) = pkC code id M A n c := by
    rw [List.length_map, hM]
    unfold pkC
    show [Value.int .i64 code, .int .i64 id] ++ (M.map B8 ++ (Q.map B8 ++ [Value.slice A n c]).drop 16) = _
    rw [List.drop_left' (by rw [List.length_map, hQ])]
    rfl
  rwa [he] at h1
theorem there_auth {w : World} {g n c : Nat} {t : TypeId} {code id : Int} {Q : List UInt8} {A : Option Addr} (h : Blk w g t (pkC code id Q A n c)) (hQ : Q.length = 16) : w.there g 2 16 := fun j hj => by
  have hl := pkC_length code id Q A n c hQ
  refine ⟨by rw [h.cell, List.getElem?_eq_getElem (by omega)]; rfl, h.frozen _⟩
/-- What a reply is. -/
def replyE (code id : Int) (M : List UInt8) (la : Attrs) (sec : List UInt8) : List UInt8 × Nat :=
  if code = 1 then ([], 1) else if (markE code id M la sec).2 = 0 then ((markE code id M la sec).1.take 4 ++ md5 ((markE code id M la sec).1 ++ sec) ++ (markE code id M la sec).1.drop 20, 0) else ([], (markE code id M la sec).2)
theorem pkB_drop (code id : Int) (Q : List UInt8) (la : Attrs) (hQ : Q.length = 16) : (pkB code id Q la).drop 20 = flatA la := by
  unfold pkB
  rw [List.drop_append_of_le_length (by simp [hQ]), List.drop_eq_nil_of_le (by simp [hQ]), List.nil_append]
theorem pk_range {w : World} {g n c : Nat} {t : TypeId} {code id : Int} {Q : List UInt8} {A : Option Addr} (h : Blk w g t (pkC code id Q A n c)) (_hQ : Q.length = 16) : w.rangeAt g 2 (Q.map B8) := fun j v hv => by
  rw [h.cell, ← hv]
  have hj : j < Q.length := by have := (List.getElem?_eq_some_iff.1 hv).1; simpa using this
  show (Value.int .i64 code :: Value.int .i64 id :: (Q.map B8 ++ [Value.slice A n c]))[2 + j]? = _
  rw [show 2 + j = (j + 1) + 1 by omega, List.getElem?_cons_succ, List.getElem?_cons_succ, List.getElem?_append_left (by simpa using hj)]
/-- A region that draws its order may go on under a stronger condition. -/
theorem anyH_mono {P : Program} {md : Region.Mode} {ops : Array Oper} {Q : Exit → Act → World → Prop} {S S' : World → Prop} (h : ∀ W, S' W → S W) :
    ∀ (fuel : Nat) (listed : Array Bool) (a : Act) (w : World), wpAnyH P md ops Q S' fuel listed a w → wpAnyH P md ops Q S fuel listed a w
  | 0, _, _, _, hh => hh
  | fuel + 1, _, _, _, hh => ⟨hh.1, fun i hi => wpOp_mono (fun _ _ h' => ⟨h _ h'.1, anyH_mono h fuel _ _ _ h'.2⟩) (hh.2 i hi)⟩
end Go.Proofs.YtbomckbekcaemaaDoor
