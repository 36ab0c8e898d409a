/-
  Label, Derive and the document's Label, of all names and contexts, told by one answer.
-/
import Derived.Test.YtdjhempfpgcigaaDoorLabelBad
import Derived.Test.YtdjhempfpgcigaaDoorRefExp
namespace Go.Proofs.YtdjhempfpgcigaaDoor
open Go.RowKit

/-- What Label answers: the bytes, and the error. -/
def labelOut (key label context : List UInt8) (n : Nat) : List UInt8 := if label.length ≤ 249 ∧ context.length ≤ 255 then expand key (labelInfo label context n) n else []
def labelErr (label context : List UInt8) : Nat := if label.length ≤ 249 ∧ context.length ≤ 255 then 0 else 1
/-- What Derive answers. -/
def deriveOut (key label sum : List UInt8) : List UInt8 := if label.length ≤ 249 then expand key (labelInfo label sum 32) 32 else List.replicate 32 0
theorem deriveOut_length (key label sum : List UInt8) : (deriveOut key label sum).length = 32 := by
  unfold deriveOut; split
  · exact expand_length _ _ _
  · simp
theorem labelOut_length (key label context : List UInt8) (n : Nat) : (labelOut key label context n).length ≤ n := by
  unfold labelOut; split
  · rw [expand_length]; exact Nat.le_refl _
  · simp

theorem label_all (A : Option Addr) (c n : Nat) (key label context : List UInt8) (w : World) (hk : key.length = 32) (hi : In w w.heap.size A c context) (hn : n ≤ 8160) (ht : Tabs w) :
    Calls Tryd.prog 27 #[.agg (key.map B8).toArray, .string ⟨label.toArray⟩, .slice A context.length c, .int .i64 (n : Int)] w fun e w' => ∃ A' n' c', e = .returned (.tuple #[.slice A' n' c', .int .i64 (labelErr label context : Nat)]) ∧ (labelOut key label context n).length = n' ∧ In w' w'.heap.size A' c' (labelOut key label context n) ∧ Below w.heap.size w w' := by
  unfold labelErr labelOut
  by_cases h : label.length ≤ 249 ∧ context.length ≤ 255
  · rw [if_pos h, if_pos h]
    refine (label_any A c n key label context w hk hi h.1 h.2 hn ht).mono ?_
    rintro e w' ⟨g, rfl, hg, hB, hb⟩
    exact ⟨_, n, n, rfl, expand_length _ _ _, ⟨by rw [expand_length]; exact Nat.le_refl _, by omega, fun _ => ⟨g, 0, rfl, hB.lt, fun j hj => by rw [Nat.zero_add]; exact hB.at8 j hj⟩⟩, hb⟩
  · rw [if_neg h, if_neg h]
    refine (label_bad (key.map B8) A c label context n w (by omega)).mono ?_
    rintro e w' ⟨rfl, hb⟩
    exact ⟨none, 0, 0, rfl, rfl, ⟨Nat.le_refl _, by omega, fun h => absurd h (by simp)⟩, hb⟩

theorem refLabel_all (n : Nat) (key label context : List UInt8) (w : World) (hk : key.length < 100000) (hn : n ≤ 8160) (hl : label.length < 549755813888) :
    Calls Tryd.prog 37 #[.string ⟨key.toArray⟩, .string ⟨label.toArray⟩, .string ⟨context.toArray⟩, .int .i64 (n : Int)] w fun e w' => e = .returned (.tuple #[.string ⟨(labelOut key label context n).toArray⟩, .int .i64 (labelErr label context : Nat)]) ∧ Below w.heap.size w w' := by
  unfold labelErr labelOut
  by_cases h : label.length ≤ 249 ∧ context.length ≤ 255
  · rw [if_pos h, if_pos h]
    exact refLabel_any n key label context w hk hn h.1 h.2
  · rw [if_neg h, if_neg h]
    exact refLabel_bad key label context n w (by omega) hl

theorem derive_all (key label sum : List UInt8) (w : World) (hk : key.length = 32) (hs : sum.length = 32) (ht : Tabs w) :
    Calls Tryd.prog 26 #[.agg (key.map B8).toArray, .string ⟨label.toArray⟩, .agg (sum.map B8).toArray] w fun e w' => e = .returned (.agg ((deriveOut key label sum).map B8).toArray) ∧ Below w.heap.size w w' := by
  unfold deriveOut
  by_cases h : label.length ≤ 249
  · rw [if_pos h]; exact derive_any key label sum w hk hs h ht
  · rw [if_neg h]; exact derive_bad key label sum w hk hs (by omega)

/-- What the statement's count may be. -/
theorem label_count {n : Int} {N : Nat} (h : n = (N : Int)) : n.toNat = N := by omega
/-- Bytes copied into a row of 32 noughts. -/
def sumOf (c : List UInt8) : List UInt8 := (c ++ List.replicate 32 0).take 32
theorem sumOf_length (c : List UInt8) : (sumOf c).length = 32 := by unfold sumOf; simp
theorem sumOf_splice (c : List UInt8) : splice ((List.replicate 32 (0 : UInt8)).map B8) 0 ((c.take 32).map B8) = (sumOf c).map B8 := by
  rw [splice_eq, List.take_zero, List.nil_append, Nat.zero_add, List.length_map, ← List.map_drop, ← List.map_append]
  refine congrArg (List.map B8) ?_
  unfold sumOf
  rw [List.take_append, List.length_take, List.drop_replicate, List.take_replicate]
  congr 2
  omega
end Go.Proofs.YtdjhempfpgcigaaDoor
