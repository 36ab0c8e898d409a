/-
  Plain mathematics, no program: the blocks of a text one by one; two rows of words added.
-/
import Derived.Test.YtdjhempfpgcigaaDoorSum
namespace Go.Proofs.YtdjhempfpgcigaaDoor
open Go.RowKit

/-- Block number b of a text. -/
def blkAt (T : List UInt8) (b : Nat) : List UInt8 := (T.drop (64 * b)).take 64
theorem foldB_succ (n : Nat) : ∀ (s : St) (m : List UInt8), foldB (n + 1) s m = comp (foldB n s m) (blkAt m n) := by
  induction n with
  | zero => intro s m; simp [foldB, blkAt]
  | succ n ih =>
    intro s m
    show foldB (n + 1) (comp s (m.take 64)) (m.drop 64) = comp (foldB n (comp s (m.take 64)) (m.drop 64)) (blkAt m (n + 1))
    rw [ih]
    unfold blkAt
    rw [List.drop_drop, show 64 * (n + 1) = 64 + 64 * n by omega]
theorem blkAt_length (T : List UInt8) (b : Nat) (h : 64 * b + 64 ≤ T.length) : (blkAt T b).length = 64 := by
  unfold blkAt; rw [List.length_take, List.length_drop]; omega
theorem Bytes.blk {w : World} {g : Nat} {T : List UInt8} (h : Bytes w g 0 T) (b p i : Nat) (hp : p = 64 * b) (hi : i < 64) (hl : p + 64 ≤ T.length) : w.cell? ⟨g, p + i, none⟩ = some (.int .u8 ((blkAt T b).getD i 0).toNat) := by
  have := h (p + i) (by omega)
  rw [Nat.zero_add] at this
  rw [this]
  unfold blkAt
  subst hp
  simp [List.getD_eq_getElem?_getD, hi, List.getElem?_drop]
/-- Words added to words, i of them. -/
def addL (hs qs : List UInt32) : Nat → List UInt32
  | 0 => hs
  | i + 1 => (addL hs qs i).set i (hs.getD i 0 + qs.getD i 0)
theorem addL_length (hs qs : List UInt32) (i : Nat) : (addL hs qs i).length = hs.length := by
  induction i with
  | zero => rfl
  | succ i ih => simp [addL, ih]
theorem addL_ge (hs qs : List UInt32) (i : Nat) : ∀ j, i ≤ j → (addL hs qs i).getD j 0 = hs.getD j 0 := by
  induction i with
  | zero => intro j _; rfl
  | succ i ih =>
    intro j hj
    have := ih j (by omega)
    rw [addL, List.getD_eq_getElem?_getD, List.getElem?_set_ne (by omega), ← List.getD_eq_getElem?_getD, this]
theorem addL_all (s t : St) : addL s.words t.words 8 = (addSt s t).words := by
  simp [addL, St.words, addSt]
theorem vals_words (s : St) : s.vals = s.words.map U32 := rfl
/-- The text of a sum with what stands behind it: whole blocks. -/
theorem pad_blocks (m : List UInt8) : 64 * ((m ++ padB m.length).length / 64) = (m ++ padB m.length).length := by
  rw [List.length_append, padB_length]; omega
theorem sha_fold (m : List UInt8) : sha m = bytesOf (foldB ((m ++ padB m.length).length / 64) first (m ++ padB m.length)) := rfl
theorem pad_parts (s : List UInt8) (z : Nat) (hz : z = (119 - s.length % 64) % 64) : (s ++ [128] ++ List.replicate z 0) ++ be8 (s.length * 8) = s ++ padB s.length := by
  unfold padB
  rw [← hz]; simp
end Go.Proofs.YtdjhempfpgcigaaDoor
