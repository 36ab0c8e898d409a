/-
  Sixteen bytes and the element that they are: each tells the other; what is put together bit by bit is put together so.
-/
import Derived.Test.YtefbjhdcmgonbaaGp
namespace Go.Proofs.Ytefbjhdcmgonbaa
open Go.RowKit

theorem wordTo_bit (b : List UInt8) (o k : Nat) (hk : k ≤ 8) (j : Nat) (hj : j < 64) : (wordTo b o k).getLsbD j = (decide (j < 8 * k) && (b.getD (o + (k - 1 - j / 8)) 0).toBitVec.getLsbD (j % 8)) := by
  induction k generalizing j with
  | zero => simp [wordTo]
  | succ k ih =>
    rw [wordTo, BitVec.getLsbD_or, BitVec.getLsbD_shiftLeft, BitVec.getLsbD_setWidth]
    by_cases h8 : j < 8
    · have e1 : o + (k + 1 - 1 - j / 8) = o + k := by omega
      have e2 : j % 8 = j := by omega
      have e3 : decide (j < 8 * (k + 1)) = true := by simp; omega
      rw [e1, e2, e3]
      simp [h8, hj]
    · have e0 : (b.getD (o + k) 0).toBitVec.getLsbD j = false := BitVec.getLsbD_of_ge _ _ (by omega)
      rw [ih (by omega) (j - 8) (by omega), e0]
      have e1 : k - 1 - (j - 8) / 8 = k + 1 - 1 - j / 8 := by omega
      have e2 : (j - 8) % 8 = j % 8 := by omega
      have e3 : decide (j - 8 < 8 * k) = decide (j < 8 * (k + 1)) := by
        rw [decide_eq_decide]; omega
      rw [e1, e2, e3]
      simp [hj, h8]
theorem byteE_bit (v : BitVec 64) (k t : Nat) (ht : t < 8) : (byteE v k).toBitVec.getLsbD t = v.getLsbD (56 - 8 * k + t) := by
  show ((v >>> (56 - 8 * k)).setWidth 8).getLsbD t = _
  rw [BitVec.getLsbD_setWidth, BitVec.getLsbD_ushiftRight]
  simp [ht]
theorem word_hi (h l : BitVec 64) : wordTo (bytesE h l) 0 8 = h := by
  apply BitVec.eq_of_getLsbD_eq
  intro j hj
  rw [wordTo_bit _ _ 8 (Nat.le_refl _) j hj, bytesE_get h l _ (by omega), if_pos (by omega), byteE_bit _ _ _ (by omega)]
  have e1 : decide (j < 8 * 8) = true := by simp; omega
  have e2 : 56 - 8 * (0 + (8 - 1 - j / 8)) + j % 8 = j := by omega
  rw [e1, e2]; rfl
theorem word_lo (h l : BitVec 64) : wordTo (bytesE h l) 8 8 = l := by
  apply BitVec.eq_of_getLsbD_eq
  intro j hj
  rw [wordTo_bit _ _ 8 (Nat.le_refl _) j hj, bytesE_get h l _ (by omega), if_neg (by omega), byteE_bit _ _ _ (by omega)]
  have e1 : decide (j < 8 * 8) = true := by simp; omega
  have e2 : 56 - 8 * (8 + (8 - 1 - j / 8) - 8) + j % 8 = j := by omega
  rw [e1, e2]; rfl
theorem elE_bytes (h l : BitVec 64) : elE (bytesE h l) = cat h l := by
  unfold elE
  rw [word_hi, word_lo]
theorem byteE_word (b : List UInt8) (o k : Nat) (hk : k < 8) : byteE (wordTo b o 8) k = b.getD (o + k) 0 := by
  apply UInt8.toBitVec_inj.1
  apply BitVec.eq_of_getLsbD_eq
  intro t ht
  rw [byteE_bit _ _ _ ht, wordTo_bit _ _ 8 (Nat.le_refl _) _ (by omega)]
  have e1 : decide (56 - 8 * k + t < 8 * 8) = true := by simp; omega
  have e2 : 8 - 1 - (56 - 8 * k + t) / 8 = k := by omega
  have e3 : (56 - 8 * k + t) % 8 = t := by omega
  rw [e1, e2, e3]; rfl
theorem bytesE_words (b : List UInt8) (hb : b.length = 16) : bytesE (wordTo b 0 8) (wordTo b 8 8) = b := by
  apply List.ext_getElem?
  intro i
  by_cases hi : i < 16
  · have h1 := bytesE_get (wordTo b 0 8) (wordTo b 8 8) i hi
    have h2 : (bytesE (wordTo b 0 8) (wordTo b 8 8)).getD i 0 = b.getD i 0 := by
      rw [h1]
      by_cases h8 : i < 8
      · rw [if_pos h8, byteE_word b 0 i h8, Nat.zero_add]
      · rw [if_neg h8, byteE_word b 8 (i - 8) (by omega), show 8 + (i - 8) = i by omega]
    rw [List.getD_eq_getElem?_getD, List.getD_eq_getElem?_getD, List.getElem?_eq_getElem (by rw [bytesE_length]; exact hi), List.getElem?_eq_getElem (by omega)] at h2
    rw [List.getElem?_eq_getElem (by rw [bytesE_length]; exact hi), List.getElem?_eq_getElem (by omega)]
    exact congrArg some h2
  · rw [List.getElem?_eq_none (by rw [bytesE_length]; omega), List.getElem?_eq_none (by omega)]
theorem cat_inj {a b c d : BitVec 64} (h : cat a b = cat c d) : a = c ∧ b = d := by
  have hb : ∀ i, (cat a b).getLsbD i = (cat c d).getLsbD i := fun i => by rw [h]
  refine ⟨BitVec.eq_of_getLsbD_eq fun j hj => ?_, BitVec.eq_of_getLsbD_eq fun j hj => ?_⟩
  · have := hb (64 + j)
    rw [cat_bit, cat_bit, if_neg (by omega), if_neg (by omega), show 64 + j - 64 = j by omega] at this
    exact this
  · have := hb j
    rw [cat_bit, cat_bit, if_pos hj, if_pos hj] at this
    exact this
/-- Two rows of sixteen bytes that are one element are one row. -/
theorem elE_inj {a b : List UInt8} (ha : a.length = 16) (hb : b.length = 16) (h : elE a = elE b) : a = b := by
  obtain ⟨h1, h2⟩ := cat_inj h
  rw [← bytesE_words a ha, ← bytesE_words b hb, h1, h2]
theorem elE_prod (a b : List UInt8) : elE (prodE a b) = gmul (elE a) (elE b) := by
  unfold prodE
  rw [elE_bytes, prodG_el]
/-- Two rows put together, byte by byte. -/
def putE (a b : List UInt8) : List UInt8 := List.zipWith (· ^^^ ·) a b
theorem putE_length {a b : List UInt8} (ha : a.length = 16) (hb : b.length = 16) : (putE a b).length = 16 := by simp [putE, ha, hb]
theorem putE_get {a b : List UInt8} (ha : a.length = 16) (hb : b.length = 16) (i : Nat) (hi : i < 16) : (putE a b).getD i 0 = a.getD i 0 ^^^ b.getD i 0 := by
  simp [putE, List.getD_eq_getElem?_getD, ha, hb, hi]
theorem wordTo_put {a b : List UInt8} (ha : a.length = 16) (hb : b.length = 16) (o : Nat) (ho : o ≤ 8) : wordTo (putE a b) o 8 = wordTo a o 8 ^^^ wordTo b o 8 := by
  apply BitVec.eq_of_getLsbD_eq
  intro j hj
  rw [BitVec.getLsbD_xor, wordTo_bit _ _ 8 (Nat.le_refl _) j hj, wordTo_bit _ _ 8 (Nat.le_refl _) j hj, wordTo_bit _ _ 8 (Nat.le_refl _) j hj, putE_get ha hb _ (by omega), UInt8.toBitVec_xor, BitVec.getLsbD_xor]
  have e1 : decide (j < 8 * 8) = true := by simp; omega
  rw [e1]; simp
theorem elE_put {a b : List UInt8} (ha : a.length = 16) (hb : b.length = 16) : elE (putE a b) = elE a ^^^ elE b := by
  unfold elE
  rw [wordTo_put ha hb 0 (by omega), wordTo_put ha hb 8 (by omega), cat_xor]
/-- The laws of products, of bytes. -/
theorem prodE_comm {a b : List UInt8} : prodE a b = prodE b a := elE_inj (prodE_length _ _) (prodE_length _ _) (by rw [elE_prod, elE_prod, gmul_comm])
theorem prodE_assoc {a b c : List UInt8} : prodE (prodE a b) c = prodE a (prodE b c) := elE_inj (prodE_length _ _) (prodE_length _ _) (by rw [elE_prod, elE_prod, elE_prod, elE_prod, gmul_assoc])
theorem prodE_put {a b c : List UInt8} (hb : b.length = 16) (hc : c.length = 16) : prodE a (putE b c) = putE (prodE a b) (prodE a c) :=
  elE_inj (prodE_length _ _) (putE_length (prodE_length _ _) (prodE_length _ _)) (by rw [elE_prod, elE_put hb hc, gmul_xor, elE_put (prodE_length _ _) (prodE_length _ _), elE_prod, elE_prod])
end Go.Proofs.Ytefbjhdcmgonbaa
