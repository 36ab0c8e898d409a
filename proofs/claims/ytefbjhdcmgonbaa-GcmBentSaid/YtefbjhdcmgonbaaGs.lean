/-
  The reference's steps of a product, of bytes: what they are of the element.
-/
import Derived.Test.YtefbjhdcmgonbaaGq
namespace Go.Proofs.Ytefbjhdcmgonbaa
open Go.RowKit

theorem elE_bit (b : List UInt8) (j : Nat) (hj : j < 128) : (elE b).getLsbD j = (b.getD (15 - j / 8) 0).toBitVec.getLsbD (j % 8) := by
  unfold elE
  rw [cat_bit]
  by_cases h : j < 64
  · rw [if_pos h, wordTo_bit _ _ 8 (Nat.le_refl _) j h]
    have e1 : decide (j < 8 * 8) = true := by simp; omega
    have e2 : 8 + (8 - 1 - j / 8) = 15 - j / 8 := by omega
    rw [e1, e2]; rfl
  · rw [if_neg h, wordTo_bit _ _ 8 (Nat.le_refl _) (j - 64) (by omega)]
    have e1 : decide (j - 64 < 8 * 8) = true := by simp; omega
    have e2 : 0 + (8 - 1 - (j - 64) / 8) = 15 - j / 8 := by omega
    have e3 : (j - 64) % 8 = j % 8 := by omega
    rw [e1, e2, e3]; rfl
/-- Whether the i-th coefficient is there. -/
theorem elE_top (b : List UInt8) (i : Nat) (hi : i < 128) : (elE b).getMsbD i = decide ((b.getD (i / 8) 0).toNat / 2 ^ (7 - i % 8) % 2 = 1) := by
  have e3 : decide (i < 128) = true := by simp; omega
  rw [BitVec.getMsbD, e3, Bool.true_and, elE_bit b _ (by omega)]
  have e1 : 15 - (128 - 1 - i) / 8 = i / 8 := by omega
  have e2 : (128 - 1 - i) % 8 = 7 - i % 8 := by omega
  rw [e1, e2, BitVec.getLsbD, Nat.testBit, Nat.shiftRight_eq_div_pow]
  show (1 &&& _ != 0) = _
  rw [Nat.and_comm, Nat.and_one_is_mod]
  show ((b.getD (i / 8) 0).toNat / 2 ^ (7 - i % 8) % 2 != 0) = _
  rcases Nat.mod_two_eq_zero_or_one ((b.getD (i / 8) 0).toNat / 2 ^ (7 - i % 8)) with h | h <;> rw [h] <;> rfl
/-- All bits one place on. -/
def shrB (v : List UInt8) (k : Nat) : UInt8 := (v.getD k 0 >>> 1) ||| (if k = 0 then (0 : UInt8) else v.getD (k - 1) 0 <<< 7)
def shrE (v : List UInt8) : List UInt8 := (List.range 16).map (shrB v)
theorem shrE_length (v : List UInt8) : (shrE v).length = 16 := by simp [shrE]
theorem shrE_get (v : List UInt8) (k : Nat) (hk : k < 16) : (shrE v).getD k 0 = shrB v k := by
  simp [shrE, List.getD_eq_getElem?_getD, hk]
theorem shr1_bit (x : UInt8) (t : Nat) : (x >>> 1).toBitVec.getLsbD t = x.toBitVec.getLsbD (t + 1) := by
  rw [UInt8.toBitVec_shiftRight]
  show (x.toBitVec >>> (1 % 8)).getLsbD t = _
  rw [BitVec.getLsbD_ushiftRight, show 1 % 8 + t = t + 1 by omega]
theorem shl7_bit (x : UInt8) (t : Nat) (ht : t < 8) : (x <<< 7).toBitVec.getLsbD t = (decide (t = 7) && x.toBitVec.getLsbD 0) := by
  rw [UInt8.toBitVec_shiftLeft]
  show (x.toBitVec <<< (7 % 8)).getLsbD t = _
  rw [BitVec.getLsbD_shiftLeft]
  by_cases h : t = 7
  · subst h; simp
  · have e : decide (t < 7 % 8) = true := by simp; omega
    rw [e]; simp [h]
theorem elE_shr (v : List UInt8) : elE (shrE v) = (elE v) >>> 1 := by
  apply BitVec.eq_of_getLsbD_eq
  intro j hj
  rw [elE_bit _ j hj, shrE_get _ _ (by omega), BitVec.getLsbD_ushiftRight]
  unfold shrB
  rw [UInt8.toBitVec_or, BitVec.getLsbD_or, shr1_bit]
  by_cases h7 : j % 8 = 7
  · have e0 : (v.getD (15 - j / 8) 0).toBitVec.getLsbD (j % 8 + 1) = false := BitVec.getLsbD_of_ge _ _ (by omega)
    rw [e0, Bool.false_or]
    by_cases h0 : 15 - j / 8 = 0
    · rw [if_pos h0, BitVec.getLsbD_of_ge (elE v) (1 + j) (by omega)]
      simp
    · rw [if_neg h0, shl7_bit _ _ (by omega), elE_bit v (1 + j) (by omega)]
      have e1 : 15 - j / 8 - 1 = 15 - (1 + j) / 8 := by omega
      have e2 : (1 + j) % 8 = 0 := by omega
      rw [e1, e2, h7]; rfl
  · rw [elE_bit v (1 + j) (by omega)]
    have e1 : (1 + j) / 8 = j / 8 := by omega
    have e2 : (1 + j) % 8 = j % 8 + 1 := by omega
    have e3 : (if 15 - j / 8 = 0 then (0 : UInt8) else v.getD (15 - j / 8 - 1) 0 <<< 7).toBitVec.getLsbD (j % 8) = false := by
      split
      · simp
      · rw [shl7_bit _ _ (by omega)]; simp [h7]
    rw [e1, e2, e3, Bool.or_false]
def overE : List UInt8 := [0xE1, 0, 0, 0, 0, 0, 0, 0, 0, 0, 0, 0, 0, 0, 0, 0]
theorem elE_over : elE overE = 0xe1000000000000000000000000000000#128 := by decide +kernel
theorem set_over (v : List UInt8) (hv : v.length = 16) : v.set 0 (v.getD 0 0 ^^^ 0xE1) = putE v overE := by
  match v, hv with
  | [a0, a1, a2, a3, a4, a5, a6, a7, a8, a9, a10, a11, a12, a13, a14, a15], _ => simp [putE, overE]
/-- A step's row. -/
def stepE (v : List UInt8) : List UInt8 := if (v.getD 15 0).toNat % 2 = 1 then putE (shrE v) overE else shrE v
theorem stepE_length (v : List UInt8) : (stepE v).length = 16 := by
  unfold stepE
  split
  · exact putE_length (shrE_length v) rfl
  · exact shrE_length v
theorem elE_step (v : List UInt8) : elE (stepE v) = gX (elE v) := by
  have hb : (elE v).getLsbD 0 = decide ((v.getD 15 0).toNat % 2 = 1) := by
    have := elE_top v 127 (by omega)
    rw [BitVec.getMsbD] at this
    have e1 : (128 - 1 - 127) = 0 := rfl
    have e2 : decide (127 < 128) = true := rfl
    have e3 : 2 ^ (7 - 127 % 8) = 1 := rfl
    have e4 : 127 / 8 = 15 := rfl
    rw [e1, e2, e3, e4, Nat.div_one, Bool.true_and] at this
    exact this
  unfold stepE gX
  rw [hb]
  by_cases h : (v.getD 15 0).toNat % 2 = 1
  · rw [if_pos h, elE_put (shrE_length v) rfl, elE_shr, elE_over, if_pos (decide_eq_true h)]
  · rw [if_neg h, elE_shr, if_neg (by rw [decide_eq_false h]; decide), BitVec.xor_zero]
/-- The rows on their way. -/
def vE (b : List UInt8) : Nat → List UInt8
  | 0 => b
  | k + 1 => stepE (vE b k)
def zE (a b : List UInt8) : Nat → List UInt8
  | 0 => [0, 0, 0, 0, 0, 0, 0, 0, 0, 0, 0, 0, 0, 0, 0, 0]
  | k + 1 => if (a.getD (k / 8) 0).toNat / 2 ^ (7 - k % 8) % 2 = 1 then putE (zE a b k) (vE b k) else zE a b k
theorem vE_length {b : List UInt8} (hb : b.length = 16) (k : Nat) : (vE b k).length = 16 := by
  cases k with
  | zero => exact hb
  | succ k => exact stepE_length _
theorem zE_length {a b : List UInt8} (hb : b.length = 16) (k : Nat) : (zE a b k).length = 16 := by
  induction k with
  | zero => rfl
  | succ k ih =>
    rw [zE]
    split
    · exact putE_length ih (vE_length hb k)
    · exact ih
theorem vE_el (b : List UInt8) (k : Nat) : elE (vE b k) = gXn (elE b) k := by
  induction k with
  | zero => rfl
  | succ k ih => rw [vE, elE_step, ih]; rfl
theorem zE_el (a b : List UInt8) (hb : b.length = 16) (k : Nat) (hk : k ≤ 128) : elE (zE a b k) = gTo (elE a) (elE b) k := by
  induction k with
  | zero =>
    show elE [0, 0, 0, 0, 0, 0, 0, 0, 0, 0, 0, 0, 0, 0, 0, 0] = 0#128
    decide +kernel
  | succ k ih =>
    rw [zE, gTo, elE_top a k (by omega)]
    by_cases h : (a.getD (k / 8) 0).toNat / 2 ^ (7 - k % 8) % 2 = 1
    · rw [if_pos h, elE_put (zE_length hb k) (vE_length hb k), ih (by omega), vE_el, if_pos (decide_eq_true h)]
    · rw [if_neg h, ih (by omega), if_neg (by rw [decide_eq_false h]; decide), BitVec.xor_zero]
/-- The reference's product is the code's. -/
theorem zE_prod (a b : List UInt8) (hb : b.length = 16) : zE a b 128 = prodE a b :=
  elE_inj (zE_length hb 128) (prodE_length a b) (by rw [zE_el a b hb 128 (Nat.le_refl _), elE_prod]; rfl)
end Go.Proofs.Ytefbjhdcmgonbaa
