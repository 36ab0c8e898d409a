/-
  Elements as two words: what each step of a product does to them is what it does to the 128 bits.
-/
import Derived.Test.YtefbjhdcmgonbaaGm
namespace Go.Proofs.Ytefbjhdcmgonbaa

def gOver : BitVec 64 := 0xe100000000000000#64
/-- Times x, of two words. -/
def xh (h l : BitVec 64) : BitVec 64 := (h >>> 1) ^^^ ((-(l &&& 1#64)) &&& gOver)
def xl (h l : BitVec 64) : BitVec 64 := (l >>> 1) ||| (h <<< 63)
def cat (h l : BitVec 64) : BitVec 128 := h ++ l
theorem cat_bit (h l : BitVec 64) (i : Nat) : (cat h l).getLsbD i = if i < 64 then l.getLsbD i else h.getLsbD (i - 64) := by
  unfold cat
  rw [BitVec.getLsbD_append]
theorem cat_xor (a b c d : BitVec 64) : cat a b ^^^ cat c d = cat (a ^^^ c) (b ^^^ d) := by
  apply BitVec.eq_of_getLsbD_eq
  intro i hi
  rw [BitVec.getLsbD_xor, cat_bit, cat_bit, cat_bit]
  split <;> simp
theorem neg_one_bit (v : BitVec 64) : -(v &&& 1#64) = if v.getLsbD 0 then BitVec.allOnes 64 else 0#64 := by
  have h : v &&& 1#64 = if v.getLsbD 0 then 1#64 else 0#64 := by
    apply BitVec.eq_of_getLsbD_eq
    intro i hi
    rw [BitVec.getLsbD_and]
    by_cases h0 : v.getLsbD 0
    · rw [if_pos h0]
      by_cases hi0 : i = 0
      · subst hi0; simp [h0]
      · simp [BitVec.getLsbD_one, hi0]
    · rw [if_neg h0]
      by_cases hi0 : i = 0
      · subst hi0; simp at h0; simp [h0]
      · simp [BitVec.getLsbD_one, hi0]
  rw [h]
  split <;> decide
theorem neg_top_bit (v : BitVec 64) : -(v >>> 63) = if v.getLsbD 63 then BitVec.allOnes 64 else 0#64 := by
  have h : v >>> 63 = if v.getLsbD 63 then 1#64 else 0#64 := by
    apply BitVec.eq_of_getLsbD_eq
    intro i hi
    rw [BitVec.getLsbD_ushiftRight]
    by_cases h0 : v.getLsbD 63
    · rw [if_pos h0]
      by_cases hi0 : i = 0
      · subst hi0; simp [h0]
      · simp [BitVec.getLsbD_one, hi0, BitVec.getLsbD_of_ge v (63 + i) (by omega)]
    · rw [if_neg h0]
      by_cases hi0 : i = 0
      · subst hi0; simp at h0; simp [h0]
      · simp [BitVec.getLsbD_of_ge v (63 + i) (by omega)]
  rw [h]
  split <;> decide
theorem cat_X (h l : BitVec 64) : gX (cat h l) = cat (xh h l) (xl h l) := by
  unfold gX
  have e : (if (cat h l).getLsbD 0 then 0xe1000000000000000000000000000000#128 else 0#128) = cat ((-(l &&& 1#64)) &&& gOver) 0#64 := by
    have e0 : (cat h l).getLsbD 0 = l.getLsbD 0 := by rw [cat_bit, if_pos (by decide)]
    rw [e0, neg_one_bit]
    split <;> decide
  have e2 : (cat h l) >>> 1 = cat (h >>> 1) (xl h l) := by
    apply BitVec.eq_of_getLsbD_eq
    intro i hi
    rw [BitVec.getLsbD_ushiftRight, cat_bit, cat_bit]
    unfold xl
    by_cases h1 : i < 63
    · rw [if_pos (by omega), if_pos (by omega)]
      simp [BitVec.getLsbD_or, BitVec.getLsbD_shiftLeft, h1]
    · by_cases h2 : i = 63
      · subst h2
        rw [if_neg (by omega), if_pos (by omega)]
        simp
      · rw [if_neg (by omega), if_neg (by omega), BitVec.getLsbD_ushiftRight]
        congr 1; omega
  rw [e, e2, cat_xor]
  unfold xh
  simp
/-- The words on their way: a's that are left, b's, the sum's. -/
structure G6 where
  a0 : BitVec 64
  a1 : BitVec 64
  b0 : BitVec 64
  b1 : BitVec 64
  s0 : BitVec 64
  s1 : BitVec 64
def gStep (g : G6) : G6 := ⟨(g.a0 <<< 1) ||| (g.a1 >>> 63), g.a1 <<< 1, xh g.b0 g.b1, xl g.b0 g.b1, g.s0 ^^^ (g.b0 &&& (-(g.a0 >>> 63))), g.s1 ^^^ (g.b1 &&& (-(g.a0 >>> 63)))⟩
def gN (a0 a1 b0 b1 : BitVec 64) : Nat → G6
  | 0 => ⟨a0, a1, b0, b1, 0#64, 0#64⟩
  | k + 1 => gStep (gN a0 a1 b0 b1 k)
theorem cat_shl (h l : BitVec 64) : (cat h l) <<< 1 = cat ((h <<< 1) ||| (l >>> 63)) (l <<< 1) := by
  apply BitVec.eq_of_getLsbD_eq
  intro i hi
  rw [BitVec.getLsbD_shiftLeft, cat_bit, cat_bit]
  by_cases h0 : i = 0
  · subst h0; simp
  · by_cases h1 : i < 64
    · rw [if_pos (by omega), if_pos h1, BitVec.getLsbD_shiftLeft]; simp [h0, h1, hi]
    · rw [if_neg h1, BitVec.getLsbD_or, BitVec.getLsbD_shiftLeft, BitVec.getLsbD_ushiftRight]
      by_cases h2 : i = 64
      · subst h2; simp
      · rw [if_neg (by omega)]
        have e1 : i - 1 - 64 = i - 64 - 1 := by omega
        have e3 : l.getLsbD (63 + (i - 64)) = false := BitVec.getLsbD_of_ge l _ (by omega)
        have e4 : decide (i - 64 < 64) = true := by simp; omega
        have e5 : decide (i - 64 < 1) = false := by simp; omega
        have e6 : decide (i < 1) = false := by simp; omega
        have e7 : decide (i < 128) = true := by simp; omega
        rw [e1, e3, e4, e5, e6, e7]; simp
theorem and_ones (v : BitVec 64) : v &&& BitVec.allOnes 64 = v := BitVec.and_allOnes
theorem and_none (v : BitVec 64) : v &&& 0#64 = 0#64 := by simp
theorem gN_spec (a0 a1 b0 b1 : BitVec 64) (k : Nat) (hk : k ≤ 128) :
    cat (gN a0 a1 b0 b1 k).a0 (gN a0 a1 b0 b1 k).a1 = (cat a0 a1) <<< k ∧ cat (gN a0 a1 b0 b1 k).b0 (gN a0 a1 b0 b1 k).b1 = gXn (cat b0 b1) k ∧ cat (gN a0 a1 b0 b1 k).s0 (gN a0 a1 b0 b1 k).s1 = gTo (cat a0 a1) (cat b0 b1) k := by
  induction k with
  | zero =>
    refine ⟨by simp [gN], rfl, ?_⟩
    show cat 0#64 0#64 = 0#128
    decide
  | succ k ih =>
    obtain ⟨h1, h2, h3⟩ := ih (by omega)
    refine ⟨?_, ?_, ?_⟩
    · rw [gN, gStep, ← cat_shl, h1, ← BitVec.shiftLeft_add]
    · rw [gN, gStep, ← cat_X, h2]; rfl
    · have hb : (gN a0 a1 b0 b1 k).a0.getLsbD 63 = (cat a0 a1).getMsbD k := by
        have := cat_bit (gN a0 a1 b0 b1 k).a0 (gN a0 a1 b0 b1 k).a1 127
        rw [if_neg (by omega), h1, BitVec.getLsbD_shiftLeft] at this
        rw [BitVec.getMsbD]
        have e1 : decide (127 < 128) = true := by decide
        have e2 : decide (127 < k) = false := by simp; omega
        have e3 : decide (k < 128) = true := by simp; omega
        rw [e1, e2] at this
        rw [e3]
        have e5 : 127 - 64 = 63 := rfl
        rw [e5] at this
        rw [← this]
        rfl
      have hp : cat ((gN a0 a1 b0 b1 k).b0 &&& (-((gN a0 a1 b0 b1 k).a0 >>> 63))) ((gN a0 a1 b0 b1 k).b1 &&& (-((gN a0 a1 b0 b1 k).a0 >>> 63))) = if (cat a0 a1).getMsbD k then gXn (cat b0 b1) k else 0#128 := by
        rw [neg_top_bit, hb]
        split
        · rw [← h2, and_ones, and_ones]
        · rw [and_none, and_none]; decide
      rw [gN, gStep, ← cat_xor, h3, gTo, hp]
/-- The product of two words and two. -/
theorem gN_mul (a0 a1 b0 b1 : BitVec 64) : cat (gN a0 a1 b0 b1 128).s0 (gN a0 a1 b0 b1 128).s1 = gmul (cat a0 a1) (cat b0 b1) := (gN_spec a0 a1 b0 b1 128 (Nat.le_refl _)).2.2
end Go.Proofs.Ytefbjhdcmgonbaa
