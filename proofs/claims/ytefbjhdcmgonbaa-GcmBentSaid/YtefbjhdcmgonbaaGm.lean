/-
  Products of elements: a field's elements as 128 bits, the coefficient of x^0 the highest; products are spread over sums, and the same in any order.
-/
namespace Go.Proofs.Ytefbjhdcmgonbaa

/-- Times x. -/
def gX (v : BitVec 128) : BitVec 128 := (v >>> 1) ^^^ (if v.getLsbD 0 then 0xe1000000000000000000000000000000#128 else 0#128)
def gXn (v : BitVec 128) : Nat → BitVec 128
  | 0 => v
  | k + 1 => gX (gXn v k)
/-- The sum of the first k of a's powers, times b. -/
def gTo (a b : BitVec 128) : Nat → BitVec 128
  | 0 => 0#128
  | k + 1 => gTo a b k ^^^ (if a.getMsbD k then gXn b k else 0#128)
def gmul (a b : BitVec 128) : BitVec 128 := gTo a b 128
theorem x_swap (a b c d : BitVec 128) : (a ^^^ b) ^^^ (c ^^^ d) = (a ^^^ c) ^^^ (b ^^^ d) := by
  rw [BitVec.xor_assoc, ← BitVec.xor_assoc b c d, BitVec.xor_comm b c, BitVec.xor_assoc c b d, ← BitVec.xor_assoc]
theorem gX_xor (u v : BitVec 128) : gX (u ^^^ v) = gX u ^^^ gX v := by
  unfold gX
  have h : (u ^^^ v) >>> 1 = (u >>> 1) ^^^ (v >>> 1) := by
    apply BitVec.eq_of_getLsbD_eq; intro i hi; simp
  rw [h, x_swap]
  congr 1
  rw [BitVec.getLsbD_xor]
  cases u.getLsbD 0 <;> cases v.getLsbD 0 <;> simp
theorem gX_zero : gX 0#128 = 0#128 := by decide
theorem gXn_xor (u v : BitVec 128) (k : Nat) : gXn (u ^^^ v) k = gXn u k ^^^ gXn v k := by
  induction k with
  | zero => rfl
  | succ k ih => rw [gXn, ih, gX_xor]; rfl
theorem gXn_zero (k : Nat) : gXn 0#128 k = 0#128 := by
  induction k with
  | zero => rfl
  | succ k ih => rw [gXn, ih, gX_zero]
theorem gXn_comm (v : BitVec 128) (k : Nat) : gXn (gX v) k = gX (gXn v k) := by
  induction k with
  | zero => rfl
  | succ k ih => rw [gXn, ih]; rfl
theorem gTo_xor (a u v : BitVec 128) (k : Nat) : gTo a (u ^^^ v) k = gTo a u k ^^^ gTo a v k := by
  induction k with
  | zero => simp [gTo]
  | succ k ih =>
    rw [gTo, gTo, gTo, ih, gXn_xor, x_swap]
    congr 1
    split <;> simp
theorem gTo_zero (a : BitVec 128) (k : Nat) : gTo a 0#128 k = 0#128 := by
  induction k with
  | zero => rfl
  | succ k ih => rw [gTo, ih, gXn_zero]; simp
theorem gTo_X (a v : BitVec 128) (k : Nat) : gTo a (gX v) k = gX (gTo a v k) := by
  induction k with
  | zero => rw [gTo, gTo, gX_zero]
  | succ k ih =>
    rw [gTo, gTo, ih, gXn_comm, gX_xor]
    split
    · rfl
    · rw [gX_zero]
theorem gmul_X (a v : BitVec 128) : gmul a (gX v) = gX (gmul a v) := gTo_X a v 128
theorem gmul_Xn (a v : BitVec 128) (k : Nat) : gmul a (gXn v k) = gXn (gmul a v) k := by
  induction k with
  | zero => rfl
  | succ k ih => rw [gXn, gmul_X, ih]; rfl
theorem gmul_xor (a u v : BitVec 128) : gmul a (u ^^^ v) = gmul a u ^^^ gmul a v := gTo_xor a u v 128
theorem gmul_zero (a : BitVec 128) : gmul a 0#128 = 0#128 := gTo_zero a 128
theorem gmul_to (c a b : BitVec 128) (k : Nat) : gmul c (gTo a b k) = gTo a (gmul c b) k := by
  induction k with
  | zero => rw [gTo, gmul_zero]; rfl
  | succ k ih =>
    rw [gTo, gmul_xor, ih, gTo]
    by_cases h : a.getMsbD k
    · rw [if_pos h, if_pos h, gmul_Xn]
    · rw [if_neg h, if_neg h, gmul_zero]
theorem gmul_turn (a b c : BitVec 128) : gmul c (gmul a b) = gmul a (gmul c b) := gmul_to c a b 128
/-- One. -/
def gOne : BitVec 128 := 0x80000000000000000000000000000000#128
set_option maxRecDepth 100000 in
theorem gOne_pow (k : Nat) (hk : k < 128) : gXn gOne k = gOne >>> k := by
  induction k with
  | zero => rfl
  | succ k ih =>
    rw [gXn, ih (by omega)]
    have h : ∀ i : Fin 127, gX (gOne >>> i.val) = gOne >>> (i.val + 1) := by decide +kernel
    exact h ⟨k, by omega⟩
set_option maxRecDepth 100000 in
theorem gOne_bit (k j : Nat) (hk : k < 128) (hj : j < 128) : (gOne >>> k).getMsbD j = decide (j = k) := by
  have h : ∀ k : Fin 128, ∀ j : Fin 128, (gOne >>> k.val).getMsbD j.val = decide (j.val = k.val) := by decide +kernel
  exact h ⟨k, hk⟩ ⟨j, hj⟩
theorem gTo_one (a : BitVec 128) (k : Nat) (hk : k ≤ 128) (j : Nat) (hj : j < 128) : (gTo a gOne k).getMsbD j = (decide (j < k) && a.getMsbD j) := by
  induction k with
  | zero => simp [gTo]
  | succ k ih =>
    rw [gTo, BitVec.getMsbD_xor, ih (by omega), gOne_pow k (by omega)]
    by_cases h : a.getMsbD k
    · rw [if_pos h, gOne_bit k j (by omega) hj]
      by_cases hjk : j = k
      · subst hjk; simp [h]
      · have e : decide (j < k + 1) = decide (j < k) := by simp; omega
        rw [e]; simp [hjk]
    · rw [if_neg h]
      by_cases hjk : j = k
      · subst hjk; simp at h; simp [h]
      · have e : decide (j < k + 1) = decide (j < k) := by simp; omega
        rw [e]; simp
theorem gmul_one (a : BitVec 128) : gmul a gOne = a := by
  apply BitVec.eq_of_getMsbD_eq
  intro j hj
  unfold gmul
  rw [gTo_one a 128 (Nat.le_refl _) j hj]
  simp [hj]
theorem gmul_comm (a b : BitVec 128) : gmul a b = gmul b a := by
  have h := gmul_turn b gOne a
  rw [gmul_one, gmul_one] at h
  exact h
theorem gmul_assoc (a b c : BitVec 128) : gmul (gmul a b) c = gmul a (gmul b c) := by
  rw [gmul_comm (gmul a b) c, gmul_turn a b c, gmul_comm c b]
end Go.Proofs.Ytefbjhdcmgonbaa
