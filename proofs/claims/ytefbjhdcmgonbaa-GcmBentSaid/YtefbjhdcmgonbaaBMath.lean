/-
  The steps of package block's states, and their inverses.
-/
import Derived.Test.YtefbjhdcmgonbaaBOpen
namespace Go.Proofs.Ytefbjhdcmgonbaa
open Go.RowKit

theorem four (s : List UInt32) (h : s.length = 4) : ∃ a b c d, s = [a, b, c, d] := by
  match s, h with
  | [a, b, c, d], _ => exact ⟨a, b, c, d, rfl⟩
theorem dbl32_xor (x y : UInt32) : dbl32 (x ^^^ y) = dbl32 x ^^^ dbl32 y := by
  have h : wide (x ^^^ y) = wide x ^^^ wide y := by simp [wide]
  unfold dbl32
  rw [h, dbl64_xor]
  apply UInt32.eq_of_toBitVec_eq
  simp [lo32]
theorem xor_drop (a b : UInt32) : a ^^^ (a ^^^ b) = b := by rw [← UInt32.xor_assoc, UInt32.xor_self, UInt32.zero_xor]
theorem xor_turn (a b c : UInt32) : a ^^^ (b ^^^ c) = b ^^^ (a ^^^ c) := by rw [← UInt32.xor_assoc, UInt32.xor_comm a b, UInt32.xor_assoc]
theorem mix_eq (a b c d : UInt32) : mixS [a, b, c, d] = [((dbl32 (a ^^^ b) ^^^ b) ^^^ c) ^^^ d, ((dbl32 (b ^^^ c) ^^^ c) ^^^ d) ^^^ a, ((dbl32 (c ^^^ d) ^^^ d) ^^^ a) ^^^ b, ((dbl32 (d ^^^ a) ^^^ a) ^^^ b) ^^^ c] := rfl
theorem mix_two (a b c d : UInt32) : mixS (mixS [a, b, c, d]) = [a ^^^ (dbl32 (dbl32 a) ^^^ dbl32 (dbl32 c)), b ^^^ (dbl32 (dbl32 b) ^^^ dbl32 (dbl32 d)), c ^^^ (dbl32 (dbl32 c) ^^^ dbl32 (dbl32 a)), d ^^^ (dbl32 (dbl32 d) ^^^ dbl32 (dbl32 b))] := by
  rw [mix_eq, mix_eq]
  simp only [dbl32_xor]
  generalize dbl32 (dbl32 a) = a2
  generalize dbl32 (dbl32 b) = b2
  generalize dbl32 (dbl32 c) = c2
  generalize dbl32 (dbl32 d) = d2
  generalize dbl32 a = a1
  generalize dbl32 b = b1
  generalize dbl32 c = c1
  generalize dbl32 d = d1
  simp only [UInt32.xor_comm, xor_turn, xor_drop, UInt32.xor_self, UInt32.xor_zero]
theorem mix_four (s : List UInt32) (h : s.length = 4) : mixS (mixS (mixS (mixS s))) = s := by
  obtain ⟨a, b, c, d, rfl⟩ := four s h
  rw [mix_two, mix_two]
  simp only [dbl32_xor, UInt32.xor_comm, xor_turn, UInt32.xor_self, UInt32.xor_zero, UInt32.zero_xor]
theorem plus_two (s t : List UInt32) (hs : s.length = 4) (ht : t.length = 4) : plusS (plusS s t) t = s := by
  obtain ⟨a, b, c, d, rfl⟩ := four s hs
  obtain ⟨e, f, g, h, rfl⟩ := four t ht
  show [(a ^^^ e) ^^^ e, (b ^^^ f) ^^^ f, (c ^^^ g) ^^^ g, (d ^^^ h) ^^^ h] = _
  simp only [UInt32.xor_assoc, UInt32.xor_self, UInt32.xor_zero]
theorem cat_eta (v : BitVec 64) : cat32 (hi32 v) (lo32 v) = v := by
  unfold cat32 hi32 lo32 wide
  ext j hj
  simp
  by_cases h : j < 32
  · simp [h, BitVec.getLsbD_eq_getElem hj]
  · have e : 32 + (j - 32) = j := by omega
    have e2 : j - 32 < 32 := by omega
    have e3 : j - 32 < 64 := by omega
    simp [h, e, e2, BitVec.getLsbD_eq_getElem hj]
theorem hi_cat (x y : UInt32) : hi32 (cat32 x y) = x := by
  apply UInt32.eq_of_toBitVec_eq
  unfold cat32 hi32 wide
  ext j hj
  have e1 : 32 + j < 64 := by omega
  have e2 : ¬ 32 + j < 32 := by omega
  have e3 : j < 64 := by omega
  simp [hj, e1, e2, e3]
theorem lo_cat (x y : UInt32) : lo32 (cat32 x y) = y := by
  apply UInt32.eq_of_toBitVec_eq
  unfold cat32 lo32 wide
  ext j hj
  simp
theorem each_back (f g : BitVec 64 → BitVec 64) (hf : ∀ x, g (f x) = x) (s : List UInt32) (hs : s.length = 4) : eachS g (eachS f s) = s := by
  obtain ⟨a, b, c, d, rfl⟩ := four s hs
  show [hi32 (g (cat32 (hi32 (f (cat32 a b))) (lo32 (f (cat32 a b))))), lo32 (g (cat32 (hi32 (f (cat32 a b))) (lo32 (f (cat32 a b))))), hi32 (g (cat32 (hi32 (f (cat32 c d))) (lo32 (f (cat32 c d))))), lo32 (g (cat32 (hi32 (f (cat32 c d))) (lo32 (f (cat32 c d)))))] = _
  simp only [cat_eta, hf, hi_cat, lo_cat]
theorem rotl_nat (n : Nat) (x : UInt32) (h0 : 0 < n) (hn : n < 32) : (rotl n x).toNat = x.toNat % 2 ^ (32 - n) * 2 ^ n + x.toNat / 2 ^ (32 - n) := by
  have hx := x.toNat_lt
  have e : x.toNat * 2 ^ n % 2 ^ 32 = x.toNat % 2 ^ (32 - n) * 2 ^ n := by
    have : 2 ^ 32 = 2 ^ (32 - n) * 2 ^ n := by rw [← Nat.pow_add]; congr 1; omega
    rw [this, Nat.mul_mod_mul_right]
  have hd : x.toNat / 2 ^ (32 - n) < 2 ^ n := by
    rw [Nat.div_lt_iff_lt_mul (Nat.two_pow_pos _), ← Nat.pow_add, show n + (32 - n) = 32 by omega]; exact hx
  unfold rotl
  rw [UInt32.toNat_or, UInt32.toNat_shiftLeft, UInt32.toNat_shiftRight]
  have m1 : (UInt32.ofNat n).toNat % 32 = n := by simp; omega
  have m2 : (UInt32.ofNat (32 - n)).toNat % 32 = 32 - n := by simp; omega
  rw [m1, m2, Nat.shiftLeft_eq, Nat.shiftRight_eq_div_pow, e, Nat.mul_comm _ (2 ^ n), Nat.two_pow_add_eq_or_of_lt hd]
theorem rot_four (x : UInt32) (i : Nat) (hi : i < 4) : rotl (8 * i) (rotl (8 * i) (rotl (8 * i) (rotl (8 * i) x))) = x := by
  have h0 : ∀ y : UInt32, rotl (8 * 0) y = y := fun y => by
    apply UInt32.toNat_inj.mp
    simp [rotl]
  have hx := x.toNat_lt
  match i, hi with
  | 0, _ => simp only [h0]
  | 1, _ => apply UInt32.toNat_inj.mp; simp only [rotl_nat _ _ (show 0 < 8 * 1 by decide) (show 8 * 1 < 32 by decide), Nat.reduceMul, Nat.reduceSub, Nat.reducePow]; omega
  | 2, _ => apply UInt32.toNat_inj.mp; simp only [rotl_nat _ _ (show 0 < 8 * 2 by decide) (show 8 * 2 < 32 by decide), Nat.reduceMul, Nat.reduceSub, Nat.reducePow]; omega
  | 3, _ => apply UInt32.toNat_inj.mp; simp only [rotl_nat _ _ (show 0 < 8 * 3 by decide) (show 8 * 3 < 32 by decide), Nat.reduceMul, Nat.reduceSub, Nat.reducePow]; omega
theorem shift_four (s : List UInt32) (h : s.length = 4) : shiftS (shiftS (shiftS (shiftS s))) = s := by
  obtain ⟨a, b, c, d, rfl⟩ := four s h
  show [rotl (8 * 0) (rotl (8 * 0) (rotl (8 * 0) (rotl (8 * 0) a))), rotl (8 * 1) (rotl (8 * 1) (rotl (8 * 1) (rotl (8 * 1) b))), rotl (8 * 2) (rotl (8 * 2) (rotl (8 * 2) (rotl (8 * 2) c))), rotl (8 * 3) (rotl (8 * 3) (rotl (8 * 3) (rotl (8 * 3) d)))] = _
  rw [rot_four _ 0 (by decide), rot_four _ 1 (by decide), rot_four _ 2 (by decide), rot_four _ 3 (by decide)]
end Go.Proofs.Ytefbjhdcmgonbaa
