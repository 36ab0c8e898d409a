/-
  Mb.
-/
import Derived.Test.YtnkikhnllnbhfaaDoorMs
namespace Go.Proofs.YtnkikhnllnbhfaaDoor
open Go.RowKit
/-- So many bytes of a group of eight, as a number. -/
def grp (bs : List UInt8) (q : Nat) : Nat → Nat
  | 0 => 0
  | r + 1 => grp bs q r * 256 + (bs.getD (8 * q + r) 0).toNat
theorem grp_lt (bs : List UInt8) (q : Nat) : ∀ r, grp bs q r < 256 ^ r
  | 0 => by
    show (0 : Nat) < 256 ^ 0
    decide
  | r + 1 => by
    have h1 := grp_lt bs q r
    have h2 := (bs.getD (8 * q + r) 0).toNat_lt
    show grp bs q r * 256 + (bs.getD (8 * q + r) 0).toNat < 256 ^ (r + 1)
    rw [Nat.pow_succ]
    omega
theorem limb_setLimb (x : P4) (k m v : Nat) (hk : k < 4) (hm : m < 4) : (x.setLimb k v).limb m = if m = k then v else x.limb m := by
  obtain rfl | rfl | rfl | rfl : k = 0 ∨ k = 1 ∨ k = 2 ∨ k = 3 := by omega
  all_goals (obtain rfl | rfl | rfl | rfl : m = 0 ∨ m = 1 ∨ m = 2 ∨ m = 3 := by omega)
  all_goals rfl
theorem push_grp (bs : List UInt8) (q r : Nat) (hr : r < 8) : pushB (grp bs q r) (bs.getD (8 * q + r) 0) = grp bs q (r + 1) := by
  have h1 := grp_lt bs q r
  have h2 : 256 ^ r ≤ 256 ^ 7 := Nat.pow_le_pow_right (by decide) (by omega)
  have h3 : (256 : Nat) ^ 7 = 72057594037927936 := by decide
  unfold pushB
  show _ = grp bs q r * 256 + (bs.getD (8 * q + r) 0).toNat
  rw [Nat.mod_eq_of_lt (by omega)]
theorem ofTo_limb (bs : List UInt8) : ∀ k, k ≤ 32 → ∀ m, m < 4 → (ofTo bs k).limb m = grp bs (3 - m) (min 8 (k - 8 * (3 - m)))
  | 0, _, m, hm => by
    rw [show min 8 (0 - 8 * (3 - m)) = 0 by omega]
    obtain rfl | rfl | rfl | rfl : m = 0 ∨ m = 1 ∨ m = 2 ∨ m = 3 := by omega
    all_goals rfl
  | k + 1, hk, m, hm => by
    have ih := ofTo_limb bs k (by omega)
    show ((ofTo bs k).setLimb (3 - k / 8) (pushB ((ofTo bs k).limb (3 - k / 8)) (bs.getD k 0))).limb m = _
    rw [limb_setLimb _ _ _ _ (by omega) hm]
    by_cases h : m = 3 - k / 8
    · rw [if_pos h, ← h, ih m hm]
      have e1 : min 8 (k - 8 * (3 - m)) = k % 8 := by omega
      have e2 : min 8 (k + 1 - 8 * (3 - m)) = k % 8 + 1 := by omega
      rw [e1, e2, ← push_grp bs (3 - m) (k % 8) (by omega)]
      congr 2
      omega
    · rw [if_neg h, ih m hm]
      congr 1
      omega
theorem grp_byte (bs : List UInt8) (q r : Nat) (hr : r < 8) : grp bs q 8 / 2 ^ (56 - r * 8) % 256 = (bs.getD (8 * q + r) 0).toNat := by
  have e : grp bs q 8 = (((((((((0 * 256 + (bs.getD (8 * q + 0) 0).toNat) * 256 + (bs.getD (8 * q + 1) 0).toNat) * 256 + (bs.getD (8 * q + 2) 0).toNat) * 256 + (bs.getD (8 * q + 3) 0).toNat) * 256 + (bs.getD (8 * q + 4) 0).toNat) * 256 + (bs.getD (8 * q + 5) 0).toNat) * 256 + (bs.getD (8 * q + 6) 0).toNat) * 256 + (bs.getD (8 * q + 7) 0).toNat)) := rfl
  rw [e]
  have h0 := (bs.getD (8 * q + 0) 0).toNat_lt
  have h1 := (bs.getD (8 * q + 1) 0).toNat_lt
  have h2 := (bs.getD (8 * q + 2) 0).toNat_lt
  have h3 := (bs.getD (8 * q + 3) 0).toNat_lt
  have h4 := (bs.getD (8 * q + 4) 0).toNat_lt
  have h5 := (bs.getD (8 * q + 5) 0).toNat_lt
  have h6 := (bs.getD (8 * q + 6) 0).toNat_lt
  have h7 := (bs.getD (8 * q + 7) 0).toNat_lt
  obtain rfl | rfl | rfl | rfl | rfl | rfl | rfl | rfl : r = 0 ∨ r = 1 ∨ r = 2 ∨ r = 3 ∨ r = 4 ∨ r = 5 ∨ r = 6 ∨ r = 7 := by omega
  all_goals (generalize (bs.getD (8 * q + 0) 0).toNat = b0 at *; generalize (bs.getD (8 * q + 1) 0).toNat = b1 at *; generalize (bs.getD (8 * q + 2) 0).toNat = b2 at *; generalize (bs.getD (8 * q + 3) 0).toNat = b3 at *; generalize (bs.getD (8 * q + 4) 0).toNat = b4 at *; generalize (bs.getD (8 * q + 5) 0).toNat = b5 at *; generalize (bs.getD (8 * q + 6) 0).toNat = b6 at *; generalize (bs.getD (8 * q + 7) 0).toNat = b7 at *; simp only [Nat.reducePow, Nat.reduceMul, Nat.reduceSub]; omega)
theorem byteP_of (bs : List UInt8) (k : Nat) (hk : k < 32) : byteP (ofTo bs 32) k = bs.getD k 0 := by
  unfold byteP
  have h := ofTo_limb bs 32 (by omega) (3 - k / 8) (by omega)
  rw [h, show 3 - (3 - k / 8) = k / 8 by omega, show min 8 (32 - 8 * (k / 8)) = 8 by omega]
  have g := grp_byte bs (k / 8) (k % 8) (by omega)
  rw [show 8 * (k / 8) + k % 8 = k by omega] at g
  apply UInt8.toNat_inj.1
  rw [UInt8.toNat_ofNat']
  exact g
theorem bsTo_getD (x : P4) : ∀ k, k ≤ 32 → ∀ i, i < 32 → (bsTo x k).getD i 0 = if i < k then byteP x i else 0
  | 0, _, i, hi => by
    rw [if_neg (by omega)]
    show (List.replicate 32 (0 : UInt8)).getD i 0 = 0
    rw [List.getD_eq_getElem?_getD, List.getElem?_replicate, if_pos hi]
    rfl
  | k + 1, hk, i, hi => by
    have ih := bsTo_getD x k (by omega) i hi
    have hl := bsTo_length x k
    show ((bsTo x k).set k (byteP x k)).getD i 0 = _
    rw [List.getD_eq_getElem?_getD, List.getElem?_set]
    by_cases h : k = i
    · subst h
      rw [if_pos rfl, if_pos (by omega), if_pos (by omega)]
      rfl
    · rw [if_neg h, ← List.getD_eq_getElem?_getD, ih]
      by_cases h2 : i < k
      · rw [if_pos h2, if_pos (by omega)]
      · rw [if_neg h2, if_neg (by omega)]
theorem getD_ext {xs ys : List UInt8} (hl : xs.length = ys.length) (h : ∀ i, i < xs.length → xs.getD i 0 = ys.getD i 0) : xs = ys := by
  apply List.ext_getElem hl
  intro i h1 h2
  have := h i h1
  rw [List.getD_eq_getElem?_getD, List.getD_eq_getElem?_getD, List.getElem?_eq_getElem h1, List.getElem?_eq_getElem h2] at this
  exact this
/-- The bytes of a number that was made of bytes are these. -/
theorem bytes_of (bs : List UInt8) (hl : bs.length = 32) : bsTo (ofTo bs 32) 32 = bs := by
  have h := bsTo_length (ofTo bs 32) 32
  refine getD_ext (by omega) fun i hi => ?_
  rw [bsTo_getD _ 32 (by omega) i (by omega), if_pos (by omega), byteP_of bs i (by omega)]
/-- The number that is made of a number's bytes is it. -/
theorem of_bytes {x : P4} (hx : x.ok) : ofTo (bsTo x 32) 32 = x := by
  have key : ∀ m, m < 4 → (ofTo (bsTo x 32) 32).limb m = x.limb m := by
    intro m hm
    rw [ofTo_limb _ 32 (by omega) m hm, show min 8 (32 - 8 * (3 - m)) = 8 by omega]
    have hb : ∀ r, r < 8 → ((bsTo x 32).getD (8 * (3 - m) + r) 0).toNat = x.limb m / 2 ^ (56 - r * 8) % 256 := by
      intro r hr
      rw [bsTo_getD x 32 (by omega) _ (by omega), if_pos (by omega)]
      unfold byteP
      rw [UInt8.toNat_ofNat', show 3 - (8 * (3 - m) + r) / 8 = m by omega, show (8 * (3 - m) + r) % 8 = r by omega]
    have hlt := limb_lt hx m
    have b0 := hb 0 (by omega)
    have b1 := hb 1 (by omega)
    have b2 := hb 2 (by omega)
    have b3 := hb 3 (by omega)
    have b4 := hb 4 (by omega)
    have b5 := hb 5 (by omega)
    have b6 := hb 6 (by omega)
    have b7 := hb 7 (by omega)
    show (((((((((0 * 256 + ((bsTo x 32).getD (8 * (3 - m) + 0) 0).toNat) * 256 + ((bsTo x 32).getD (8 * (3 - m) + 1) 0).toNat) * 256 + ((bsTo x 32).getD (8 * (3 - m) + 2) 0).toNat) * 256 + ((bsTo x 32).getD (8 * (3 - m) + 3) 0).toNat) * 256 + ((bsTo x 32).getD (8 * (3 - m) + 4) 0).toNat) * 256 + ((bsTo x 32).getD (8 * (3 - m) + 5) 0).toNat) * 256 + ((bsTo x 32).getD (8 * (3 - m) + 6) 0).toNat) * 256 + ((bsTo x 32).getD (8 * (3 - m) + 7) 0).toNat)) = x.limb m
    rw [b0, b1, b2, b3, b4, b5, b6, b7]
    generalize x.limb m = l at *
    simp only [Nat.reducePow, Nat.reduceMul, Nat.reduceSub] at *
    omega
  exact P4.ext4 (key 0 (by decide)) (key 1 (by decide)) (key 2 (by decide)) (key 3 (by decide))
/-- A bit of the bytes is the number's. -/
theorem bit_of (bs : List UInt8) (i : Nat) (hi : i < 256) : (bs.getD (31 - i / 8) 0).toNat / 2 ^ (i % 8) % 2 = bitP (ofTo bs 32) i := by
  have h := byteP_of bs (31 - i / 8) (by omega)
  rw [← h]
  unfold byteP bitP
  rw [UInt8.toNat_ofNat', show 3 - (31 - i / 8) / 8 = i / 64 by omega, show 56 - (31 - i / 8) % 8 * 8 = 8 * (i / 8 % 8) by omega]
  generalize (ofTo bs 32).limb (i / 64) = l
  rw [show i % 64 = 8 * (i / 8 % 8) + i % 8 by omega, Nat.pow_add, ← Nat.div_div_eq_div_mul]
  generalize l / 2 ^ (8 * (i / 8 % 8)) = m
  have hc : i % 8 < 8 := by omega
  generalize i % 8 = c at *
  obtain rfl | rfl | rfl | rfl | rfl | rfl | rfl | rfl : c = 0 ∨ c = 1 ∨ c = 2 ∨ c = 3 ∨ c = 4 ∨ c = 5 ∨ c = 6 ∨ c = 7 := by omega
  all_goals (simp only [Nat.reducePow]; omega)

end Go.Proofs.YtnkikhnllnbhfaaDoor
