/-
  Plain mathematics, no program: eight bytes in a word of 64 bits, each by itself; the field of 256 elements.
-/
import Derived.WalkKit
namespace Go.Proofs.Ytefbjhdcmgonbaa

/-- The i-th byte of a word, from the lowest on. -/
def lane (i : Nat) (a : BitVec 64) : BitVec 8 := a.extractLsb' (8 * i) 8
theorem lane_bit (i j : Nat) (a : BitVec 64) (hj : j < 8) : (lane i a).getLsbD j = a.getLsbD (8 * i + j) := by
  simp [lane, hj]
theorem lane_ext (x y : BitVec 8) (h : ∀ j, j < 8 → x.getLsbD j = y.getLsbD j) : x = y := BitVec.eq_of_getLsbD_eq (fun j hj => h j hj)
theorem lanes_ext (a b : BitVec 64) (h : ∀ i, i < 8 → lane i a = lane i b) : a = b := by
  apply BitVec.eq_of_getLsbD_eq
  intro k hk
  have := congrArg (fun x => BitVec.getLsbD x (k % 8)) (h (k / 8) (by omega))
  simp only [lane_bit _ _ _ (Nat.mod_lt k (show 0 < 8 by decide))] at this
  rwa [show 8 * (k / 8) + k % 8 = k by omega] at this
theorem lane_and (i : Nat) (a b : BitVec 64) : lane i (a &&& b) = lane i a &&& lane i b :=
  lane_ext _ _ fun j hj => by simp [lane_bit _ _ _ hj]
theorem lane_xor (i : Nat) (a b : BitVec 64) : lane i (a ^^^ b) = lane i a ^^^ lane i b :=
  lane_ext _ _ fun j hj => by simp [lane_bit _ _ _ hj]
theorem lane_or (i : Nat) (a b : BitVec 64) : lane i (a ||| b) = lane i a ||| lane i b :=
  lane_ext _ _ fun j hj => by simp [lane_bit _ _ _ hj]

def ones : BitVec 64 := 0x0101010101010101#64
theorem ones_bit (p : Nat) (hp : p < 64) : ones.getLsbD p = decide (p % 8 = 0) := by
  have h : ∀ q : Fin 64, ones.getLsbD q.val = decide (q.val % 8 = 0) := by decide
  exact h ⟨p, hp⟩
/-- The lowest 8 - s bits of each byte. -/
def stay (s : Nat) : BitVec 64 := BitVec.ofNat 64 (255 / 2 ^ s * 0x0101010101010101)
theorem stay_bit (s p : Nat) (hs : s < 8) (hp : p < 64) : (stay s).getLsbD p = decide (p % 8 < 8 - s) := by
  have h : ∀ t : Fin 8, ∀ q : Fin 64, (stay t.val).getLsbD q.val = decide (q.val % 8 < 8 - t.val) := by decide +kernel
  exact h ⟨s, hs⟩ ⟨p, hp⟩
theorem lane_ones_shl (i k s : Nat) (a : BitVec 64) (hi : i < 8) (hk : k < 8) (hs : s < 8) :
    lane i (((a >>> k) &&& ones) <<< s) = ((lane i a >>> k) &&& 1#8) <<< s := lane_ext _ _ fun j hj => by
  rw [lane_bit _ _ _ hj]
  simp only [BitVec.getLsbD_shiftLeft, BitVec.getLsbD_and, BitVec.getLsbD_ushiftRight]
  by_cases h1 : 8 * i + j < s
  · have : j < s := by omega
    simp [h1, this]
  · have hp : 8 * i + j - s < 64 := by omega
    rw [ones_bit _ hp]
    by_cases h2 : j < s
    · have h3 : ¬ (8 * i + j - s) % 8 = 0 := by omega
      simp [h2, h3]
    · by_cases h4 : j = s
      · subst h4
        have h5 : 8 * i + j - j = 8 * i := by omega
        simp only [h5, Nat.sub_self, Nat.add_zero, lane_bit _ _ _ hk]
        have h6 : (8 * i) % 8 = 0 := by omega
        have h7 : 8 * i + j < 64 := by omega
        have h8 : ¬ 8 * i + j < j := by omega
        simp only [h6, decide_true, Bool.and_true, h7, h8, decide_false, Bool.not_false, Bool.true_and, hj]
        rw [Nat.add_comm (8 * i) k]
        simp
      · have h3 : ¬ (8 * i + j - s) % 8 = 0 := by omega
        have h5 : (1#8).getLsbD (j - s) = false := by simp; omega
        simp [h3, h5]
theorem lane_ones_shr (i k : Nat) (a : BitVec 64) (hi : i < 8) (hk : k < 8) : lane i ((a >>> k) &&& ones) = (lane i a >>> k) &&& 1#8 := by
  have := lane_ones_shl i k 0 a hi hk (by decide)
  simpa using this
theorem lane_stay_shl (i s : Nat) (a : BitVec 64) (hi : i < 8) (hs : s < 8) : lane i ((a &&& stay s) <<< s) = lane i a <<< s := lane_ext _ _ fun j hj => by
  rw [lane_bit _ _ _ hj]
  simp only [BitVec.getLsbD_shiftLeft, BitVec.getLsbD_and]
  by_cases h1 : j < s
  · by_cases h2 : 8 * i + j < s
    · simp [h1, h2]
    · rw [stay_bit s _ hs (by omega)]
      have h3 : ¬ (8 * i + j - s) % 8 < 8 - s := by omega
      simp [h1, h3]
  · rw [stay_bit s _ hs (by omega), lane_bit _ _ _ (by omega)]
    have h2 : ¬ 8 * i + j < s := by omega
    have h3 : (8 * i + j - s) % 8 < 8 - s := by omega
    have h4 : 8 * i + j < 64 := by omega
    have h5 : 8 * i + j - s = 8 * i + (j - s) := by omega
    have h6 : (8 * i + (j - s)) % 8 < 8 - s := by omega
    rw [h5] at h3 ⊢
    simp only [h1, h2, hj, h4, h3, decide_true, decide_false, Bool.not_false, Bool.true_and, Bool.and_true]
theorem lane_go_shr (i s : Nat) (a : BitVec 64) (hi : i < 8) (hs : s < 8) : lane i ((a &&& ~~~(stay s)) >>> (8 - s)) = lane i a >>> (8 - s) := lane_ext _ _ fun j hj => by
  rw [lane_bit _ _ _ hj]
  simp only [BitVec.getLsbD_ushiftRight, BitVec.getLsbD_and, BitVec.getLsbD_not]
  by_cases h1 : 8 - s + j < 8
  · rw [lane_bit _ _ _ h1, stay_bit s _ hs (by omega)]
    have h3 : ¬ (8 - s + (8 * i + j)) % 8 < 8 - s := by omega
    have h4 : 8 - s + (8 * i + j) < 64 := by omega
    have h5 : 8 - s + (8 * i + j) = 8 * i + (8 - s + j) := by omega
    rw [← h5]
    simp [h4]
    intro _
    omega
  · have h6 : (lane i a).getLsbD (8 - s + j) = false := BitVec.getLsbD_of_ge _ _ (by omega)
    rw [h6]
    by_cases h4 : 8 - s + (8 * i + j) < 64
    · rw [stay_bit s _ hs h4]
      have h3 : (8 - s + (8 * i + j)) % 8 < 8 - s := by omega
      simp [h3]
    · simp [h4]
theorem lane_nat (i : Nat) (a : BitVec 64) : (lane i a).toNat = a.toNat / 256 ^ i % 256 := by
  simp [lane, BitVec.extractLsb'_toNat, Nat.shiftRight_eq_div_pow, Nat.pow_mul]
/-- Bits, one a byte, times a byte. -/
theorem lane_mul (i k : Nat) (a : BitVec 64) (hi : i < 8) (hk : k < 256) (h : ∀ j, j < 8 → (lane j a).toNat ≤ 1) :
    lane i (a * BitVec.ofNat 64 k) = lane i a * BitVec.ofNat 8 k := by
  apply BitVec.eq_of_toNat_eq
  rw [lane_nat, BitVec.toNat_mul, BitVec.toNat_mul, lane_nat]
  have hn := a.isLt
  have e0 := h 0 (by decide)
  have e1 := h 1 (by decide)
  have e2 := h 2 (by decide)
  have e3 := h 3 (by decide)
  have e4 := h 4 (by decide)
  have e5 := h 5 (by decide)
  have e6 := h 6 (by decide)
  have e7 := h 7 (by decide)
  simp only [lane_nat] at e0 e1 e2 e3 e4 e5 e6 e7
  generalize a.toNat = n at *
  have hd : ∃ d0 d1 d2 d3 d4 d5 d6 d7 : Nat, d0 ≤ 1 ∧ d1 ≤ 1 ∧ d2 ≤ 1 ∧ d3 ≤ 1 ∧ d4 ≤ 1 ∧ d5 ≤ 1 ∧ d6 ≤ 1 ∧ d7 ≤ 1 ∧ n = d0 + 256 * d1 + 65536 * d2 + 16777216 * d3 + 4294967296 * d4 + 1099511627776 * d5 + 281474976710656 * d6 + 72057594037927936 * d7 := by
    refine ⟨n / 256 ^ 0 % 256, n / 256 ^ 1 % 256, n / 256 ^ 2 % 256, n / 256 ^ 3 % 256, n / 256 ^ 4 % 256, n / 256 ^ 5 % 256, n / 256 ^ 6 % 256, n / 256 ^ 7 % 256, e0, e1, e2, e3, e4, e5, e6, e7, ?_⟩
    simp only [Nat.reducePow, Nat.div_one] at *
    omega
  clear e0 e1 e2 e3 e4 e5 e6 e7 h
  obtain ⟨d0, d1, d2, d3, d4, d5, d6, d7, f0, f1, f2, f3, f4, f5, f6, f7, hs⟩ := hd
  have hp : ∀ d : Nat, d ≤ 1 → d * k ≤ 255 := fun d hd => by
    rcases (by omega : d = 0 ∨ d = 1) with rfl | rfl <;> omega
  have g0 := hp d0 f0
  have g1 := hp d1 f1
  have g2 := hp d2 f2
  have g3 := hp d3 f3
  have g4 := hp d4 f4
  have g5 := hp d5 f5
  have g6 := hp d6 f6
  have g7 := hp d7 f7
  have hm : n * k = d0 * k + 256 * (d1 * k) + 65536 * (d2 * k) + 16777216 * (d3 * k) + 4294967296 * (d4 * k) + 1099511627776 * (d5 * k) + 281474976710656 * (d6 * k) + 72057594037927936 * (d7 * k) := by
    rw [hs]; simp only [Nat.add_mul, Nat.mul_assoc]
  have hk64 : (BitVec.ofNat 64 k).toNat = k := by simp; omega
  have hk8 : (BitVec.ofNat 8 k).toNat = k := by simp; omega
  rw [hk64, hk8, hm]
  clear hp hk64 hk8 hm
  obtain rfl | rfl | rfl | rfl | rfl | rfl | rfl | rfl : i = 0 ∨ i = 1 ∨ i = 2 ∨ i = 3 ∨ i = 4 ∨ i = 5 ∨ i = 6 ∨ i = 7 := by omega
  all_goals simp only [Nat.reducePow, Nat.div_one]
  · rw [show n % 256 = d0 by omega]; clear hs; omega
  · rw [show n / 256 % 256 = d1 by omega]; clear hs; omega
  · rw [show n / 65536 % 256 = d2 by omega]; clear hs; omega
  · rw [show n / 16777216 % 256 = d3 by omega]; clear hs; omega
  · rw [show n / 4294967296 % 256 = d4 by omega]; clear hs; omega
  · rw [show n / 1099511627776 % 256 = d5 by omega]; clear hs; omega
  · rw [show n / 281474976710656 % 256 = d6 by omega]; clear hs; omega
  · rw [show n / 72057594037927936 % 256 = d7 by omega]; clear hs; omega
theorem bit_le (x : BitVec 8) (k : Nat) : ((x >>> k) &&& 1#8).toNat ≤ 1 := by
  rw [BitVec.toNat_and]
  exact Nat.and_le_right
theorem lane_bits_mul (i k c : Nat) (a : BitVec 64) (hi : i < 8) (hk : k < 8) (hc : c < 256) :
    lane i (((a >>> k) &&& ones) * BitVec.ofNat 64 c) = ((lane i a >>> k) &&& 1#8) * BitVec.ofNat 8 c := by
  rw [lane_mul i c _ hi hc (fun j hj => by rw [lane_ones_shr j k a hj hk]; exact bit_le _ _), lane_ones_shr i k a hi hk]

/-! ### The field, eight bytes at once and one by one -/
def dbl64 (a : BitVec 64) : BitVec 64 := ((a &&& stay 1) <<< 1) ^^^ (((a >>> 7) &&& ones) * 0x1b#64)
def dbl8 (x : BitVec 8) : BitVec 8 := (x <<< 1) ^^^ (((x >>> 7) &&& 1#8) * 0x1b#8)
theorem lane_dbl (i : Nat) (a : BitVec 64) (hi : i < 8) : lane i (dbl64 a) = dbl8 (lane i a) := by
  unfold dbl64 dbl8
  rw [lane_xor, lane_stay_shl i 1 a hi (by decide), lane_bits_mul i 7 0x1b a hi (by decide) (by decide)]
/-- The sum, a and b after k of eight rounds. -/
def tm64 (a b : BitVec 64) : Nat → BitVec 64 × BitVec 64
  | 0 => (0#64, a)
  | k + 1 => let p := tm64 a b k; (p.1 ^^^ ((((b >>> k) &&& ones) * 0xff#64) &&& p.2), dbl64 p.2)
def times64 (a b : BitVec 64) : BitVec 64 := (tm64 a b 8).1
def tm8 (x y : BitVec 8) : Nat → BitVec 8 × BitVec 8
  | 0 => (0#8, x)
  | k + 1 => let p := tm8 x y k; (p.1 ^^^ ((((y >>> k) &&& 1#8) * 0xff#8) &&& p.2), dbl8 p.2)
def times8 (x y : BitVec 8) : BitVec 8 := (tm8 x y 8).1
theorem lane_zero (i : Nat) : lane i 0#64 = 0#8 := by simp [lane]
theorem lane_tm (i : Nat) (a b : BitVec 64) (hi : i < 8) (k : Nat) (hk : k ≤ 8) : lane i (tm64 a b k).1 = (tm8 (lane i a) (lane i b) k).1 ∧ lane i (tm64 a b k).2 = (tm8 (lane i a) (lane i b) k).2 := by
  induction k with
  | zero => exact ⟨lane_zero i, rfl⟩
  | succ k ih =>
    obtain ⟨h1, h2⟩ := ih (by omega)
    simp only [tm64, tm8]
    refine ⟨?_, by rw [lane_dbl i _ hi, h2]⟩
    rw [lane_xor, lane_and, h1, h2, lane_bits_mul i k 0xff b hi (by omega) (by decide)]
theorem lane_times (i : Nat) (a b : BitVec 64) (hi : i < 8) : lane i (times64 a b) = times8 (lane i a) (lane i b) := (lane_tm i a b hi 8 (by decide)).1
def sq64 (a : BitVec 64) : BitVec 64 :=
  (((((a &&& ones) ||| (((a >>> 1) &&& ones) <<< 2)) ||| (((a >>> 2) &&& ones) <<< 4)) ||| (((a >>> 3) &&& ones) <<< 6)) ^^^ (((a >>> 4) &&& ones) * 0x1b#64)) ^^^ (((a >>> 5) &&& ones) * 0x6c#64) ^^^ (((a >>> 6) &&& ones) * 0xab#64) ^^^ (((a >>> 7) &&& ones) * 0x9a#64)
def sq8 (x : BitVec 8) : BitVec 8 :=
  (((((x &&& 1#8) ||| (((x >>> 1) &&& 1#8) <<< 2)) ||| (((x >>> 2) &&& 1#8) <<< 4)) ||| (((x >>> 3) &&& 1#8) <<< 6)) ^^^ (((x >>> 4) &&& 1#8) * 0x1b#8)) ^^^ (((x >>> 5) &&& 1#8) * 0x6c#8) ^^^ (((x >>> 6) &&& 1#8) * 0xab#8) ^^^ (((x >>> 7) &&& 1#8) * 0x9a#8)
theorem lane_ones0 (i : Nat) (a : BitVec 64) (hi : i < 8) : lane i (a &&& ones) = lane i a &&& 1#8 := by
  have := lane_ones_shr i 0 a hi (by decide)
  simpa using this
theorem lane_sq (i : Nat) (a : BitVec 64) (hi : i < 8) : lane i (sq64 a) = sq8 (lane i a) := by
  unfold sq64 sq8
  rw [lane_xor, lane_xor, lane_xor, lane_xor, lane_or, lane_or, lane_or, lane_ones0 i a hi, lane_ones_shl i 1 2 a hi (by decide) (by decide), lane_ones_shl i 2 4 a hi (by decide) (by decide), lane_ones_shl i 3 6 a hi (by decide) (by decide),
    lane_bits_mul i 4 0x1b a hi (by decide) (by decide), lane_bits_mul i 5 0x6c a hi (by decide) (by decide), lane_bits_mul i 6 0xab a hi (by decide) (by decide), lane_bits_mul i 7 0x9a a hi (by decide) (by decide)]
def inv64 (a : BitVec 64) : BitVec 64 :=
  let a2 := sq64 a
  let a3 := times64 a2 a
  let a12 := sq64 (sq64 a3)
  let a15 := times64 a12 a3
  let a240 := sq64 (sq64 (sq64 (sq64 a15)))
  times64 a240 (times64 a12 a2)
def inv8 (x : BitVec 8) : BitVec 8 :=
  let a2 := sq8 x
  let a3 := times8 a2 x
  let a12 := sq8 (sq8 a3)
  let a15 := times8 a12 a3
  let a240 := sq8 (sq8 (sq8 (sq8 a15)))
  times8 a240 (times8 a12 a2)
theorem lane_inv (i : Nat) (a : BitVec 64) (hi : i < 8) : lane i (inv64 a) = inv8 (lane i a) := by
  simp only [inv64, inv8, lane_times i _ _ hi, lane_sq i _ hi]
def turn64 (s : Nat) (a : BitVec 64) : BitVec 64 := ((a &&& stay s) <<< s) ||| ((a &&& ~~~(stay s)) >>> (8 - s))
def turn8 (s : Nat) (x : BitVec 8) : BitVec 8 := (x <<< s) ||| (x >>> (8 - s))
theorem lane_turn (i s : Nat) (a : BitVec 64) (hi : i < 8) (hs : s < 8) : lane i (turn64 s a) = turn8 s (lane i a) := by
  unfold turn64 turn8
  rw [lane_or, lane_stay_shl i s a hi hs, lane_go_shr i s a hi hs]
def sub64 (a : BitVec 64) : BitVec 64 := (((((inv64 a ^^^ turn64 1 (inv64 a)) ^^^ turn64 2 (inv64 a)) ^^^ turn64 3 (inv64 a)) ^^^ turn64 4 (inv64 a)) ^^^ 0x6363636363636363#64)
def sub8 (x : BitVec 8) : BitVec 8 := (((((inv8 x ^^^ turn8 1 (inv8 x)) ^^^ turn8 2 (inv8 x)) ^^^ turn8 3 (inv8 x)) ^^^ turn8 4 (inv8 x)) ^^^ 0x63#8)
def res64 (a : BitVec 64) : BitVec 64 := inv64 (((turn64 1 a ^^^ turn64 3 a) ^^^ turn64 6 a) ^^^ 0x0505050505050505#64)
def res8 (x : BitVec 8) : BitVec 8 := inv8 (((turn8 1 x ^^^ turn8 3 x) ^^^ turn8 6 x) ^^^ 0x05#8)
theorem lane_63 : ∀ i : Fin 8, lane i.val 0x6363636363636363#64 = 0x63#8 := by decide
theorem lane_05 : ∀ i : Fin 8, lane i.val 0x0505050505050505#64 = 0x05#8 := by decide
theorem lane_sub (i : Nat) (a : BitVec 64) (hi : i < 8) : lane i (sub64 a) = sub8 (lane i a) := by
  unfold sub64 sub8
  have h := lane_63 ⟨i, hi⟩
  simp only at h
  rw [lane_xor, lane_xor, lane_xor, lane_xor, lane_xor, h, lane_turn i 1 _ hi (by decide), lane_turn i 2 _ hi (by decide), lane_turn i 3 _ hi (by decide), lane_turn i 4 _ hi (by decide), lane_inv i a hi]
theorem lane_res (i : Nat) (a : BitVec 64) (hi : i < 8) : lane i (res64 a) = res8 (lane i a) := by
  unfold res64 res8
  have h := lane_05 ⟨i, hi⟩
  simp only at h
  rw [lane_inv i _ hi, lane_xor, lane_xor, lane_xor, h, lane_turn i 1 _ hi (by decide), lane_turn i 3 _ hi (by decide), lane_turn i 6 _ hi (by decide)]
theorem res_sub8 : ∀ x : Fin 256, res8 (sub8 (BitVec.ofFin x)) = BitVec.ofFin x := by decide +kernel
theorem sub_res8 : ∀ x : Fin 256, sub8 (res8 (BitVec.ofFin x)) = BitVec.ofFin x := by decide +kernel
theorem res_sub (a : BitVec 64) : res64 (sub64 a) = a := lanes_ext _ _ fun i hi => by
  rw [lane_res i _ hi, lane_sub i _ hi]; exact res_sub8 (lane i a).toFin
theorem sub_res (a : BitVec 64) : sub64 (res64 a) = a := lanes_ext _ _ fun i hi => by
  rw [lane_sub i _ hi, lane_res i _ hi]; exact sub_res8 (lane i a).toFin
theorem and_xor8 (a b c : BitVec 8) : (a ^^^ b) &&& c = (a &&& c) ^^^ (b &&& c) := lane_ext _ _ fun j hj => by simp [Bool.and_xor_distrib_right]
theorem dbl8_xor (x y : BitVec 8) : dbl8 (x ^^^ y) = dbl8 x ^^^ dbl8 y := by
  have hm : ∀ u v : BitVec 8, u.toNat ≤ 1 → v.toNat ≤ 1 → (u ^^^ v) * 0x1b#8 = (u * 0x1b#8) ^^^ (v * 0x1b#8) := by
    have h : ∀ u v : Fin 2, (BitVec.ofNat 8 u.val ^^^ BitVec.ofNat 8 v.val) * 0x1b#8 = (BitVec.ofNat 8 u.val * 0x1b#8) ^^^ (BitVec.ofNat 8 v.val * 0x1b#8) := by decide
    intro u v hu hv
    have := h ⟨u.toNat, by omega⟩ ⟨v.toNat, by omega⟩
    simpa using this
  unfold dbl8
  rw [BitVec.shiftLeft_xor_distrib, BitVec.ushiftRight_xor_distrib, and_xor8, hm _ _ (bit_le _ _) (bit_le _ _)]
  ac_rfl
theorem dbl64_xor (a b : BitVec 64) : dbl64 (a ^^^ b) = dbl64 a ^^^ dbl64 b := lanes_ext _ _ fun i hi => by
  rw [lane_xor, lane_dbl i _ hi, lane_dbl i _ hi, lane_dbl i _ hi, lane_xor, dbl8_xor]
end Go.Proofs.Ytefbjhdcmgonbaa
