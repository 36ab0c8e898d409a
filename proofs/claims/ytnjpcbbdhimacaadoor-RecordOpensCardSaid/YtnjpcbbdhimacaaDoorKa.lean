/-
 Joined: Lane, Bf, Bs, Bs2.
-/
import Derived.WalkKit
import Derived.Test.YtnjpcbbdhimacaaDoorProg
import Derived.Laws.BitsAllLaws
import Derived.Deep.QuietTactic
import Derived.BigQuiet
import Derived.Lib.Hide
import Derived.Test.YtnjpcbbdhimacaaDoorJa
import Derived.Test.YtnjpcbbdhimacaaDoorJb
namespace Go.Proofs.YtnjpcbbdhimacaaDoor
section
/-- The i-th byte of a word, from the lowest on. -/
def lane (i : Nat) (a : BitVec 64) : BitVec 8 := a.extractLsb' (8 * i) 8
theorem lane_bit (i j : Nat) (a : BitVec 64) (hj : j < 8) : (lane i a).getLsbD j = a.getLsbD (8 * i + j) := by
 simp [lane, hj]
theorem lane_ext (x y : BitVec 8) (h : ∀ j, j < 8 → x.getLsbD j = y.getLsbD j) : x = y := BitVec.eq_of_getLsbD_eq (fun j hj => h j hj)
theorem lanes_ext (a b : BitVec 64) (h : ∀ i, i < 8 → lane i a = lane i b) : a = b := by
 apply BitVec.eq_of_getLsbD_eq
 intro k hk
 have := congrArg (fun x => BitVec.getLsbD x (k % 8)) (h (k / 8) (by omega))
 simp only [lane_bit _ _ _ (Nat.mod_lt k (show 0 < 8 by decide))] at this
 rwa [show 8 * (k / 8) + k % 8 = k by omega] at this
theorem lane_and (i : Nat) (a b : BitVec 64) : lane i (a &&& b) = lane i a &&& lane i b :=
 lane_ext _ _ fun j hj => by simp [lane_bit _ _ _ hj]
theorem lane_xor (i : Nat) (a b : BitVec 64) : lane i (a ^^^ b) = lane i a ^^^ lane i b :=
 lane_ext _ _ fun j hj => by simp [lane_bit _ _ _ hj]
theorem lane_or (i : Nat) (a b : BitVec 64) : lane i (a ||| b) = lane i a ||| lane i b :=
 lane_ext _ _ fun j hj => by simp [lane_bit _ _ _ hj]

def ones : BitVec 64 := 0x0101010101010101#64
theorem ones_bit (p : Nat) (hp : p < 64) : ones.getLsbD p = decide (p % 8 = 0) := by
 have h : ∀ q : Fin 64, ones.getLsbD q.val = decide (q.val % 8 = 0) := by decide
 exact h ⟨p, hp⟩
/-- The lowest 8 - s bits of each byte. -/
def stay (s : Nat) : BitVec 64 := BitVec.ofNat 64 (255 / 2 ^ s * 0x0101010101010101)
theorem stay_bit (s p : Nat) (hs : s < 8) (hp : p < 64) : (stay s).getLsbD p = decide (p % 8 < 8 - s) := by
 have h : ∀ t : Fin 8, ∀ q : Fin 64, (stay t.val).getLsbD q.val = decide (q.val % 8 < 8 - t.val) := by decide +kernel
 exact h ⟨s, hs⟩ ⟨p, hp⟩
theorem lane_ones_shl (i k s : Nat) (a : BitVec 64) (hi : i < 8) (hk : k < 8) (hs : s < 8) :
  lane i (((a >>> k) &&& ones) <<< s) = ((lane i a >>> k) &&& 1#8) <<< s := lane_ext _ _ fun j hj => by
 rw [lane_bit _ _ _ hj]
 simp only [BitVec.getLsbD_shiftLeft, BitVec.getLsbD_and, BitVec.getLsbD_ushiftRight]
 by_cases h1 : 8 * i + j < s
 ·
  have : j < s := by omega
  simp [h1, this]
 ·
  have hp : 8 * i + j - s < 64 := by omega
  rw [ones_bit _ hp]
  by_cases h2 : j < s
  ·
   have h3 : ¬ (8 * i + j - s) % 8 = 0 := by omega
   simp [h2, h3]
  ·
   by_cases h4 : j = s
   ·
    subst h4
    have h5 : 8 * i + j - j = 8 * i := by omega
    simp only [h5, Nat.sub_self, Nat.add_zero, lane_bit _ _ _ hk]
    have h6 : (8 * i) % 8 = 0 := by omega
    have h7 : 8 * i + j < 64 := by omega
    have h8 : ¬ 8 * i + j < j := by omega
    simp only [h6, decide_true, Bool.and_true, h7, h8, decide_false, Bool.not_false, Bool.true_and, hj]
    rw [Nat.add_comm (8 * i) k]
    simp
   ·
    have h3 : ¬ (8 * i + j - s) % 8 = 0 := by omega
    have h5 : (1#8).getLsbD (j - s) = false := by simp; omega
    simp [h3, h5]
theorem lane_ones_shr (i k : Nat) (a : BitVec 64) (hi : i < 8) (hk : k < 8) : lane i ((a >>> k) &&& ones) = (lane i a >>> k) &&& 1#8 := by
 have := lane_ones_shl i k 0 a hi hk (by decide)
 simpa using this
theorem lane_stay_shl (i s : Nat) (a : BitVec 64) (hi : i < 8) (hs : s < 8) : lane i ((a &&& stay s) <<< s) = lane i a <<< s := lane_ext _ _ fun j hj => by
 rw [lane_bit _ _ _ hj]
 simp only [BitVec.getLsbD_shiftLeft, BitVec.getLsbD_and]
 by_cases h1 : j < s
 ·
  by_cases h2 : 8 * i + j < s
  ·
   simp [h1, h2]
  ·
   rw [stay_bit s _ hs (by omega)]
   have h3 : ¬ (8 * i + j - s) % 8 < 8 - s := by omega
   simp [h1, h3]
 ·
  rw [stay_bit s _ hs (by omega), lane_bit _ _ _ (by omega)]
  have h2 : ¬ 8 * i + j < s := by omega
  have h3 : (8 * i + j - s) % 8 < 8 - s := by omega
  have h4 : 8 * i + j < 64 := by omega
  have h5 : 8 * i + j - s = 8 * i + (j - s) := by omega
  have h6 : (8 * i + (j - s)) % 8 < 8 - s := by omega
  rw [h5] at h3 ⊢
  simp only [h1, h2, hj, h4, h3, decide_true, decide_false, Bool.not_false, Bool.true_and, Bool.and_true]
theorem lane_go_shr (i s : Nat) (a : BitVec 64) (hi : i < 8) (hs : s < 8) : lane i ((a &&& ~~~(stay s)) >>> (8 - s)) = lane i a >>> (8 - s) := lane_ext _ _ fun j hj => by
 rw [lane_bit _ _ _ hj]
 simp only [BitVec.getLsbD_ushiftRight, BitVec.getLsbD_and, BitVec.getLsbD_not]
 by_cases h1 : 8 - s + j < 8
 ·
  rw [lane_bit _ _ _ h1, stay_bit s _ hs (by omega)]
  have h3 : ¬ (8 - s + (8 * i + j)) % 8 < 8 - s := by omega
  have h4 : 8 - s + (8 * i + j) < 64 := by omega
  have h5 : 8 - s + (8 * i + j) = 8 * i + (8 - s + j) := by omega
  rw [← h5]
  simp [h4]
  intro _
  omega
 ·
  have h6 : (lane i a).getLsbD (8 - s + j) = false := BitVec.getLsbD_of_ge _ _ (by omega)
  rw [h6]
  by_cases h4 : 8 - s + (8 * i + j) < 64
  ·
   rw [stay_bit s _ hs h4]
   have h3 : (8 - s + (8 * i + j)) % 8 < 8 - s := by omega
   simp [h3]
  ·
   simp [h4]
theorem lane_nat (i : Nat) (a : BitVec 64) : (lane i a).toNat = a.toNat / 256 ^ i % 256 := by
 simp [lane, BitVec.extractLsb'_toNat, Nat.shiftRight_eq_div_pow, Nat.pow_mul]
/-- Bits, one a byte, times a byte. -/
theorem lane_mul (i k : Nat) (a : BitVec 64) (hi : i < 8) (hk : k < 256) (h : ∀ j, j < 8 → (lane j a).toNat ≤ 1) :
  lane i (a * BitVec.ofNat 64 k) = lane i a * BitVec.ofNat 8 k := by
 apply BitVec.eq_of_toNat_eq
 rw [lane_nat, BitVec.toNat_mul, BitVec.toNat_mul, lane_nat]
 have hn := a.isLt
 have e0 := h 0 (by decide)
 have e1 := h 1 (by decide)
 have e2 := h 2 (by decide)
 have e3 := h 3 (by decide)
 have e4 := h 4 (by decide)
 have e5 := h 5 (by decide)
 have e6 := h 6 (by decide)
 have e7 := h 7 (by decide)
 simp only [lane_nat] at e0 e1 e2 e3 e4 e5 e6 e7
 generalize a.toNat = n at *
 have hd : ∃ d0 d1 d2 d3 d4 d5 d6 d7 : Nat, d0 ≤ 1 ∧ d1 ≤ 1 ∧ d2 ≤ 1 ∧ d3 ≤ 1 ∧ d4 ≤ 1 ∧ d5 ≤ 1 ∧ d6 ≤ 1 ∧ d7 ≤ 1 ∧ n = d0 + 256 * d1 + 65536 * d2 + 16777216 * d3 + 4294967296 * d4 + 1099511627776 * d5 + 281474976710656 * d6 + 72057594037927936 * d7 := by
  refine ⟨n / 256 ^ 0 % 256, n / 256 ^ 1 % 256, n / 256 ^ 2 % 256, n / 256 ^ 3 % 256, n / 256 ^ 4 % 256, n / 256 ^ 5 % 256, n / 256 ^ 6 % 256, n / 256 ^ 7 % 256, e0, e1, e2, e3, e4, e5, e6, e7, ?_⟩
  simp only [Nat.reducePow, Nat.div_one] at *
  omega
 clear e0 e1 e2 e3 e4 e5 e6 e7 h
 obtain ⟨d0, d1, d2, d3, d4, d5, d6, d7, f0, f1, f2, f3, f4, f5, f6, f7, hs⟩ := hd
 have hp : ∀ d : Nat, d ≤ 1 → d * k ≤ 255 := fun d hd => by
  rcases (by omega : d = 0 ∨ d = 1) with rfl | rfl <;> omega
 have g0 := hp d0 f0
 have g1 := hp d1 f1
 have g2 := hp d2 f2
 have g3 := hp d3 f3
 have g4 := hp d4 f4
 have g5 := hp d5 f5
 have g6 := hp d6 f6
 have g7 := hp d7 f7
 have hm : n * k = d0 * k + 256 * (d1 * k) + 65536 * (d2 * k) + 16777216 * (d3 * k) + 4294967296 * (d4 * k) + 1099511627776 * (d5 * k) + 281474976710656 * (d6 * k) + 72057594037927936 * (d7 * k) := by
  rw [hs]; simp only [Nat.add_mul, Nat.mul_assoc]
 have hk64 : (BitVec.ofNat 64 k).toNat = k := by simp; omega
 have hk8 : (BitVec.ofNat 8 k).toNat = k := by simp; omega
 rw [hk64, hk8, hm]
 clear hp hk64 hk8 hm
 obtain rfl | rfl | rfl | rfl | rfl | rfl | rfl | rfl : i = 0 ∨ i = 1 ∨ i = 2 ∨ i = 3 ∨ i = 4 ∨ i = 5 ∨ i = 6 ∨ i = 7 := by omega
 all_goals simp only [Nat.reducePow, Nat.div_one]
 ·
  rw [show n % 256 = d0 by omega]; clear hs; omega
 ·
  rw [show n / 256 % 256 = d1 by omega]; clear hs; omega
 ·
  rw [show n / 65536 % 256 = d2 by omega]; clear hs; omega
 ·
  rw [show n / 16777216 % 256 = d3 by omega]; clear hs; omega
 ·
  rw [show n / 4294967296 % 256 = d4 by omega]; clear hs; omega
 ·
  rw [show n / 1099511627776 % 256 = d5 by omega]; clear hs; omega
 ·
  rw [show n / 281474976710656 % 256 = d6 by omega]; clear hs; omega
 ·
  rw [show n / 72057594037927936 % 256 = d7 by omega]; clear hs; omega
theorem bit_le (x : BitVec 8) (k : Nat) : ((x >>> k) &&& 1#8).toNat ≤ 1 := by
 rw [BitVec.toNat_and]
 exact Nat.and_le_right
theorem lane_bits_mul (i k c : Nat) (a : BitVec 64) (hi : i < 8) (hk : k < 8) (hc : c < 256) :
  lane i (((a >>> k) &&& ones) * BitVec.ofNat 64 c) = ((lane i a >>> k) &&& 1#8) * BitVec.ofNat 8 c := by
 rw [lane_mul i c _ hi hc (fun j hj => by rw [lane_ones_shr j k a hj hk]; exact bit_le _ _), lane_ones_shr i k a hi hk]

/-! ### The field, eight bytes at once and one by one -/
def dbl64 (a : BitVec 64) : BitVec 64 := ((a &&& stay 1) <<< 1) ^^^ (((a >>> 7) &&& ones) * 0x1b#64)
def dbl8 (x : BitVec 8) : BitVec 8 := (x <<< 1) ^^^ (((x >>> 7) &&& 1#8) * 0x1b#8)
theorem lane_dbl (i : Nat) (a : BitVec 64) (hi : i < 8) : lane i (dbl64 a) = dbl8 (lane i a) := by
 unfold dbl64 dbl8
 rw [lane_xor, lane_stay_shl i 1 a hi (by decide), lane_bits_mul i 7 0x1b a hi (by decide) (by decide)]
/-- The sum, a and b after k of eight rounds. -/
def tm64 (a b : BitVec 64) : Nat → BitVec 64 × BitVec 64
 | 0 => (0#64, a)
 | k + 1 => let p := tm64 a b k; (p.1 ^^^ ((((b >>> k) &&& ones) * 0xff#64) &&& p.2), dbl64 p.2)
def times64 (a b : BitVec 64) : BitVec 64 := (tm64 a b 8).1
def tm8 (x y : BitVec 8) : Nat → BitVec 8 × BitVec 8
 | 0 => (0#8, x)
 | k + 1 => let p := tm8 x y k; (p.1 ^^^ ((((y >>> k) &&& 1#8) * 0xff#8) &&& p.2), dbl8 p.2)
def times8 (x y : BitVec 8) : BitVec 8 := (tm8 x y 8).1
theorem lane_zero (i : Nat) : lane i 0#64 = 0#8 := by simp [lane]
theorem lane_tm (i : Nat) (a b : BitVec 64) (hi : i < 8) (k : Nat) (hk : k ≤ 8) : lane i (tm64 a b k).1 = (tm8 (lane i a) (lane i b) k).1 ∧ lane i (tm64 a b k).2 = (tm8 (lane i a) (lane i b) k).2 := by
 induction k with
 | zero => exact ⟨lane_zero i, rfl⟩
 | succ k ih =>
  obtain ⟨h1, h2⟩ := ih (by omega)
  simp only [tm64, tm8]
  refine ⟨?_, by rw [lane_dbl i _ hi, h2]⟩
  rw [lane_xor, lane_and, h1, h2, lane_bits_mul i k 0xff b hi (by omega) (by decide)]
theorem lane_times (i : Nat) (a b : BitVec 64) (hi : i < 8) : lane i (times64 a b) = times8 (lane i a) (lane i b) := (lane_tm i a b hi 8 (by decide)).1
def sq64 (a : BitVec 64) : BitVec 64 :=
 (((((a &&& ones) ||| (((a >>> 1) &&& ones) <<< 2)) ||| (((a >>> 2) &&& ones) <<< 4)) ||| (((a >>> 3) &&& ones) <<< 6)) ^^^ (((a >>> 4) &&& ones) * 0x1b#64)) ^^^ (((a >>> 5) &&& ones) * 0x6c#64) ^^^ (((a >>> 6) &&& ones) * 0xab#64) ^^^ (((a >>> 7) &&& ones) * 0x9a#64)
def sq8 (x : BitVec 8) : BitVec 8 :=
 (((((x &&& 1#8) ||| (((x >>> 1) &&& 1#8) <<< 2)) ||| (((x >>> 2) &&& 1#8) <<< 4)) ||| (((x >>> 3) &&& 1#8) <<< 6)) ^^^ (((x >>> 4) &&& 1#8) * 0x1b#8)) ^^^ (((x >>> 5) &&& 1#8) * 0x6c#8) ^^^ (((x >>> 6) &&& 1#8) * 0xab#8) ^^^ (((x >>> 7) &&& 1#8) * 0x9a#8)
theorem lane_ones0 (i : Nat) (a : BitVec 64) (hi : i < 8) : lane i (a &&& ones) = lane i a &&& 1#8 := by
 have := lane_ones_shr i 0 a hi (by decide)
 simpa using this
theorem lane_sq (i : Nat) (a : BitVec 64) (hi : i < 8) : lane i (sq64 a) = sq8 (lane i a) := by
 unfold sq64 sq8
 rw [lane_xor, lane_xor, lane_xor, lane_xor, lane_or, lane_or, lane_or, lane_ones0 i a hi, lane_ones_shl i 1 2 a hi (by decide) (by decide), lane_ones_shl i 2 4 a hi (by decide) (by decide), lane_ones_shl i 3 6 a hi (by decide) (by decide),
  lane_bits_mul i 4 0x1b a hi (by decide) (by decide), lane_bits_mul i 5 0x6c a hi (by decide) (by decide), lane_bits_mul i 6 0xab a hi (by decide) (by decide), lane_bits_mul i 7 0x9a a hi (by decide) (by decide)]
def inv64 (a : BitVec 64) : BitVec 64 :=
 let a2 := sq64 a
 let a3 := times64 a2 a
 let a12 := sq64 (sq64 a3)
 let a15 := times64 a12 a3
 let a240 := sq64 (sq64 (sq64 (sq64 a15)))
 times64 a240 (times64 a12 a2)
def inv8 (x : BitVec 8) : BitVec 8 :=
 let a2 := sq8 x
 let a3 := times8 a2 x
 let a12 := sq8 (sq8 a3)
 let a15 := times8 a12 a3
 let a240 := sq8 (sq8 (sq8 (sq8 a15)))
 times8 a240 (times8 a12 a2)
theorem lane_inv (i : Nat) (a : BitVec 64) (hi : i < 8) : lane i (inv64 a) = inv8 (lane i a) := by
 simp only [inv64, inv8, lane_times i _ _ hi, lane_sq i _ hi]
def turn64 (s : Nat) (a : BitVec 64) : BitVec 64 := ((a &&& stay s) <<< s) ||| ((a &&& ~~~(stay s)) >>> (8 - s))
def turn8 (s : Nat) (x : BitVec 8) : BitVec 8 := (x <<< s) ||| (x >>> (8 - s))
theorem lane_turn (i s : Nat) (a : BitVec 64) (hi : i < 8) (hs : s < 8) : lane i (turn64 s a) = turn8 s (lane i a) := by
 unfold turn64 turn8
 rw [lane_or, lane_stay_shl i s a hi hs, lane_go_shr i s a hi hs]
def sub64 (a : BitVec 64) : BitVec 64 := (((((inv64 a ^^^ turn64 1 (inv64 a)) ^^^ turn64 2 (inv64 a)) ^^^ turn64 3 (inv64 a)) ^^^ turn64 4 (inv64 a)) ^^^ 0x6363636363636363#64)
def sub8 (x : BitVec 8) : BitVec 8 := (((((inv8 x ^^^ turn8 1 (inv8 x)) ^^^ turn8 2 (inv8 x)) ^^^ turn8 3 (inv8 x)) ^^^ turn8 4 (inv8 x)) ^^^ 0x63#8)
def res64 (a : BitVec 64) : BitVec 64 := inv64 (((turn64 1 a ^^^ turn64 3 a) ^^^ turn64 6 a) ^^^ 0x0505050505050505#64)
def res8 (x : BitVec 8) : BitVec 8 := inv8 (((turn8 1 x ^^^ turn8 3 x) ^^^ turn8 6 x) ^^^ 0x05#8)
theorem lane_63 : ∀ i : Fin 8, lane i.val 0x6363636363636363#64 = 0x63#8 := by decide
theorem lane_05 : ∀ i : Fin 8, lane i.val 0x0505050505050505#64 = 0x05#8 := by decide
theorem lane_sub (i : Nat) (a : BitVec 64) (hi : i < 8) : lane i (sub64 a) = sub8 (lane i a) := by
 unfold sub64 sub8
 have h := lane_63 ⟨i, hi⟩
 simp only at h
 rw [lane_xor, lane_xor, lane_xor, lane_xor, lane_xor, h, lane_turn i 1 _ hi (by decide), lane_turn i 2 _ hi (by decide), lane_turn i 3 _ hi (by decide), lane_turn i 4 _ hi (by decide), lane_inv i a hi]
theorem lane_res (i : Nat) (a : BitVec 64) (hi : i < 8) : lane i (res64 a) = res8 (lane i a) := by
 unfold res64 res8
 have h := lane_05 ⟨i, hi⟩
 simp only at h
 rw [lane_inv i _ hi, lane_xor, lane_xor, lane_xor, h, lane_turn i 1 _ hi (by decide), lane_turn i 3 _ hi (by decide), lane_turn i 6 _ hi (by decide)]
theorem res_sub8 : ∀ x : Fin 256, res8 (sub8 (BitVec.ofFin x)) = BitVec.ofFin x := by decide +kernel
theorem sub_res8 : ∀ x : Fin 256, sub8 (res8 (BitVec.ofFin x)) = BitVec.ofFin x := by decide +kernel
theorem res_sub (a : BitVec 64) : res64 (sub64 a) = a := lanes_ext _ _ fun i hi => by
 rw [lane_res i _ hi, lane_sub i _ hi]; exact res_sub8 (lane i a).toFin
theorem sub_res (a : BitVec 64) : sub64 (res64 a) = a := lanes_ext _ _ fun i hi => by
 rw [lane_sub i _ hi, lane_res i _ hi]; exact sub_res8 (lane i a).toFin
theorem and_xor8 (a b c : BitVec 8) : (a ^^^ b) &&& c = (a &&& c) ^^^ (b &&& c) := lane_ext _ _ fun j hj => by simp [Bool.and_xor_distrib_right]
theorem dbl8_xor (x y : BitVec 8) : dbl8 (x ^^^ y) = dbl8 x ^^^ dbl8 y := by
 have hm : ∀ u v : BitVec 8, u.toNat ≤ 1 → v.toNat ≤ 1 → (u ^^^ v) * 0x1b#8 = (u * 0x1b#8) ^^^ (v * 0x1b#8) := by
  have h : ∀ u v : Fin 2, (BitVec.ofNat 8 u.val ^^^ BitVec.ofNat 8 v.val) * 0x1b#8 = (BitVec.ofNat 8 u.val * 0x1b#8) ^^^ (BitVec.ofNat 8 v.val * 0x1b#8) := by decide
  intro u v hu hv
  have := h ⟨u.toNat, by omega⟩ ⟨v.toNat, by omega⟩
  simpa using this
 unfold dbl8
 rw [BitVec.shiftLeft_xor_distrib, BitVec.ushiftRight_xor_distrib, and_xor8, hm _ _ (bit_le _ _) (bit_le _ _)]
 ac_rfl
theorem dbl64_xor (a b : BitVec 64) : dbl64 (a ^^^ b) = dbl64 a ^^^ dbl64 b := lanes_ext _ _ fun i hi => by
 rw [lane_xor, lane_dbl i _ hi, lane_dbl i _ hi, lane_dbl i _ hi, lane_xor, dbl8_xor]

end
section
open Go.RowKit
theorem q_and (a b : BitVec 64) : bits .and .u64 (a.toNat : Int) (b.toNat : Int) = ((a &&& b).toNat : Int) := by
 rw [u64_and_nat _ _ (by have := a.isLt; omega) (by have := b.isLt; omega), BitVec.toNat_and]
theorem q_or (a b : BitVec 64) : bits .or .u64 (a.toNat : Int) (b.toNat : Int) = ((a ||| b).toNat : Int) := by
 rw [u64_or_nat _ _ (by have := a.isLt; omega) (by have := b.isLt; omega), BitVec.toNat_or]
theorem q_xor (a b : BitVec 64) : bits .xor .u64 (a.toNat : Int) (b.toNat : Int) = ((a ^^^ b).toNat : Int) := by
 rw [u64_xor_nat _ _ (by have := a.isLt; omega) (by have := b.isLt; omega), BitVec.toNat_xor]
theorem q_andn (a b : BitVec 64) : bits .andNot .u64 (a.toNat : Int) (b.toNat : Int) = ((a &&& ~~~b).toNat : Int) := by
 rw [u64_andNot_nat _ _ (by have := a.isLt; omega) (by have := b.isLt; omega), BitVec.toNat_and, BitVec.toNat_not]
theorem q_wrap (n : Nat) : IntKind.u64.wrap (n : Int) = ((n % 18446744073709551616 : Nat) : Int) := by
 rw [IntKind.wrap_u64]; omega
theorem q_shl (a : BitVec 64) (n : Nat) : IntKind.u64.wrap ((a.toNat : Int) * ((2 ^ n : Nat) : Int)) = ((a <<< n).toNat : Int) := by
 rw [← Int.natCast_mul, q_wrap, BitVec.toNat_shiftLeft, Nat.shiftLeft_eq]
theorem q_shr (a : BitVec 64) (n : Nat) : (a.toNat : Int) / ((2 ^ n : Nat) : Int) = ((a >>> n).toNat : Int) := by
 rw [BitVec.toNat_ushiftRight, Nat.shiftRight_eq_div_pow]; rfl
theorem q_mul (a b : BitVec 64) : IntKind.u64.wrap ((a.toNat : Int) * (b.toNat : Int)) = ((a * b).toNat : Int) := by
 rw [← Int.natCast_mul, q_wrap, BitVec.toNat_mul]
theorem q_ones (a : BitVec 64) : bits .and .u64 (a.toNat : Int) 72340172838076673 = ((a &&& ones).toNat : Int) := q_and a ones
theorem q_63 (a : BitVec 64) : bits .xor .u64 (a.toNat : Int) (7161677110969590627 : Int) = ((a ^^^ 0x6363636363636363#64).toNat : Int) := q_xor a 0x6363636363636363#64
theorem q_05 (a : BitVec 64) : bits .xor .u64 (a.toNat : Int) (361700864190383365 : Int) = ((a ^^^ 0x0505050505050505#64).toNat : Int) := q_xor a 0x0505050505050505#64
theorem q_stay1 (a : BitVec 64) : bits .and .u64 (a.toNat : Int) 9187201950435737471 = ((a &&& stay 1).toNat : Int) := q_and a (stay 1)
theorem q_shl1 (a : BitVec 64) : IntKind.u64.wrap ((a.toNat : Int) * (2 : Int)) = ((a <<< 1).toNat : Int) := q_shl a 1
theorem q_shl2 (a : BitVec 64) : IntKind.u64.wrap ((a.toNat : Int) * (4 : Int)) = ((a <<< 2).toNat : Int) := q_shl a 2
theorem q_shl4 (a : BitVec 64) : IntKind.u64.wrap ((a.toNat : Int) * (16 : Int)) = ((a <<< 4).toNat : Int) := q_shl a 4
theorem q_shl6 (a : BitVec 64) : IntKind.u64.wrap ((a.toNat : Int) * (64 : Int)) = ((a <<< 6).toNat : Int) := q_shl a 6
theorem q_shr1 (a : BitVec 64) : (a.toNat : Int) / (2 : Int) = ((a >>> 1).toNat : Int) := q_shr a 1
theorem q_shr2 (a : BitVec 64) : (a.toNat : Int) / (4 : Int) = ((a >>> 2).toNat : Int) := q_shr a 2
theorem q_shr3 (a : BitVec 64) : (a.toNat : Int) / (8 : Int) = ((a >>> 3).toNat : Int) := q_shr a 3
theorem q_shr4 (a : BitVec 64) : (a.toNat : Int) / (16 : Int) = ((a >>> 4).toNat : Int) := q_shr a 4
theorem q_shr5 (a : BitVec 64) : (a.toNat : Int) / (32 : Int) = ((a >>> 5).toNat : Int) := q_shr a 5
theorem q_shr6 (a : BitVec 64) : (a.toNat : Int) / (64 : Int) = ((a >>> 6).toNat : Int) := q_shr a 6
theorem q_shr7 (a : BitVec 64) : (a.toNat : Int) / (128 : Int) = ((a >>> 7).toNat : Int) := q_shr a 7
theorem q_mul27 (a : BitVec 64) : IntKind.u64.wrap ((a.toNat : Int) * (27 : Int)) = ((a * 27#64).toNat : Int) := q_mul a 27#64
theorem q_mul108 (a : BitVec 64) : IntKind.u64.wrap ((a.toNat : Int) * (108 : Int)) = ((a * 108#64).toNat : Int) := q_mul a 108#64
theorem q_mul171 (a : BitVec 64) : IntKind.u64.wrap ((a.toNat : Int) * (171 : Int)) = ((a * 171#64).toNat : Int) := q_mul a 171#64
theorem q_mul154 (a : BitVec 64) : IntKind.u64.wrap ((a.toNat : Int) * (154 : Int)) = ((a * 154#64).toNat : Int) := q_mul a 154#64
theorem q_mul255 (a : BitVec 64) : IntKind.u64.wrap ((a.toNat : Int) * (255 : Int)) = ((a * 255#64).toNat : Int) := q_mul a 255#64
set_option maxRecDepth 100000 in
set_option maxHeartbeats 1000000 in
theorem doubled_any (x : BitVec 64) (w : World) : Calls Tryd.prog 75 #[.int .u64 (x.toNat : Int)] w fun e w' => e = .returned (.int .u64 ((dbl64 x).toNat : Int)) ∧ w' = w := by
 go_enter Tryd.func75, Tryd.ntmps75
 go_wp2
 go_ret
 refine ⟨?_, rfl⟩
 simp only [q_stay1, q_shl1, q_shr7, q_ones, q_mul27, q_xor]
 rfl
set_option maxRecDepth 100000 in
set_option maxHeartbeats 1000000 in
theorem squared_any (x : BitVec 64) (w : World) : Calls Tryd.prog 91 #[.int .u64 (x.toNat : Int)] w fun e w' => e = .returned (.int .u64 ((sq64 x).toNat : Int)) ∧ w' = w := by
 go_enter Tryd.func91, Tryd.ntmps91
 go_wp2
 go_ret
 refine ⟨?_, rfl⟩
 simp only [q_ones, q_or, q_xor, q_shl2, q_shl4, q_shl6, q_shr1, q_shr2, q_shr3, q_shr4, q_shr5, q_shr6, q_shr7, q_mul27, q_mul108, q_mul171, q_mul154]
 rfl
set_option maxRecDepth 100000 in
set_option maxHeartbeats 1000000 in
theorem times_any (x y : BitVec 64) (w : World) : Calls Tryd.prog 92 #[.int .u64 (x.toNat : Int), .int .u64 (y.toNat : Int)] w fun e w' => e = .returned (.int .u64 ((times64 x y).toNat : Int)) ∧ w' = w := by
 go_enter Tryd.func92, Tryd.ntmps92
 go_wp2
 go_loopw [0, 1, 5, 6] (fun av bv sv iv wr => ∃ k : Nat, k ≤ 8 ∧ iv = .int .i64 (k : Int) ∧ av = .int .u64 ((tm64 x y k).2.toNat : Int) ∧ bv = .int .u64 ((y >>> k).toNat : Int) ∧ sv = .int .u64 ((tm64 x y k).1.toNat : Int) ∧ wr = w) (fun _ _ _ i _ => 8 - (intOf i).toNat)
 case atStart => exact ⟨0, by omega, rfl, rfl, rfl, rfl, rfl⟩
 case round =>
  obtain ⟨k, hk, rfl, rfl, rfl, rfl, rfl⟩ := hrel
  by_cases hlt : k < 8
  ·
   have hd : decide ((k : Int) < 8) = true := by simp; omega
   have e1 : (tm64 x y (k + 1)).1 = (tm64 x y k).1 ^^^ ((((y >>> k) &&& ones) * 0xff#64) &&& (tm64 x y k).2) := rfl
   have e2 : (tm64 x y (k + 1)).2 = dbl64 (tm64 x y k).2 := rfl
   have e3 : y >>> (k + 1) = (y >>> k) >>> 1 := BitVec.shiftRight_add y k 1
   generalize (tm64 x y k).1 = s at *
   generalize (tm64 x y k).2 = a at *
   generalize y >>> k = b at *
   have E1 := Lib.hid e1
   have E2 := Lib.hid e2
   have E3 := Lib.hid e3
   clear e1 e2 e3
   have hdb := doubled_any a
   go_wp2_with (refine (hdb _).mono ?_; rintro e w1 ⟨rfl, hw1⟩; subst hw1)
   go_roundw
   case rel =>
    refine ⟨k + 1, by omega, by go_num, by rw [E2.out], by rw [E3.out, ← q_shr1], ?_, trivial⟩
    rw [E1.out]
    simp only [q_ones, q_mul255, q_and, q_xor]
   case measure => simp [intOf]; omega
  ·
   have hd : decide ((k : Int) < 8) = false := by simp; omega
   obtain rfl : k = 8 := by omega
   go_wp2
   go_ret
   exact ⟨rfl, rfl⟩
set_option maxRecDepth 100000 in
set_option maxHeartbeats 1000000 in
theorem inverse_any (x : BitVec 64) (w : World) : Calls Tryd.prog 76 #[.int .u64 (x.toNat : Int)] w fun e w' => e = .returned (.int .u64 ((inv64 x).toNat : Int)) ∧ w' = w := by
 go_enter Tryd.func76, Tryd.ntmps76
 go_wp2_with (first
  | (go_at_call 91; refine (squared_any _ _).mono ?_; rintro e w1 ⟨rfl, hw1⟩; subst hw1)
  | (go_at_call 92; refine (times_any _ _ _).mono ?_; rintro e w1 ⟨rfl, hw1⟩; subst hw1))
 go_ret
 exact ⟨rfl, rfl⟩
set_option maxRecDepth 100000 in
set_option maxHeartbeats 1000000 in
theorem turned_1 (x : BitVec 64) (w : World) : Calls Tryd.prog 77 #[.int .u64 (x.toNat : Int), .int .i64 1] w fun e w' => e = .returned (.int .u64 ((turn64 1 x).toNat : Int)) ∧ ∃ k, w' = w.drewN k := by
 have h1 : bits .and .u64 (x.toNat : Int) (9187201950435737471 : Int) = ((x &&& stay 1).toNat : Int) := q_and x (stay 1)
 have h2 : bits .andNot .u64 (x.toNat : Int) (9187201950435737471 : Int) = ((x &&& ~~~(stay 1)).toNat : Int) := q_andn x (stay 1)
 have h3 : IntKind.u64.wrap (((x &&& stay 1).toNat : Int) * (2 : Int)) = (((x &&& stay 1) <<< 1).toNat : Int) := q_shl _ 1
 have h4 : ((x &&& ~~~(stay 1)).toNat : Int) / (128 : Int) = (((x &&& ~~~(stay 1)) >>> (8 - 1)).toNat : Int) := q_shr _ (8 - 1)
 have h5 := q_or ((x &&& stay 1) <<< 1) ((x &&& ~~~(stay 1)) >>> (8 - 1))
 have H5 : Hid (turn64 1 x = ((x &&& stay 1) <<< 1) ||| ((x &&& ~~~(stay 1)) >>> (8 - 1))) := Lib.hid rfl
 generalize x &&& stay 1 = u at *
 generalize x &&& ~~~(stay 1) = v at *
 generalize u <<< 1 = u1 at *
 generalize v >>> (8 - 1) = v1 at *
 go_enter Tryd.func77, Tryd.ntmps77
 go_wp2
 go_quiet (fail)
 go_wp2
 go_ret
 refine ⟨?_, _, rfl⟩
 rw [H5.out, BitVec.toNat_or]
 rfl
set_option maxRecDepth 100000 in
set_option maxHeartbeats 1000000 in
theorem turned_2 (x : BitVec 64) (w : World) : Calls Tryd.prog 77 #[.int .u64 (x.toNat : Int), .int .i64 2] w fun e w' => e = .returned (.int .u64 ((turn64 2 x).toNat : Int)) ∧ ∃ k, w' = w.drewN k := by
 have h1 : bits .and .u64 (x.toNat : Int) (4557430888798830399 : Int) = ((x &&& stay 2).toNat : Int) := q_and x (stay 2)
 have h2 : bits .andNot .u64 (x.toNat : Int) (4557430888798830399 : Int) = ((x &&& ~~~(stay 2)).toNat : Int) := q_andn x (stay 2)
 have h3 : IntKind.u64.wrap (((x &&& stay 2).toNat : Int) * (4 : Int)) = (((x &&& stay 2) <<< 2).toNat : Int) := q_shl _ 2
 have h4 : ((x &&& ~~~(stay 2)).toNat : Int) / (64 : Int) = (((x &&& ~~~(stay 2)) >>> (8 - 2)).toNat : Int) := q_shr _ (8 - 2)
 have h5 := q_or ((x &&& stay 2) <<< 2) ((x &&& ~~~(stay 2)) >>> (8 - 2))
 have H5 : Hid (turn64 2 x = ((x &&& stay 2) <<< 2) ||| ((x &&& ~~~(stay 2)) >>> (8 - 2))) := Lib.hid rfl
 generalize x &&& stay 2 = u at *
 generalize x &&& ~~~(stay 2) = v at *
 generalize u <<< 2 = u1 at *
 generalize v >>> (8 - 2) = v1 at *
 go_enter Tryd.func77, Tryd.ntmps77
 go_wp2
 go_quiet (fail)
 go_wp2
 go_ret
 refine ⟨?_, _, rfl⟩
 rw [H5.out, BitVec.toNat_or]
 rfl
set_option maxRecDepth 100000 in
set_option maxHeartbeats 1000000 in
theorem turned_3 (x : BitVec 64) (w : World) : Calls Tryd.prog 77 #[.int .u64 (x.toNat : Int), .int .i64 3] w fun e w' => e = .returned (.int .u64 ((turn64 3 x).toNat : Int)) ∧ ∃ k, w' = w.drewN k := by
 have h1 : bits .and .u64 (x.toNat : Int) (2242545357980376863 : Int) = ((x &&& stay 3).toNat : Int) := q_and x (stay 3)
 have h2 : bits .andNot .u64 (x.toNat : Int) (2242545357980376863 : Int) = ((x &&& ~~~(stay 3)).toNat : Int) := q_andn x (stay 3)
 have h3 : IntKind.u64.wrap (((x &&& stay 3).toNat : Int) * (8 : Int)) = (((x &&& stay 3) <<< 3).toNat : Int) := q_shl _ 3
 have h4 : ((x &&& ~~~(stay 3)).toNat : Int) / (32 : Int) = (((x &&& ~~~(stay 3)) >>> (8 - 3)).toNat : Int) := q_shr _ (8 - 3)
 have h5 := q_or ((x &&& stay 3) <<< 3) ((x &&& ~~~(stay 3)) >>> (8 - 3))
 have H5 : Hid (turn64 3 x = ((x &&& stay 3) <<< 3) ||| ((x &&& ~~~(stay 3)) >>> (8 - 3))) := Lib.hid rfl
 generalize x &&& stay 3 = u at *
 generalize x &&& ~~~(stay 3) = v at *
 generalize u <<< 3 = u1 at *
 generalize v >>> (8 - 3) = v1 at *
 go_enter Tryd.func77, Tryd.ntmps77
 go_wp2
 go_quiet (fail)
 go_wp2
 go_ret
 refine ⟨?_, _, rfl⟩
 rw [H5.out, BitVec.toNat_or]
 rfl
set_option maxRecDepth 100000 in
set_option maxHeartbeats 1000000 in
theorem turned_4 (x : BitVec 64) (w : World) : Calls Tryd.prog 77 #[.int .u64 (x.toNat : Int), .int .i64 4] w fun e w' => e = .returned (.int .u64 ((turn64 4 x).toNat : Int)) ∧ ∃ k, w' = w.drewN k := by
 have h1 : bits .and .u64 (x.toNat : Int) (1085102592571150095 : Int) = ((x &&& stay 4).toNat : Int) := q_and x (stay 4)
 have h2 : bits .andNot .u64 (x.toNat : Int) (1085102592571150095 : Int) = ((x &&& ~~~(stay 4)).toNat : Int) := q_andn x (stay 4)
 have h3 : IntKind.u64.wrap (((x &&& stay 4).toNat : Int) * (16 : Int)) = (((x &&& stay 4) <<< 4).toNat : Int) := q_shl _ 4
 have h4 : ((x &&& ~~~(stay 4)).toNat : Int) / (16 : Int) = (((x &&& ~~~(stay 4)) >>> (8 - 4)).toNat : Int) := q_shr _ (8 - 4)
 have h5 := q_or ((x &&& stay 4) <<< 4) ((x &&& ~~~(stay 4)) >>> (8 - 4))
 have H5 : Hid (turn64 4 x = ((x &&& stay 4) <<< 4) ||| ((x &&& ~~~(stay 4)) >>> (8 - 4))) := Lib.hid rfl
 generalize x &&& stay 4 = u at *
 generalize x &&& ~~~(stay 4) = v at *
 generalize u <<< 4 = u1 at *
 generalize v >>> (8 - 4) = v1 at *
 go_enter Tryd.func77, Tryd.ntmps77
 go_wp2
 go_quiet (fail)
 go_wp2
 go_ret
 refine ⟨?_, _, rfl⟩
 rw [H5.out, BitVec.toNat_or]
 rfl
set_option maxRecDepth 100000 in
set_option maxHeartbeats 1000000 in
theorem turned_6 (x : BitVec 64) (w : World) : Calls Tryd.prog 77 #[.int .u64 (x.toNat : Int), .int .i64 6] w fun e w' => e = .returned (.int .u64 ((turn64 6 x).toNat : Int)) ∧ ∃ k, w' = w.drewN k := by
 have h1 : bits .and .u64 (x.toNat : Int) (217020518514230019 : Int) = ((x &&& stay 6).toNat : Int) := q_and x (stay 6)
 have h2 : bits .andNot .u64 (x.toNat : Int) (217020518514230019 : Int) = ((x &&& ~~~(stay 6)).toNat : Int) := q_andn x (stay 6)
 have h3 : IntKind.u64.wrap (((x &&& stay 6).toNat : Int) * (64 : Int)) = (((x &&& stay 6) <<< 6).toNat : Int) := q_shl _ 6
 have h4 : ((x &&& ~~~(stay 6)).toNat : Int) / (4 : Int) = (((x &&& ~~~(stay 6)) >>> (8 - 6)).toNat : Int) := q_shr _ (8 - 6)
 have h5 := q_or ((x &&& stay 6) <<< 6) ((x &&& ~~~(stay 6)) >>> (8 - 6))
 have H5 : Hid (turn64 6 x = ((x &&& stay 6) <<< 6) ||| ((x &&& ~~~(stay 6)) >>> (8 - 6))) := Lib.hid rfl
 generalize x &&& stay 6 = u at *
 generalize x &&& ~~~(stay 6) = v at *
 generalize u <<< 6 = u1 at *
 generalize v >>> (8 - 6) = v1 at *
 go_enter Tryd.func77, Tryd.ntmps77
 go_wp2
 go_quiet (fail)
 go_wp2
 go_ret
 refine ⟨?_, _, rfl⟩
 rw [H5.out, BitVec.toNat_or]
 rfl
set_option maxRecDepth 100000 in
set_option maxHeartbeats 1000000 in
theorem substituted_any (x : BitVec 64) (w : World) : Calls Tryd.prog 51 #[.int .u64 (x.toNat : Int)] w fun e w' => e = .returned (.int .u64 ((sub64 x).toNat : Int)) ∧ ∃ k, w' = w.drewN k := by
 go_enter Tryd.func51, Tryd.ntmps51
 go_wp2_with (first
  | (go_at_call 76; with_reducible refine (inverse_any _ _).mono ?_; rintro e w1 ⟨rfl, hw1⟩; subst hw1; generalize hz : inv64 x = z)
  | (go_at_call 77; with_reducible refine (turned_1 _ _).mono ?_; rintro e w1 ⟨rfl, k1, hw1⟩; subst hw1)
  | (go_at_call 77; with_reducible refine (turned_2 _ _).mono ?_; rintro e w1 ⟨rfl, k1, hw1⟩; subst hw1)
  | (go_at_call 77; with_reducible refine (turned_3 _ _).mono ?_; rintro e w1 ⟨rfl, k1, hw1⟩; subst hw1)
  | (go_at_call 77; with_reducible refine (turned_4 _ _).mono ?_; rintro e w1 ⟨rfl, k1, hw1⟩; subst hw1)
  | (go_at_call 77; with_reducible refine (turned_6 _ _).mono ?_; rintro e w1 ⟨rfl, k1, hw1⟩; subst hw1))
 go_ret
 refine ⟨?_, _, rfl⟩
 have hs : sub64 x = (((((z ^^^ turn64 1 z) ^^^ turn64 2 z) ^^^ turn64 3 z) ^^^ turn64 4 z) ^^^ 0x6363636363636363#64) := by rw [← hz]; rfl
 rw [hs]
 simp only [q_xor, q_63]
 rfl
end
section
open Go.RowKit
/-- One place more of a row that is being made. -/
theorem set_to {α : Type} (X L : List α) (k : Nat) (d : α) (hX : k < X.length) (hL : k < L.length) : (X.take k ++ L.drop k).set k (X.getD k d) = X.take (k + 1) ++ L.drop (k + 1) := by
 have h1 : (X.take k).length = k := by rw [List.length_take]; omega
 rw [List.set_append_right _ _ (by omega), h1, Nat.sub_self, List.drop_eq_getElem_cons hL, List.set_cons_zero]
 have e : List.take (k + 1) X = List.take k X ++ [X.getD k d] := by
  rw [List.take_succ_eq_append_getElem hX]; simp [List.getD_eq_getElem?_getD, List.getElem?_eq_getElem hX]
 rw [e]; simp
theorem get_to {α : Type} (X L : List α) (k : Nat) (d : α) (hX : k ≤ X.length) : (X.take k ++ L.drop k).getD k d = L.getD k d := by
 have h1 : (X.take k).length = k := by rw [List.length_take]; omega
 rw [List.getD_eq_getElem?_getD, List.getElem?_append_right (by omega), h1, Nat.sub_self, List.getElem?_drop, Nat.add_zero, ← List.getD_eq_getElem?_getD]
theorem len_to {α : Type} (X L : List α) (k : Nat) (hX : k ≤ X.length) (hl : X.length = L.length) : (X.take k ++ L.drop k).length = L.length := by
 simp; omega

theorem index_words (n : Nat) (t : TypeId) (L : List UInt32) (hL : L.length = n) (ht : Tryd.prog.underlying t = some (.array n 92)) (k : Nat) (hk : k < n) (W : World) :
  (Instr.index t (.agg (L.map U32).toArray) (.int .i64 (k : Int))).run Tryd.prog W = .ok (.int .u32 (L.getD k 0).toNat) W := by
 simp [Instr.index, asIntOf, run_underlying ht, part, isAgg, run_underlying Tryd.underlying92, List.getD_eq_getElem?_getD, List.getElem?_eq_getElem (show k < L.length by omega)]
 intro h
 omega
theorem infoStB : (Tryd.prog.info? 94).map (·.size) = some 4 := by kernel_rfl
theorem infoBk : (Tryd.prog.info? 56).map (·.size) = some 16 := by kernel_rfl
abbrev SV (s : List UInt32) : Value := .agg (s.map U32).toArray
abbrev BV (b : List UInt8) : Value := .agg (b.map B8).toArray
def zero4 : List UInt32 := [0, 0, 0, 0]

/-- Two states put together. -/
def plusS (s t : List UInt32) : List UInt32 := List.zipWith (· ^^^ ·) s t
theorem plusS_length {s t : List UInt32} (hs : s.length = 4) (ht : t.length = 4) : (plusS s t).length = 4 := by simp [plusS, hs, ht]
theorem plusS_get {s t : List UInt32} (hs : s.length = 4) (ht : t.length = 4) (k : Nat) (hk : k < 4) : (plusS s t).getD k 0 = s.getD k 0 ^^^ t.getD k 0 := by
 simp [plusS, List.getD_eq_getElem?_getD, List.getElem?_eq_getElem (show k < s.length by omega), List.getElem?_eq_getElem (show k < t.length by omega), List.getElem?_eq_getElem (show k < (List.zipWith (· ^^^ ·) s t).length by simp; omega)]
set_option maxRecDepth 100000 in
set_option maxHeartbeats 1000000 in
theorem plus_any (s t : List UInt32) (hs : s.length = 4) (ht : t.length = 4) (w : World) :
  Calls Tryd.prog 49 #[SV s, SV t] w fun e w' => e = .returned (SV (plusS s t)) ∧ Below w.heap.size w w' := by
 have HS := Lib.hid hs
 have HT := Lib.hid ht
 have hpl := plusS_length hs ht
 have hpg := plusS_get hs ht
 obtain ⟨X, hX⟩ : ∃ X, X = plusS s t := ⟨_, rfl⟩
 rw [← hX] at hpl hpg ⊢
 have HPL := Lib.hid hpl
 have HPG := Lib.hid hpg
 clear hs ht hpl hpg hX
 have hz : ∀ W : World, (zeroValue 94).run Tryd.prog W = .ok (SV zero4) W := fun W => by kernel_rfl
 go_enter Tryd.func49, Tryd.ntmps49
 go_wp2_with (refine wpList_load_blk rfl 94 (.tmp 3) rfl (w.heap.size + 1) rfl 94 _ _ ((Blk.new2_of w _ 94 _ (t.map U32) (by rfl)).alloc _) Tryd.underlying94 rfl (infoStB.trans (by rw [List.length_map, HT.out])) ?_)
 go_loopw [8] (fun i wr => ∃ k : Nat, k ≤ 4 ∧ i = .int .i64 (k : Int) ∧ Blk wr w.heap.size 94 ((X.take k ++ s.drop k).map U32) ∧ Blk wr (w.heap.size + 1 + 1) 94 (zero4.map U32) ∧ Below w.heap.size w wr) (fun i _ => 4 - (intOf i).toNat)
 case atStart => exact ⟨0, by omega, rfl, ((Blk.new_of w 94 _ (s.map U32) (by rfl)).alloc _).alloc _, Blk.new3_of w _ _ _ _ _ (by rfl), (((Below.refl _ _).alloc (Nat.le_refl _) _).alloc (by simp) _).alloc (by simp; omega) _⟩
 case round =>
  obtain ⟨k, hk, rfl, hB, hZ, hbl⟩ := hrel
  by_cases hlt : k < 4
  ·
   have hd : decide ((k : Int) < 4) = true := by simp; omega
   have hix := index_words 4 94 t HT.out Tryd.underlying94 k hlt
   have hlen := len_to X s k (by rw [HPL.out]; omega) (by rw [HPL.out, HS.out])
   have hc := hB.at32 k (by rw [hlen, HS.out]; omega)
   rw [get_to X s k 0 (by rw [HPL.out]; omega)] at hc
   have hf := hB.frozen k
   have hx : bits .xor .u32 ((s.getD k 0).toNat : Int) ((t.getD k 0).toNat : Int) = ((X.getD k 0).toNat : Int) := by rw [w_xor, HPG.out k hlt]
   have hst := set_to X s k 0 (by rw [HPL.out]; omega) (by rw [HS.out]; omega)
   generalize s.getD k 0 = x1 at *
   generalize t.getD k 0 = x2 at *
   generalize X.getD k 0 = x3 at *
   have HST := Lib.hid hst
   clear hst hlen
   generalize X.take k ++ s.drop k = L at *
   go_wp2
   go_roundw
   case rel =>
    refine ⟨k + 1, by omega, by go_num, ?_, hZ.far (show w.heap.size + 1 + 1 ≠ w.heap.size by omega) _, hbl.setCell (by simp) _⟩
    rw [← HST.out, ← map_set32]
    exact hB.set_ k _
   case measure => simp [intOf]; omega
  ·
   have hd : decide ((k : Int) < 4) = false := by simp; omega
   obtain rfl : k = 4 := by omega
   rw [List.take_of_length_le (by rw [HPL.out]; omega), List.drop_eq_nil_of_le (by rw [HS.out]; omega), List.append_nil] at hB
   go_wp2_with (first
    | (refine wpList_load_blk rfl 94 (.tmp 2) rfl w.heap.size rfl 94 _ _ hB Tryd.underlying94 rfl (infoStB.trans (by rw [List.length_map, HPL.out])) ?_)
    | (refine wpList_store_blk rfl 94 (.tmp 4) (.tmp 19) rfl rfl (w.heap.size + 1 + 1) _ rfl rfl 94 _ hZ (infoStB.trans (by rw [List.length_map, HPL.out])) (by rw [List.length_map, List.length_map, HPL.out]; rfl) (one32 _) ?_; intro w2 hA2 hg2))
   refine bodyPost_ret (v := .agg _) (results_cell_row rfl _ _ (w.heap.size + 1 + 1) 94 _ (0, 0) _ rfl hA2.raw Tryd.underlying94 rfl (infoStB.trans (by rw [List.size_toArray, List.length_map, HPL.out]))) rfl ⟨rfl, below_new hbl hg2 (by omega) hbl.size⟩

end
section
open Go.RowKit
/-- A block as rows, after k of its bytes. -/
def stTo (b : List UInt8) : Nat → List UInt32
 | 0 => zero4
 | k + 1 => (stTo b k).set (k % 4) (((stTo b k).getD (k % 4) 0 <<< 8) ||| (b.getD k 0).toUInt32)
theorem stTo_length (b : List UInt8) (k : Nat) : (stTo b k).length = 4 := by
 induction k with
 | zero => rfl
 | succ k ih => rw [stTo, List.length_set, ih]
def stateS (b : List UInt8) : List UInt32 := stTo b 16
theorem stateS_length (b : List UInt8) : (stateS b).length = 4 := stTo_length b 16
theorem w_shl8' (x : UInt32) : IntKind.u32.wrap ((x.toNat : Int) * (256 : Int)) = ((x <<< 8).toNat : Int) := by
 rw [IntKind.wrap_u32]; exact w_shl8 x
theorem w_u8 (b : UInt8) : IntKind.u32.wrap (b.toNat : Int) = ((b.toUInt32).toNat : Int) := by
 rw [IntKind.wrap_u32]; exact u8_mod b
theorem tmod4 (k : Nat) : (k : Int).tmod 4 = ((k % 4 : Nat) : Int) := by rw [Int.tmod_eq_emod_of_nonneg (by omega)]; omega
set_option maxRecDepth 100000 in
set_option maxHeartbeats 1000000 in
theorem stateOf_any (b : List UInt8) (hb : b.length = 16) (w : World) :
  Calls Tryd.prog 48 #[BV b] w fun e w' => e = .returned (SV (stateS b)) ∧ Below w.heap.size w w' := by
 have HB := Lib.hid hb
 clear hb
 have hz : ∀ W : World, (zeroValue 94).run Tryd.prog W = .ok (SV zero4) W := fun W => by kernel_rfl
 go_enter Tryd.func48, Tryd.ntmps48
 go_wp2_with (refine wpList_load_blk rfl 56 (.tmp 1) rfl w.heap.size rfl 56 _ _ (((Blk.new_of w 56 _ (b.map B8) (by rfl)).alloc _).alloc _) Tryd.underlying56 rfl (infoBk.trans (by rw [List.length_map, HB.out])) ?_)
 go_loopw [7] (fun i wr => ∃ k : Nat, k ≤ 16 ∧ i = .int .i64 (k : Int) ∧ Blk wr (w.heap.size + 1 + 1) 94 ((stTo b k).map U32) ∧ Blk wr (w.heap.size + 1) 94 (zero4.map U32) ∧ Below w.heap.size w wr) (fun i _ => 16 - (intOf i).toNat)
 case atStart => exact ⟨0, by omega, rfl, Blk.new3_of w _ _ _ _ _ (by rfl), (Blk.new2_of w _ _ _ _ (by rfl)).alloc _, (((Below.refl _ _).alloc (Nat.le_refl _) _).alloc (by simp) _).alloc (by simp; omega) _⟩
 case round =>
  obtain ⟨k, hk, rfl, hB, hZ, hbl⟩ := hrel
  by_cases hlt : k < 16
  ·
   have hd : decide ((k : Int) < 16) = true := by simp; omega
   have hix := index_bytes 16 56 b HB.out Tryd.underlying56 k hlt
   have hl := stTo_length b k
   have e : stTo b (k + 1) = (stTo b k).set (k % 4) (((stTo b k).getD (k % 4) 0 <<< 8) ||| (b.getD k 0).toUInt32) := rfl
   have hm := tmod4 k
   have hr4 : k % 4 < 4 := Nat.mod_lt _ (by decide)
   obtain ⟨r, hr⟩ : ∃ r, r = k % 4 := ⟨_, rfl⟩
   rw [← hr] at e hm hr4
   have hc := hB.at32 r (by rw [hl]; exact hr4)
   have hf := hB.frozen r
   generalize b.getD k 0 = x1 at *
   generalize (stTo b k).getD r 0 = x2 at *
   have HE := Lib.hid e
   have h1 := w_shl8 x2
   have h1' := w_shl8' x2
   have h2 := u8_mod x1
   have h2' := w_u8 x1
   have h3 := w_or (x2 <<< 8) x1.toUInt32
   have hr1 : (r : Int) < 4 := by omega
   have hr0 : (0 : Int) ≤ (r : Int) := by omega
   generalize stTo b k = L at *
   generalize x2 <<< 8 = x3 at *
   generalize x1.toUInt32 = x4 at *
   clear e hl hr
   go_wp2
   go_roundw
   case rel =>
    refine ⟨k + 1, by omega, by go_num, ?_, hZ.far (show w.heap.size + 1 ≠ w.heap.size + 1 + 1 by omega) _, hbl.setCell (show w.heap.size ≤ w.heap.size + 1 + 1 by omega) _⟩
    rw [HE.out, ← map_set32]
    exact hB.set_ r _
   case measure => simp [intOf]; omega
  ·
   have hd : decide ((k : Int) < 16) = false := by simp; omega
   obtain rfl : k = 16 := by omega
   have hXl := stTo_length b 16
   have HXL := Lib.hid hXl
   clear hXl
   go_wp2_with (first
    | (refine wpList_load_blk rfl 94 (.tmp 3) rfl (w.heap.size + 1 + 1) rfl 94 _ _ hB Tryd.underlying94 rfl (infoStB.trans (by rw [List.length_map, HXL.out])) ?_)
    | (refine wpList_store_blk rfl 94 (.tmp 2) (.tmp 23) rfl rfl (w.heap.size + 1) _ rfl rfl 94 _ hZ (infoStB.trans (by rw [List.length_map, HXL.out])) (by rw [List.length_map, List.length_map, HXL.out]; rfl) (one32 _) ?_; intro w2 hA2 hg2))
   refine bodyPost_ret (v := .agg _) (results_cell_row rfl _ _ (w.heap.size + 1) 94 _ (0, 0) _ rfl hA2.raw Tryd.underlying94 rfl (infoStB.trans (by rw [List.size_toArray, List.length_map, HXL.out]))) rfl ⟨rfl, below_new hbl hg2 (by omega) hbl.size⟩
/-- Rows as a block. -/
def bytesS (s : List UInt32) : List UInt8 := (List.range 16).map fun i => (s.getD (i % 4) 0 >>> UInt32.ofNat (24 - i / 4 * 8)).toUInt8
theorem bytesS_length (s : List UInt32) : (bytesS s).length = 16 := by simp [bytesS]
theorem bytesS_get (s : List UInt32) (k : Nat) (hk : k < 16) : (bytesS s).getD k 0 = (s.getD (k % 4) 0 >>> UInt32.ofNat (24 - k / 4 * 8)).toUInt8 := by
 simp [bytesS, List.getD_eq_getElem?_getD, hk]
def zero16 : List UInt8 := [0, 0, 0, 0, 0, 0, 0, 0, 0, 0, 0, 0, 0, 0, 0, 0]
theorem w_low8 (x : UInt32) : IntKind.u8.wrap (x.toNat : Int) = ((x.toUInt8).toNat : Int) := by
 rw [IntKind.wrap_u8]; simp
theorem tdiv4 (k : Nat) : (k : Int) / 4 = ((k / 4 : Nat) : Int) := by omega
theorem tdiv4' (k : Nat) : (k : Int).tdiv 4 = ((k / 4 : Nat) : Int) := by rw [Int.tdiv_eq_ediv_of_nonneg (by omega)]; omega
set_option maxRecDepth 100000 in
set_option maxHeartbeats 1000000 in
theorem bytes_any (s : List UInt32) (hs : s.length = 4) (w : World) :
  Calls Tryd.prog 54 #[SV s] w fun e w' => e = .returned (BV (bytesS s)) ∧ Below w.heap.size w w' := by
 have HS := Lib.hid hs
 have hXl := bytesS_length s
 have hXg := bytesS_get s
 obtain ⟨X, hX⟩ : ∃ X, X = bytesS s := ⟨_, rfl⟩
 rw [← hX] at hXl hXg ⊢
 have HXL := Lib.hid hXl
 have HXG := Lib.hid hXg
 clear hs hXl hXg hX
 have hz : ∀ W : World, (zeroValue 56).run Tryd.prog W = .ok (BV zero16) W := fun W => by kernel_rfl
 go_enter Tryd.func54, Tryd.ntmps54
 go_wp2
 go_loopw [5] (fun i wr => ∃ k : Nat, k ≤ 16 ∧ i = .int .i64 (k : Int) ∧ Blk wr (w.heap.size + 1 + 1) 56 ((X.take k ++ zero16.drop k).map B8) ∧ Blk wr (w.heap.size + 1) 56 (zero16.map B8) ∧ Blk wr w.heap.size 94 (s.map U32) ∧ Below w.heap.size w wr) (fun i _ => 16 - (intOf i).toNat)
 case atStart => exact ⟨0, by omega, rfl, Blk.new3_of w _ _ _ _ _ (by rfl), (Blk.new2_of w _ _ _ _ (by rfl)).alloc _, ((Blk.new_of w 94 _ (s.map U32) (by rfl)).alloc _).alloc _, (((Below.refl _ _).alloc (Nat.le_refl _) _).alloc (by simp) _).alloc (by simp; omega) _⟩
 case round =>
  obtain ⟨k, hk, rfl, hB, hZ, hR, hbl⟩ := hrel
  by_cases hlt : k < 16
  ·
   have hd : decide ((k : Int) < 16) = true := by simp; omega
   have hlen := len_to X zero16 k (by rw [HXL.out]; omega) (by rw [HXL.out]; rfl)
   have hf := hB.frozen k
   have hm := tmod4 k
   have hq := tdiv4 k
   have hq' := tdiv4' k
   have hr4 : k % 4 < 4 := Nat.mod_lt _ (by decide)
   have hq4 : k / 4 < 4 := by omega
   have hc0 := hB.at8 k (by rw [hlen]; exact hlt)
   have hX := HXG.out k hlt
   have hst := set_to X zero16 k 0 (by rw [HXL.out]; omega) hlt
   obtain ⟨r, hr⟩ : ∃ r, r = k % 4 := ⟨_, rfl⟩
   obtain ⟨q, hqq⟩ : ∃ q, q = k / 4 := ⟨_, rfl⟩
   rw [← hr] at hm hr4 hX
   rw [← hqq] at hq hq' hq4 hX
   have hc := hR.at32 r (by rw [HS.out]; exact hr4)
   generalize s.getD r 0 = x at *
   have hr1 : (r : Int) < 4 := by omega
   have hr0 : (0 : Int) ≤ (r : Int) := by omega
   have HST := Lib.hid hst
   generalize X.getD k 0 = x3 at *
   generalize (X.take k ++ zero16.drop k).getD k 0 = x4 at *
   clear hst hlen hr hqq
   generalize X.take k ++ zero16.drop k = L at *
   obtain rfl | rfl | rfl | rfl : q = 0 ∨ q = 1 ∨ q = 2 ∨ q = 3 := by omega
   ·
    have hX' : x3 = (x >>> UInt32.ofNat 24).toUInt8 := hX
    have hsh : (x.toNat : Int) / (16777216 : Int) = ((x >>> UInt32.ofNat 24).toNat : Int) := w_shr x 24 (by decide)
    generalize x >>> UInt32.ofNat 24 = y at *
    have hlo := w_low8 y
    have HX := Lib.hid hX'
    clear hX hX'
    go_wp2
    go_roundw
    case rel =>
     refine ⟨k + 1, by omega, by go_num, ?_, hZ.far (show w.heap.size + 1 ≠ w.heap.size + 1 + 1 by omega) _, hR.far (show w.heap.size ≠ w.heap.size + 1 + 1 by omega) _, hbl.setCell (show w.heap.size ≤ w.heap.size + 1 + 1 by omega) _⟩
     rw [← HST.out, ← map_set8]
     rw [HX.out]
     exact hB.set_ k _
    case measure => simp [intOf]; omega
   ·
    have hX' : x3 = (x >>> UInt32.ofNat 16).toUInt8 := hX
    have hsh : (x.toNat : Int) / (65536 : Int) = ((x >>> UInt32.ofNat 16).toNat : Int) := w_shr x 16 (by decide)
    generalize x >>> UInt32.ofNat 16 = y at *
    have hlo := w_low8 y
    have HX := Lib.hid hX'
    clear hX hX'
    go_wp2
    go_roundw
    case rel =>
     refine ⟨k + 1, by omega, by go_num, ?_, hZ.far (show w.heap.size + 1 ≠ w.heap.size + 1 + 1 by omega) _, hR.far (show w.heap.size ≠ w.heap.size + 1 + 1 by omega) _, hbl.setCell (show w.heap.size ≤ w.heap.size + 1 + 1 by omega) _⟩
     rw [← HST.out, ← map_set8]
     rw [HX.out]
     exact hB.set_ k _
    case measure => simp [intOf]; omega
   ·
    have hX' : x3 = (x >>> UInt32.ofNat 8).toUInt8 := hX
    have hsh : (x.toNat : Int) / (256 : Int) = ((x >>> UInt32.ofNat 8).toNat : Int) := w_shr x 8 (by decide)
    generalize x >>> UInt32.ofNat 8 = y at *
    have hlo := w_low8 y
    have HX := Lib.hid hX'
    clear hX hX'
    go_wp2
    go_roundw
    case rel =>
     refine ⟨k + 1, by omega, by go_num, ?_, hZ.far (show w.heap.size + 1 ≠ w.heap.size + 1 + 1 by omega) _, hR.far (show w.heap.size ≠ w.heap.size + 1 + 1 by omega) _, hbl.setCell (show w.heap.size ≤ w.heap.size + 1 + 1 by omega) _⟩
     rw [← HST.out, ← map_set8]
     rw [HX.out]
     exact hB.set_ k _
    case measure => simp [intOf]; omega
   ·
    have hX' : x3 = (x >>> UInt32.ofNat 0).toUInt8 := hX
    rw [show x >>> UInt32.ofNat 0 = x by simp] at hX'
    have HX := Lib.hid hX'
    clear hX hX'
    go_wp2
    go_roundw
    case rel =>
     refine ⟨k + 1, by omega, by go_num, ?_, hZ.far (show w.heap.size + 1 ≠ w.heap.size + 1 + 1 by omega) _, hR.far (show w.heap.size ≠ w.heap.size + 1 + 1 by omega) _, hbl.setCell (show w.heap.size ≤ w.heap.size + 1 + 1 by omega) _⟩
     rw [← HST.out, ← map_set8]
     have e8 : (x.toNat : Int) % (256 : Int) = ((x.toUInt8).toNat : Int) := by simp
     rw [HX.out, e8]
     exact hB.set_ k _
    case measure => simp [intOf]; omega
  ·
   have hd : decide ((k : Int) < 16) = false := by simp; omega
   obtain rfl : k = 16 := by omega
   rw [List.take_of_length_le (by rw [HXL.out]; omega), List.drop_eq_nil_of_le (show zero16.length ≤ 16 by decide), List.append_nil] at hB
   go_wp2_with (first
    | (refine wpList_load_blk rfl 56 (.tmp 3) rfl (w.heap.size + 1 + 1) rfl 56 _ _ hB Tryd.underlying56 rfl (infoBk.trans (by rw [List.length_map, HXL.out])) ?_)
    | (refine wpList_store_blk rfl 56 (.tmp 2) (.tmp 21) rfl rfl (w.heap.size + 1) _ rfl rfl 56 _ hZ (infoBk.trans (by rw [List.length_map, HXL.out])) (by rw [List.length_map, List.length_map, HXL.out]; rfl) (one8 _) ?_; intro w2 hA2 hg2))
   refine bodyPost_ret (v := .agg _) (results_cell_row rfl _ _ (w.heap.size + 1) 56 _ (0, 0) _ rfl hA2.raw Tryd.underlying56 rfl (infoBk.trans (by rw [List.size_toArray, List.length_map, HXL.out]))) rfl ⟨rfl, below_new hbl hg2 (by omega) hbl.size⟩

end
end Go.Proofs.YtnjpcbbdhimacaaDoor
