/-
  Mq.
-/
import Derived.Test.YtnkikhnllnbhfaaDoorMv
namespace Go.Proofs.YtnkikhnllnbhfaaDoor
open Go.RowKit
/-- The four limbs of a number. -/
def ofVal (v : Nat) : P4 := ⟨v % 18446744073709551616, v / 18446744073709551616 % 18446744073709551616, v / 340282366920938463463374607431768211456 % 18446744073709551616, v / 6277101735386680763835789423207666416102355444464034512896 % 18446744073709551616⟩
theorem ofVal_ok (v : Nat) : (ofVal v).ok := ⟨Nat.mod_lt _ (by decide), Nat.mod_lt _ (by decide), Nat.mod_lt _ (by decide), Nat.mod_lt _ (by decide)⟩
theorem ofVal_val {v : Nat} (h : v < B256) : (ofVal v).val = v := by
  unfold B256 at h
  show v % 18446744073709551616 + 18446744073709551616 * (v / 18446744073709551616 % 18446744073709551616) + 340282366920938463463374607431768211456 * (v / 340282366920938463463374607431768211456 % 18446744073709551616) + 6277101735386680763835789423207666416102355444464034512896 * (v / 6277101735386680763835789423207666416102355444464034512896 % 18446744073709551616) = v
  omega
/-- A number's rest by a modulus, as four limbs. -/
def redP (n : P4) (v : Nat) : P4 := ofVal (v % n.val)
theorem redP_ok (n : P4) (v : Nat) : (redP n v).ok := ofVal_ok _
theorem redP_val {n : P4} (hn : n.ok) (h0 : 0 < n.val) (v : Nat) : (redP n v).val = v % n.val :=
  ofVal_val (Nat.lt_trans (Nat.mod_lt v h0) (P4.lt hn))
theorem redP_lt {n : P4} (hn : n.ok) (h0 : 0 < n.val) (v : Nat) : (redP n v).val < n.val := by rw [redP_val hn h0]; exact Nat.mod_lt _ h0
theorem redP_of {n x : P4} (hn : n.ok) (h0 : 0 < n.val) (hx : x.ok) {v : Nat} (h : x.val = v % n.val) : x = redP n v :=
  P4.ext_val hx (redP_ok n v) (by rw [h, redP_val hn h0])
theorem redP_congr {n : P4} {v v' : Nat} (h : v % n.val = v' % n.val) : redP n v = redP n v' := by unfold redP; rw [h]
/-- A bit of a number, by its value. -/
theorem limb_shift (L R r : Nat) (hr : r < 64) : (L + 18446744073709551616 * R) / 2 ^ r % 2 = L / 2 ^ r % 2 := by
  have e : 18446744073709551616 * R = 2 ^ r * (2 * (2 ^ (63 - r) * R)) := by
    have h : (2 : Nat) ^ r * (2 * 2 ^ (63 - r)) = 18446744073709551616 := by
      rw [← Nat.pow_succ', ← Nat.pow_add, show r + (63 - r + 1) = 64 by omega]
    rw [← h]
    simp only [Nat.mul_assoc]
  rw [e, Nat.add_mul_div_left _ _ (Nat.pow_pos (by decide)), Nat.add_mul_mod_self_left]
theorem bitP_eq {x : P4} (hx : x.ok) (j : Nat) (hj : j < 256) : bitP x j = x.val / 2 ^ j % 2 := by
  obtain ⟨h1, h2, h3, h4⟩ := hx
  unfold bitP
  have hr : j % 64 < 64 := by omega
  have hj2 : j = 64 * (j / 64) + j % 64 := by omega
  have hq : j / 64 = 0 ∨ j / 64 = 1 ∨ j / 64 = 2 ∨ j / 64 = 3 := by omega
  generalize j / 64 = q at *
  generalize j % 64 = r at *
  subst hj2
  rw [Nat.pow_add, ← Nat.div_div_eq_div_mul]
  obtain rfl | rfl | rfl | rfl := hq
  · rw [show x.val / 2 ^ (64 * 0) = x.a + 18446744073709551616 * (x.b + 18446744073709551616 * x.c + 340282366920938463463374607431768211456 * x.d) by unfold P4.val; rw [show (2 : Nat) ^ (64 * 0) = 1 by decide]; omega, limb_shift _ _ _ hr]
    rfl
  · rw [show x.val / 2 ^ (64 * 1) = x.b + 18446744073709551616 * (x.c + 18446744073709551616 * x.d) by unfold P4.val; rw [show (2 : Nat) ^ (64 * 1) = 18446744073709551616 by decide]; omega, limb_shift _ _ _ hr]
    rfl
  · rw [show x.val / 2 ^ (64 * 2) = x.c + 18446744073709551616 * x.d by unfold P4.val; rw [show (2 : Nat) ^ (64 * 2) = 340282366920938463463374607431768211456 by decide]; omega, limb_shift _ _ _ hr]
    rfl
  · rw [show x.val / 2 ^ (64 * 3) = x.d + 18446744073709551616 * 0 by unfold P4.val; rw [show (2 : Nat) ^ (64 * 3) = 6277101735386680763835789423207666416102355444464034512896 by decide]; omega, limb_shift _ _ _ hr]
    rfl
theorem bitP_le (x : P4) (j : Nat) : bitP x j ≤ 1 := by unfold bitP; omega
/-- A bit more from above. -/
theorem shift_step (v j : Nat) : v / 2 ^ j = 2 * (v / 2 ^ (j + 1)) + v / 2 ^ j % 2 := by
  rw [Nat.pow_succ, ← Nat.div_div_eq_div_mul]
  omega
theorem shift_all {x : P4} (hx : x.ok) : x.val / 2 ^ 256 = 0 := by
  rw [two256]
  exact Nat.div_eq_of_lt (P4.lt hx)
/-- What goes over, from the limbs below so many. -/
def carP (x y : P4) : Nat → Nat
  | 0 => 0
  | k + 1 => adC (x.limb k) (y.limb k) (carP x y k)
def outP (x y : P4) : Nat → P4
  | 0 => zeroP
  | k + 1 => (outP x y k).setLimb k (adS (x.limb k) (y.limb k) (carP x y k))
def brwM (x y : P4) : Nat → Nat
  | 0 => 0
  | k + 1 => sbC (x.limb k) (y.limb k) (brwM x y k)
def outM (x y : P4) : Nat → P4
  | 0 => zeroP
  | k + 1 => (outM x y k).setLimb k (sbS (x.limb k) (y.limb k) (brwM x y k))
theorem outP_four (x y : P4) : outP x y 4 = plusP x y := rfl
theorem carP_four (x y : P4) : carP x y 4 = plusC x y := rfl
theorem outM_four (x y : P4) : outM x y 4 = minusP x y := rfl
theorem carP_le {x y : P4} (hx : x.ok) (hy : y.ok) : ∀ k, carP x y k ≤ 1
  | 0 => Nat.zero_le _
  | k + 1 => adC_le (limb_lt hx k) (limb_lt hy k) (carP_le hx hy k)
theorem brwM_le (x y : P4) : ∀ k, brwM x y k ≤ 1
  | 0 => Nat.zero_le _
  | _ + 1 => sbC_le _ _ _
/-- Two numbers whose difference the modulus divides have one rest. -/
theorem mod_of_int {n X Y : Nat} (q : Int) (h : (X : Int) - (Y : Int) = (n : Int) * q) : X % n = Y % n := by
  have e : (X : Int) % (n : Int) = (Y : Int) % (n : Int) := by
    rw [show (X : Int) = (Y : Int) + (n : Int) * q by omega, Int.add_mul_emod_self_left]
  exact_mod_cast e
theorem rest_int (v n : Nat) : ∃ q : Int, ((v % n : Nat) : Int) = (v : Int) - (n : Int) * q := by
  refine ⟨((v / n : Nat) : Int), ?_⟩
  have h := Nat.mod_add_div v n
  have h2 : ((v % n : Nat) : Int) + (n : Int) * ((v / n : Nat) : Int) = (v : Int) := by
    rw [← Int.natCast_mul, ← Int.natCast_add, h]
  omega
theorem sub_int (A B n : Nat) (h : B ≤ n) : ((A + n - B : Nat) : Int) = (A : Int) + n - B := by omega
/-- A sum times a difference is the difference of squares. -/
theorem law_squares (a b n : Nat) (h0 : 0 < n) : ((a + b) % n) * ((a % n + n - b % n) % n) % n = ((a * a % n) % n + n - (b * b % n) % n) % n := by
  have l1 := Nat.le_of_lt (Nat.mod_lt b h0)
  have l2 := Nat.le_of_lt (Nat.mod_lt (b * b % n) h0)
  obtain ⟨q1, e1⟩ := rest_int (a + b) n
  obtain ⟨q2, e2⟩ := rest_int a n
  obtain ⟨q3, e3⟩ := rest_int b n
  obtain ⟨q4, e4⟩ := rest_int (a % n + n - b % n) n
  rw [sub_int _ _ _ l1] at e4
  obtain ⟨q5, e5⟩ := rest_int (a * a) n
  obtain ⟨q6, e6⟩ := rest_int (a * a % n) n
  obtain ⟨q7, e7⟩ := rest_int (b * b) n
  obtain ⟨q8, e8⟩ := rest_int (b * b % n) n
  rw [Int.natCast_add] at e1
  rw [Int.natCast_mul] at e5 e7
  refine mod_of_int ((a + b) * (1 - q2 + q3 - q4) - q1 * (a - b) - n * q1 * (1 - q2 + q3 - q4) + q5 + q6 - 1 - q7 - q8) ?_
  rw [Int.natCast_mul, sub_int _ _ _ l2, e1, e4, e6, e8, e5, e7, e2, e3]
  grind
theorem law_spread (a b n : Nat) : a * ((b + 1) % n) % n = ((a * b % n) + a) % n := by
  obtain ⟨q1, e1⟩ := rest_int (b + 1) n
  obtain ⟨q2, e2⟩ := rest_int (a * b) n
  rw [Int.natCast_add] at e1
  rw [Int.natCast_mul] at e2
  refine mod_of_int (q2 - a * q1) ?_
  rw [Int.natCast_mul, Int.natCast_add, e1, e2]
  grind
theorem law_less (a b n : Nat) (h0 : 0 < n) : (((a + b) % n) % n + n - b % n) % n = a % n := by
  have l1 := Nat.le_of_lt (Nat.mod_lt b h0)
  obtain ⟨q1, e1⟩ := rest_int (a + b) n
  obtain ⟨q2, e2⟩ := rest_int ((a + b) % n) n
  obtain ⟨q3, e3⟩ := rest_int b n
  rw [Int.natCast_add] at e1
  refine mod_of_int (1 + q3 - q1 - q2) ?_
  rw [sub_int _ _ _ l1, e2, e1, e3]
  grind
theorem law_more (a b n : Nat) (h0 : 0 < n) : (((a % n + n - b % n) % n) + b) % n = a % n := by
  have l1 := Nat.le_of_lt (Nat.mod_lt b h0)
  obtain ⟨q1, e1⟩ := rest_int (a % n + n - b % n) n
  obtain ⟨q2, e2⟩ := rest_int a n
  obtain ⟨q3, e3⟩ := rest_int b n
  rw [sub_int _ _ _ l1] at e1
  refine mod_of_int (1 + q3 - q1 - q2) ?_
  rw [Int.natCast_add, e1, e2, e3]
  grind
/-- An inverse's inverse is the number's rest. -/
theorem law_inverse {a i j n : Nat} (h1 : a * i % n = 1) (h2 : i * j % n = 1) (hj : j < n) : j = a % n := by
  obtain ⟨q1, e1⟩ := rest_int (a * i) n
  obtain ⟨q2, e2⟩ := rest_int (i * j) n
  rw [h1, Int.natCast_mul] at e1
  rw [h2, Int.natCast_mul] at e2
  have h := mod_of_int (n := n) (X := j) (Y := a) (a * q2 - j * q1) (by
    have e1' : (a : Int) * i = 1 + n * q1 := by omega
    have e2' : (i : Int) * j = 1 + n * q2 := by omega
    grind)
  rw [← h, Nat.mod_eq_of_lt hj]
theorem law_chain {a b i n : Nat} (h1 : a * i % n = 1) : (b * a % n) * i % n = b % n := by
  obtain ⟨q1, e1⟩ := rest_int (a * i) n
  obtain ⟨q2, e2⟩ := rest_int (b * a) n
  rw [h1, Int.natCast_mul] at e1
  rw [Int.natCast_mul] at e2
  refine mod_of_int (b * q1 - i * q2) ?_
  rw [Int.natCast_mul, e2]
  have e1' : (a : Int) * i = 1 + n * q1 := by omega
  grind
theorem inverse_coprime {a i n : Nat} (h1 : a * i % n = 1) : Nat.gcd i n = 1 := by
  have h2 : Nat.gcd i n ∣ a * i % n := (Nat.dvd_mod_iff (Nat.gcd_dvd_right i n)).2 (Nat.dvd_trans (Nat.gcd_dvd_left i n) (Nat.dvd_mul_left i a))
  rw [h1] at h2
  exact Nat.dvd_one.1 h2
theorem law_pow (a e k n : Nat) : a ^ (e + k) % n = (a ^ e % n) * (a ^ k % n) % n := by
  rw [Nat.pow_add, Nat.mul_mod]
/-- A power, a bit of the exponent more. -/
theorem pow_step0 (a e n : Nat) : (a ^ e % n) * (a ^ e % n) % n = a ^ (2 * e) % n := by
  rw [← Nat.mul_mod, ← Nat.pow_add, show e + e = 2 * e by omega]
theorem pow_step1 (a e n : Nat) : (a ^ (2 * e) % n) * a % n = a ^ (2 * e + 1) % n := by
  rw [Nat.mod_mul_mod, ← Nat.pow_succ]
/-- A rest, a bit of the number more. -/
theorem rest_step0 (v n : Nat) : (v % n + v % n) % n = 2 * v % n := by
  rw [← Nat.add_mod, show v + v = 2 * v by omega]
theorem rest_step1 (v n : Nat) : (v % n + 1) % n = (v + 1) % n := Nat.mod_add_mod _ _ _
theorem mul_step0 (a v n : Nat) : (a * v % n + a * v % n) % n = a * (2 * v) % n := by
  rw [← Nat.add_mod, show a * v + a * v = a * (2 * v) by grind]
theorem mul_step1 (a v n : Nat) : (a * v % n + a % n) % n = a * (v + 1) % n := by
  rw [← Nat.add_mod, Nat.mul_add, Nat.mul_one]

end Go.Proofs.YtnkikhnllnbhfaaDoor
