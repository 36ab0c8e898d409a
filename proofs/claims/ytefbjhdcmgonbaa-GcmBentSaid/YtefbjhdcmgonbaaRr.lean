/-
  The reference of the blocks: products in the field, what takes a byte's place, the table of all.
-/
import Derived.Test.YtefbjhdcmgonbaaBMore
namespace Go.Proofs.Ytefbjhdcmgonbaa
open Go.RowKit

def dblR (a : UInt8) : UInt8 := if a.toNat / 128 = 1 then (a <<< 1) ^^^ 0x1b else a <<< 1
def mulTo (a b : UInt8) : Nat → UInt8 × UInt8
  | 0 => (0, a)
  | k + 1 => (if b.toNat / 2 ^ k % 2 = 1 then (mulTo a b k).1 ^^^ (mulTo a b k).2 else (mulTo a b k).1, dblR (mulTo a b k).2)
def mulR (a b : UInt8) : UInt8 := (mulTo a b 8).1
theorem r_xor (a b : UInt8) : bits .xor .u8 (a.toNat : Int) (b.toNat : Int) = ((a ^^^ b).toNat : Int) := by
  rw [u8_xor_nat _ _ (u8_lt a) (u8_lt b), UInt8.toNat_xor]
theorem r_or (a b : UInt8) : bits .or .u8 (a.toNat : Int) (b.toNat : Int) = ((a ||| b).toNat : Int) := by
  rw [u8_or_nat _ _ (u8_lt a) (u8_lt b), UInt8.toNat_or]
theorem r_xor27 (a : UInt8) : bits .xor .u8 (a.toNat : Int) 27 = ((a ^^^ 0x1b).toNat : Int) := r_xor a 0x1b
theorem r_xor99 (a : UInt8) : bits .xor .u8 (a.toNat : Int) 99 = ((a ^^^ 0x63).toNat : Int) := r_xor a 0x63
theorem r_shl1 (a : UInt8) : (a.toNat : Int) * (2 : Int) % (256 : Int) = ((a <<< 1).toNat : Int) := by
  rw [UInt8.toNat_shiftLeft]; simp [Nat.shiftLeft_eq]
theorem bit_true {b : UInt8} {k : Nat} (h : b.toNat / 2 ^ k % 2 = 1) : (((b.toNat : Int) / 2 ^ k).tmod 2 == 1) = true := by
  have h1 : ((b.toNat : Int) / 2 ^ k).tmod 2 = ((b.toNat / 2 ^ k % 2 : Nat) : Int) := by
    rw [Int.tmod_eq_emod_of_nonneg (Int.ediv_nonneg (by omega) (by exact Int.pow_nonneg (by omega)))]
    norm_cast
  rw [h1, h]; rfl
theorem bit_false {b : UInt8} {k : Nat} (h : ¬ b.toNat / 2 ^ k % 2 = 1) : (((b.toNat : Int) / 2 ^ k).tmod 2 == 1) = false := by
  have h1 : ((b.toNat : Int) / 2 ^ k).tmod 2 = ((b.toNat / 2 ^ k % 2 : Nat) : Int) := by
    rw [Int.tmod_eq_emod_of_nonneg (Int.ediv_nonneg (by omega) (by exact Int.pow_nonneg (by omega)))]
    norm_cast
  rw [h1, show b.toNat / 2 ^ k % 2 = 0 by omega]; rfl
set_option maxRecDepth 100000 in
set_option maxHeartbeats 1000000 in
theorem mulR_any (a b : UInt8) (w : World) : Calls Try.prog 32 #[.int .u8 (a.toNat : Int), .int .u8 (b.toNat : Int)] w fun e w' => e = .returned (.int .u8 ((mulR a b).toNat : Int)) ∧ w' = w := by
  go_enter Try.func32, Try.ntmps32
  go_wp2
  go_loopw [0, 5, 6, 7] (fun av pv iv tv wr => ∃ k : Nat, k ≤ 8 ∧ iv = .int .i64 (k : Int) ∧ av = .int .u8 ((mulTo a b k).2.toNat : Int) ∧ pv = .int .u8 ((mulTo a b k).1.toNat : Int) ∧ wr = w) (fun _ _ i _ _ => 8 - (intOf i).toNat)
  case atStart => exact ⟨0, by omega, rfl, rfl, rfl, rfl⟩
  case round =>
    obtain ⟨k, hk, rfl, rfl, rfl, rfl⟩ := hrel
    by_cases hlt : k < 8
    · have hd : decide ((k : Int) < 8) = true := by simp; omega
      have e1 : (mulTo a b (k + 1)).1 = if b.toNat / 2 ^ k % 2 = 1 then (mulTo a b k).1 ^^^ (mulTo a b k).2 else (mulTo a b k).1 := rfl
      have e2 : (mulTo a b (k + 1)).2 = dblR (mulTo a b k).2 := rfl
      have e3 : ∀ c : UInt8, c.toNat / 128 = 1 → dblR c = (c <<< 1) ^^^ 0x1b := fun c h => by rw [dblR, if_pos h]
      have e4 : ∀ c : UInt8, ¬ c.toNat / 128 = 1 → dblR c = c <<< 1 := fun c h => by rw [dblR, if_neg h]
      generalize (mulTo a b k).1 = p at *
      generalize (mulTo a b k).2 = c at *
      have E2 := Lib.hid e2
      have e3 := e3 c
      have E4 := Lib.hid (e4 c)
      have hs1 := r_shl1 c
      clear e2 e4
      generalize c <<< 1 = c1 at *
      obtain ⟨z0, hz0⟩ : ∃ z, z = p ^^^ c := ⟨_, rfl⟩
      obtain ⟨z1, hz1⟩ : ∃ z, z = c1 ^^^ 0x1b := ⟨_, rfl⟩
      have hx0 : bits .xor .u8 (p.toNat : Int) (c.toNat : Int) = (z0.toNat : Int) := by rw [hz0, r_xor]
      have hx1 : bits .xor .u8 (c1.toNat : Int) (27 : Int) = (z1.toNat : Int) := by rw [hz1, r_xor27]
      rw [← hz0] at e1
      rw [← hz1] at e3
      have E1 := Lib.hid e1
      have E3 := Lib.hid (e3)
      clear e1 e3 hz0 hz1
      by_cases hb : b.toNat / 2 ^ k % 2 = 1 <;> by_cases ht : c.toNat / 128 = 1
      · have hc1 := bit_true hb
        have hc2 : ((c.toNat : Int) / (128 : Int) == (1 : Int)) = true := by rw [beq_iff_eq]; omega
        have HB := Lib.hid hb
        have HT := Lib.hid ht
        clear hb ht
        go_wp2
        go_roundw
        case rel => exact ⟨k + 1, by omega, by go_num, by rw [E2.out, E3.out HT.out], by rw [E1.out, if_pos HB.out], trivial⟩
        case measure => simp [intOf]; omega
      · have hc1 := bit_true hb
        have hc2 : ((c.toNat : Int) / (128 : Int) == (1 : Int)) = false := by rw [beq_eq_false_iff_ne]; omega
        have HB := Lib.hid hb
        have HT := Lib.hid ht
        clear hb ht
        go_wp2
        go_roundw
        case rel => exact ⟨k + 1, by omega, by go_num, by rw [E2.out, E4.out HT.out, hs1], by rw [E1.out, if_pos HB.out], trivial⟩
        case measure => simp [intOf]; omega
      · have hc1 := bit_false hb
        have hc2 : ((c.toNat : Int) / (128 : Int) == (1 : Int)) = true := by rw [beq_iff_eq]; omega
        have HB := Lib.hid hb
        have HT := Lib.hid ht
        clear hb ht
        go_wp2
        go_roundw
        case rel => exact ⟨k + 1, by omega, by go_num, by rw [E2.out, E3.out HT.out], by rw [E1.out, if_neg HB.out], trivial⟩
        case measure => simp [intOf]; omega
      · have hc1 := bit_false hb
        have hc2 : ((c.toNat : Int) / (128 : Int) == (1 : Int)) = false := by rw [beq_eq_false_iff_ne]; omega
        have HB := Lib.hid hb
        have HT := Lib.hid ht
        clear hb ht
        go_wp2
        go_roundw
        case rel => exact ⟨k + 1, by omega, by go_num, by rw [E2.out, E4.out HT.out, hs1], by rw [E1.out, if_neg HB.out], trivial⟩
        case measure => simp [intOf]; omega
    · have hd : decide ((k : Int) < 8) = false := by simp; omega
      obtain rfl : k = 8 := by omega
      go_wp2
      go_ret
      exact ⟨rfl, rfl⟩

/-- To the power 254, step by step. -/
def invTo (x : UInt8) : Nat → UInt8
  | 0 => 1
  | k + 1 => mulR (mulR (invTo x k) (invTo x k)) x
def invR (x : UInt8) : UInt8 := mulR (invTo x 7) (invTo x 7)
def spin (v : UInt8) (i : Nat) : UInt8 := (v <<< UInt8.ofNat i) ||| (v >>> UInt8.ofNat (8 - i))
def boxTo (v : UInt8) : Nat → UInt8
  | 0 => v
  | k + 1 => boxTo v k ^^^ spin v (k + 1)
def boxR (x : UInt8) : UInt8 := boxTo (invR x) 4 ^^^ 0x63
theorem spin_1 (v : UInt8) : bits .or .u8 (IntKind.u8.wrap ((v.toNat : Int) * (2 : Int))) ((v.toNat : Int) / (128 : Int)) = ((spin v 1).toNat : Int) := by
  rw [show IntKind.u8.wrap ((v.toNat : Int) * (2 : Int)) = ((v <<< UInt8.ofNat 1).toNat : Int) by rw [IntKind.wrap_u8, UInt8.toNat_shiftLeft]; simp [Nat.shiftLeft_eq], show (v.toNat : Int) / (128 : Int) = ((v >>> UInt8.ofNat 7).toNat : Int) by rw [UInt8.toNat_shiftRight]; simp [Nat.shiftRight_eq_div_pow], r_or]; rfl
theorem spin_2 (v : UInt8) : bits .or .u8 (IntKind.u8.wrap ((v.toNat : Int) * (4 : Int))) ((v.toNat : Int) / (64 : Int)) = ((spin v 2).toNat : Int) := by
  rw [show IntKind.u8.wrap ((v.toNat : Int) * (4 : Int)) = ((v <<< UInt8.ofNat 2).toNat : Int) by rw [IntKind.wrap_u8, UInt8.toNat_shiftLeft]; simp [Nat.shiftLeft_eq], show (v.toNat : Int) / (64 : Int) = ((v >>> UInt8.ofNat 6).toNat : Int) by rw [UInt8.toNat_shiftRight]; simp [Nat.shiftRight_eq_div_pow], r_or]; rfl
theorem spin_3 (v : UInt8) : bits .or .u8 (IntKind.u8.wrap ((v.toNat : Int) * (8 : Int))) ((v.toNat : Int) / (32 : Int)) = ((spin v 3).toNat : Int) := by
  rw [show IntKind.u8.wrap ((v.toNat : Int) * (8 : Int)) = ((v <<< UInt8.ofNat 3).toNat : Int) by rw [IntKind.wrap_u8, UInt8.toNat_shiftLeft]; simp [Nat.shiftLeft_eq], show (v.toNat : Int) / (32 : Int) = ((v >>> UInt8.ofNat 5).toNat : Int) by rw [UInt8.toNat_shiftRight]; simp [Nat.shiftRight_eq_div_pow], r_or]; rfl
theorem spin_4 (v : UInt8) : bits .or .u8 (IntKind.u8.wrap ((v.toNat : Int) * (16 : Int))) ((v.toNat : Int) / (16 : Int)) = ((spin v 4).toNat : Int) := by
  rw [show IntKind.u8.wrap ((v.toNat : Int) * (16 : Int)) = ((v <<< UInt8.ofNat 4).toNat : Int) by rw [IntKind.wrap_u8, UInt8.toNat_shiftLeft]; simp [Nat.shiftLeft_eq], show (v.toNat : Int) / (16 : Int) = ((v >>> UInt8.ofNat 4).toNat : Int) by rw [UInt8.toNat_shiftRight]; simp [Nat.shiftRight_eq_div_pow], r_or]; rfl
theorem box_spec : ∀ x : Fin 256, boxR (UInt8.ofFin x) = UInt8.ofBitVec (sub8 (BitVec.ofFin x)) := by decide +kernel
theorem mul2_spec : ∀ x : Fin 256, mulR (UInt8.ofFin x) 2 = UInt8.ofBitVec (dbl8 (BitVec.ofFin x)) := by decide +kernel
theorem mul3_spec : ∀ x : Fin 256, mulR (UInt8.ofFin x) 3 = UInt8.ofBitVec (dbl8 (BitVec.ofFin x) ^^^ BitVec.ofFin x) := by decide +kernel
end Go.Proofs.Ytefbjhdcmgonbaa
