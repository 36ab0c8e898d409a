/-
  The contracts of package block's field: eight elements of 256 in a word of 64 bits.
-/
import Derived.Test.YtefbjhdcmgonbaaProg
import Derived.Test.YtefbjhdcmgonbaaLane
import Derived.Laws.BitsAllLaws
import Derived.Deep.QuietTactic
import Derived.BigQuiet
import Derived.Lib.Hide
namespace Go.Proofs.Ytefbjhdcmgonbaa
open Go.RowKit

theorem q_and (a b : BitVec 64) : bits .and .u64 (a.toNat : Int) (b.toNat : Int) = ((a &&& b).toNat : Int) := by
  rw [u64_and_nat _ _ (by have := a.isLt; omega) (by have := b.isLt; omega), BitVec.toNat_and]
theorem q_or (a b : BitVec 64) : bits .or .u64 (a.toNat : Int) (b.toNat : Int) = ((a ||| b).toNat : Int) := by
  rw [u64_or_nat _ _ (by have := a.isLt; omega) (by have := b.isLt; omega), BitVec.toNat_or]
theorem q_xor (a b : BitVec 64) : bits .xor .u64 (a.toNat : Int) (b.toNat : Int) = ((a ^^^ b).toNat : Int) := by
  rw [u64_xor_nat _ _ (by have := a.isLt; omega) (by have := b.isLt; omega), BitVec.toNat_xor]
theorem q_andn (a b : BitVec 64) : bits .andNot .u64 (a.toNat : Int) (b.toNat : Int) = ((a &&& ~~~b).toNat : Int) := by
  rw [u64_andNot_nat _ _ (by have := a.isLt; omega) (by have := b.isLt; omega), BitVec.toNat_and, BitVec.toNat_not]
theorem q_wrap (n : Nat) : IntKind.u64.wrap (n : Int) = ((n % 18446744073709551616 : Nat) : Int) := by
  rw [IntKind.wrap_u64]; omega
theorem q_shl (a : BitVec 64) (n : Nat) : IntKind.u64.wrap ((a.toNat : Int) * ((2 ^ n : Nat) : Int)) = ((a <<< n).toNat : Int) := by
  rw [← Int.natCast_mul, q_wrap, BitVec.toNat_shiftLeft, Nat.shiftLeft_eq]
theorem q_shr (a : BitVec 64) (n : Nat) : (a.toNat : Int) / ((2 ^ n : Nat) : Int) = ((a >>> n).toNat : Int) := by
  rw [BitVec.toNat_ushiftRight, Nat.shiftRight_eq_div_pow]; rfl
theorem q_mul (a b : BitVec 64) : IntKind.u64.wrap ((a.toNat : Int) * (b.toNat : Int)) = ((a * b).toNat : Int) := by
  rw [← Int.natCast_mul, q_wrap, BitVec.toNat_mul]
theorem q_ones (a : BitVec 64) : bits .and .u64 (a.toNat : Int) 72340172838076673 = ((a &&& ones).toNat : Int) := q_and a ones
theorem q_63 (a : BitVec 64) : bits .xor .u64 (a.toNat : Int) (7161677110969590627 : Int) = ((a ^^^ 0x6363636363636363#64).toNat : Int) := q_xor a 0x6363636363636363#64
theorem q_05 (a : BitVec 64) : bits .xor .u64 (a.toNat : Int) (361700864190383365 : Int) = ((a ^^^ 0x0505050505050505#64).toNat : Int) := q_xor a 0x0505050505050505#64
theorem q_stay1 (a : BitVec 64) : bits .and .u64 (a.toNat : Int) 9187201950435737471 = ((a &&& stay 1).toNat : Int) := q_and a (stay 1)
theorem q_shl1 (a : BitVec 64) : IntKind.u64.wrap ((a.toNat : Int) * (2 : Int)) = ((a <<< 1).toNat : Int) := q_shl a 1
theorem q_shl2 (a : BitVec 64) : IntKind.u64.wrap ((a.toNat : Int) * (4 : Int)) = ((a <<< 2).toNat : Int) := q_shl a 2
theorem q_shl4 (a : BitVec 64) : IntKind.u64.wrap ((a.toNat : Int) * (16 : Int)) = ((a <<< 4).toNat : Int) := q_shl a 4
theorem q_shl6 (a : BitVec 64) : IntKind.u64.wrap ((a.toNat : Int) * (64 : Int)) = ((a <<< 6).toNat : Int) := q_shl a 6
theorem q_shr1 (a : BitVec 64) : (a.toNat : Int) / (2 : Int) = ((a >>> 1).toNat : Int) := q_shr a 1
theorem q_shr2 (a : BitVec 64) : (a.toNat : Int) / (4 : Int) = ((a >>> 2).toNat : Int) := q_shr a 2
theorem q_shr3 (a : BitVec 64) : (a.toNat : Int) / (8 : Int) = ((a >>> 3).toNat : Int) := q_shr a 3
theorem q_shr4 (a : BitVec 64) : (a.toNat : Int) / (16 : Int) = ((a >>> 4).toNat : Int) := q_shr a 4
theorem q_shr5 (a : BitVec 64) : (a.toNat : Int) / (32 : Int) = ((a >>> 5).toNat : Int) := q_shr a 5
theorem q_shr6 (a : BitVec 64) : (a.toNat : Int) / (64 : Int) = ((a >>> 6).toNat : Int) := q_shr a 6
theorem q_shr7 (a : BitVec 64) : (a.toNat : Int) / (128 : Int) = ((a >>> 7).toNat : Int) := q_shr a 7
theorem q_mul27 (a : BitVec 64) : IntKind.u64.wrap ((a.toNat : Int) * (27 : Int)) = ((a * 27#64).toNat : Int) := q_mul a 27#64
theorem q_mul108 (a : BitVec 64) : IntKind.u64.wrap ((a.toNat : Int) * (108 : Int)) = ((a * 108#64).toNat : Int) := q_mul a 108#64
theorem q_mul171 (a : BitVec 64) : IntKind.u64.wrap ((a.toNat : Int) * (171 : Int)) = ((a * 171#64).toNat : Int) := q_mul a 171#64
theorem q_mul154 (a : BitVec 64) : IntKind.u64.wrap ((a.toNat : Int) * (154 : Int)) = ((a * 154#64).toNat : Int) := q_mul a 154#64
theorem q_mul255 (a : BitVec 64) : IntKind.u64.wrap ((a.toNat : Int) * (255 : Int)) = ((a * 255#64).toNat : Int) := q_mul a 255#64
set_option maxRecDepth 100000 in
set_option maxHeartbeats 1000000 in
theorem doubled_any (x : BitVec 64) (w : World) : Calls Try.prog 54 #[.int .u64 (x.toNat : Int)] w fun e w' => e = .returned (.int .u64 ((dbl64 x).toNat : Int)) ∧ w' = w := by
  go_enter Try.func54, Try.ntmps54
  go_wp2
  go_ret
  refine ⟨?_, rfl⟩
  simp only [q_stay1, q_shl1, q_shr7, q_ones, q_mul27, q_xor]
  rfl
set_option maxRecDepth 100000 in
set_option maxHeartbeats 1000000 in
theorem squared_any (x : BitVec 64) (w : World) : Calls Try.prog 61 #[.int .u64 (x.toNat : Int)] w fun e w' => e = .returned (.int .u64 ((sq64 x).toNat : Int)) ∧ w' = w := by
  go_enter Try.func61, Try.ntmps61
  go_wp2
  go_ret
  refine ⟨?_, rfl⟩
  simp only [q_ones, q_or, q_xor, q_shl2, q_shl4, q_shl6, q_shr1, q_shr2, q_shr3, q_shr4, q_shr5, q_shr6, q_shr7, q_mul27, q_mul108, q_mul171, q_mul154]
  rfl
set_option maxRecDepth 100000 in
set_option maxHeartbeats 1000000 in
theorem times_any (x y : BitVec 64) (w : World) : Calls Try.prog 62 #[.int .u64 (x.toNat : Int), .int .u64 (y.toNat : Int)] w fun e w' => e = .returned (.int .u64 ((times64 x y).toNat : Int)) ∧ w' = w := by
  go_enter Try.func62, Try.ntmps62
  go_wp2
  go_loopw [0, 1, 5, 6] (fun av bv sv iv wr => ∃ k : Nat, k ≤ 8 ∧ iv = .int .i64 (k : Int) ∧ av = .int .u64 ((tm64 x y k).2.toNat : Int) ∧ bv = .int .u64 ((y >>> k).toNat : Int) ∧ sv = .int .u64 ((tm64 x y k).1.toNat : Int) ∧ wr = w) (fun _ _ _ i _ => 8 - (intOf i).toNat)
  case atStart => exact ⟨0, by omega, rfl, rfl, rfl, rfl, rfl⟩
  case round =>
    obtain ⟨k, hk, rfl, rfl, rfl, rfl, rfl⟩ := hrel
    by_cases hlt : k < 8
    · have hd : decide ((k : Int) < 8) = true := by simp; omega
      have e1 : (tm64 x y (k + 1)).1 = (tm64 x y k).1 ^^^ ((((y >>> k) &&& ones) * 0xff#64) &&& (tm64 x y k).2) := rfl
      have e2 : (tm64 x y (k + 1)).2 = dbl64 (tm64 x y k).2 := rfl
      have e3 : y >>> (k + 1) = (y >>> k) >>> 1 := BitVec.shiftRight_add y k 1
      generalize (tm64 x y k).1 = s at *
      generalize (tm64 x y k).2 = a at *
      generalize y >>> k = b at *
      have E1 := Lib.hid e1
      have E2 := Lib.hid e2
      have E3 := Lib.hid e3
      clear e1 e2 e3
      have hdb := doubled_any a
      go_wp2_with (refine (hdb _).mono ?_; rintro e w1 ⟨rfl, hw1⟩; subst hw1)
      go_roundw
      case rel =>
        refine ⟨k + 1, by omega, by go_num, by rw [E2.out], by rw [E3.out, ← q_shr1], ?_, trivial⟩
        rw [E1.out]
        simp only [q_ones, q_mul255, q_and, q_xor]
      case measure => simp [intOf]; omega
    · have hd : decide ((k : Int) < 8) = false := by simp; omega
      obtain rfl : k = 8 := by omega
      go_wp2
      go_ret
      exact ⟨rfl, rfl⟩
set_option maxRecDepth 100000 in
set_option maxHeartbeats 1000000 in
theorem inverse_any (x : BitVec 64) (w : World) : Calls Try.prog 55 #[.int .u64 (x.toNat : Int)] w fun e w' => e = .returned (.int .u64 ((inv64 x).toNat : Int)) ∧ w' = w := by
  go_enter Try.func55, Try.ntmps55
  go_wp2_with (first
    | (go_at_call 61; refine (squared_any _ _).mono ?_; rintro e w1 ⟨rfl, hw1⟩; subst hw1)
    | (go_at_call 62; refine (times_any _ _ _).mono ?_; rintro e w1 ⟨rfl, hw1⟩; subst hw1))
  go_ret
  exact ⟨rfl, rfl⟩
set_option maxRecDepth 100000 in
set_option maxHeartbeats 1000000 in
theorem turned_1 (x : BitVec 64) (w : World) : Calls Try.prog 56 #[.int .u64 (x.toNat : Int), .int .i64 1] w fun e w' => e = .returned (.int .u64 ((turn64 1 x).toNat : Int)) ∧ ∃ k, w' = w.drewN k := by
  have h1 : bits .and .u64 (x.toNat : Int) (9187201950435737471 : Int) = ((x &&& stay 1).toNat : Int) := q_and x (stay 1)
  have h2 : bits .andNot .u64 (x.toNat : Int) (9187201950435737471 : Int) = ((x &&& ~~~(stay 1)).toNat : Int) := q_andn x (stay 1)
  have h3 : IntKind.u64.wrap (((x &&& stay 1).toNat : Int) * (2 : Int)) = (((x &&& stay 1) <<< 1).toNat : Int) := q_shl _ 1
  have h4 : ((x &&& ~~~(stay 1)).toNat : Int) / (128 : Int) = (((x &&& ~~~(stay 1)) >>> (8 - 1)).toNat : Int) := q_shr _ (8 - 1)
  have h5 := q_or ((x &&& stay 1) <<< 1) ((x &&& ~~~(stay 1)) >>> (8 - 1))
  have H5 : Hid (turn64 1 x = ((x &&& stay 1) <<< 1) ||| ((x &&& ~~~(stay 1)) >>> (8 - 1))) := Lib.hid rfl
  generalize x &&& stay 1 = u at *
  generalize x &&& ~~~(stay 1) = v at *
  generalize u <<< 1 = u1 at *
  generalize v >>> (8 - 1) = v1 at *
  go_enter Try.func56, Try.ntmps56
  go_wp2
  go_quiet (fail)
  go_wp2
  go_ret
  refine ⟨?_, _, rfl⟩
  rw [H5.out, BitVec.toNat_or]
  rfl
set_option maxRecDepth 100000 in
set_option maxHeartbeats 1000000 in
theorem turned_2 (x : BitVec 64) (w : World) : Calls Try.prog 56 #[.int .u64 (x.toNat : Int), .int .i64 2] w fun e w' => e = .returned (.int .u64 ((turn64 2 x).toNat : Int)) ∧ ∃ k, w' = w.drewN k := by
  have h1 : bits .and .u64 (x.toNat : Int) (4557430888798830399 : Int) = ((x &&& stay 2).toNat : Int) := q_and x (stay 2)
  have h2 : bits .andNot .u64 (x.toNat : Int) (4557430888798830399 : Int) = ((x &&& ~~~(stay 2)).toNat : Int) := q_andn x (stay 2)
  have h3 : IntKind.u64.wrap (((x &&& stay 2).toNat : Int) * (4 : Int)) = (((x &&& stay 2) <<< 2).toNat : Int) := q_shl _ 2
  have h4 : ((x &&& ~~~(stay 2)).toNat : Int) / (64 : Int) = (((x &&& ~~~(stay 2)) >>> (8 - 2)).toNat : Int) := q_shr _ (8 - 2)
  have h5 := q_or ((x &&& stay 2) <<< 2) ((x &&& ~~~(stay 2)) >>> (8 - 2))
  have H5 : Hid (turn64 2 x = ((x &&& stay 2) <<< 2) ||| ((x &&& ~~~(stay 2)) >>> (8 - 2))) := Lib.hid rfl
  generalize x &&& stay 2 = u at *
  generalize x &&& ~~~(stay 2) = v at *
  generalize u <<< 2 = u1 at *
  generalize v >>> (8 - 2) = v1 at *
  go_enter Try.func56, Try.ntmps56
  go_wp2
  go_quiet (fail)
  go_wp2
  go_ret
  refine ⟨?_, _, rfl⟩
  rw [H5.out, BitVec.toNat_or]
  rfl
set_option maxRecDepth 100000 in
set_option maxHeartbeats 1000000 in
theorem turned_3 (x : BitVec 64) (w : World) : Calls Try.prog 56 #[.int .u64 (x.toNat : Int), .int .i64 3] w fun e w' => e = .returned (.int .u64 ((turn64 3 x).toNat : Int)) ∧ ∃ k, w' = w.drewN k := by
  have h1 : bits .and .u64 (x.toNat : Int) (2242545357980376863 : Int) = ((x &&& stay 3).toNat : Int) := q_and x (stay 3)
  have h2 : bits .andNot .u64 (x.toNat : Int) (2242545357980376863 : Int) = ((x &&& ~~~(stay 3)).toNat : Int) := q_andn x (stay 3)
  have h3 : IntKind.u64.wrap (((x &&& stay 3).toNat : Int) * (8 : Int)) = (((x &&& stay 3) <<< 3).toNat : Int) := q_shl _ 3
  have h4 : ((x &&& ~~~(stay 3)).toNat : Int) / (32 : Int) = (((x &&& ~~~(stay 3)) >>> (8 - 3)).toNat : Int) := q_shr _ (8 - 3)
  have h5 := q_or ((x &&& stay 3) <<< 3) ((x &&& ~~~(stay 3)) >>> (8 - 3))
  have H5 : Hid (turn64 3 x = ((x &&& stay 3) <<< 3) ||| ((x &&& ~~~(stay 3)) >>> (8 - 3))) := Lib.hid rfl
  generalize x &&& stay 3 = u at *
  generalize x &&& ~~~(stay 3) = v at *
  generalize u <<< 3 = u1 at *
  generalize v >>> (8 - 3) = v1 at *
  go_enter Try.func56, Try.ntmps56
  go_wp2
  go_quiet (fail)
  go_wp2
  go_ret
  refine ⟨?_, _, rfl⟩
  rw [H5.out, BitVec.toNat_or]
  rfl
set_option maxRecDepth 100000 in
set_option maxHeartbeats 1000000 in
theorem turned_4 (x : BitVec 64) (w : World) : Calls Try.prog 56 #[.int .u64 (x.toNat : Int), .int .i64 4] w fun e w' => e = .returned (.int .u64 ((turn64 4 x).toNat : Int)) ∧ ∃ k, w' = w.drewN k := by
  have h1 : bits .and .u64 (x.toNat : Int) (1085102592571150095 : Int) = ((x &&& stay 4).toNat : Int) := q_and x (stay 4)
  have h2 : bits .andNot .u64 (x.toNat : Int) (1085102592571150095 : Int) = ((x &&& ~~~(stay 4)).toNat : Int) := q_andn x (stay 4)
  have h3 : IntKind.u64.wrap (((x &&& stay 4).toNat : Int) * (16 : Int)) = (((x &&& stay 4) <<< 4).toNat : Int) := q_shl _ 4
  have h4 : ((x &&& ~~~(stay 4)).toNat : Int) / (16 : Int) = (((x &&& ~~~(stay 4)) >>> (8 - 4)).toNat : Int) := q_shr _ (8 - 4)
  have h5 := q_or ((x &&& stay 4) <<< 4) ((x &&& ~~~(stay 4)) >>> (8 - 4))
  have H5 : Hid (turn64 4 x = ((x &&& stay 4) <<< 4) ||| ((x &&& ~~~(stay 4)) >>> (8 - 4))) := Lib.hid rfl
  generalize x &&& stay 4 = u at *
  generalize x &&& ~~~(stay 4) = v at *
  generalize u <<< 4 = u1 at *
  generalize v >>> (8 - 4) = v1 at *
  go_enter Try.func56, Try.ntmps56
  go_wp2
  go_quiet (fail)
  go_wp2
  go_ret
  refine ⟨?_, _, rfl⟩
  rw [H5.out, BitVec.toNat_or]
  rfl
set_option maxRecDepth 100000 in
set_option maxHeartbeats 1000000 in
theorem turned_6 (x : BitVec 64) (w : World) : Calls Try.prog 56 #[.int .u64 (x.toNat : Int), .int .i64 6] w fun e w' => e = .returned (.int .u64 ((turn64 6 x).toNat : Int)) ∧ ∃ k, w' = w.drewN k := by
  have h1 : bits .and .u64 (x.toNat : Int) (217020518514230019 : Int) = ((x &&& stay 6).toNat : Int) := q_and x (stay 6)
  have h2 : bits .andNot .u64 (x.toNat : Int) (217020518514230019 : Int) = ((x &&& ~~~(stay 6)).toNat : Int) := q_andn x (stay 6)
  have h3 : IntKind.u64.wrap (((x &&& stay 6).toNat : Int) * (64 : Int)) = (((x &&& stay 6) <<< 6).toNat : Int) := q_shl _ 6
  have h4 : ((x &&& ~~~(stay 6)).toNat : Int) / (4 : Int) = (((x &&& ~~~(stay 6)) >>> (8 - 6)).toNat : Int) := q_shr _ (8 - 6)
  have h5 := q_or ((x &&& stay 6) <<< 6) ((x &&& ~~~(stay 6)) >>> (8 - 6))
  have H5 : Hid (turn64 6 x = ((x &&& stay 6) <<< 6) ||| ((x &&& ~~~(stay 6)) >>> (8 - 6))) := Lib.hid rfl
  generalize x &&& stay 6 = u at *
  generalize x &&& ~~~(stay 6) = v at *
  generalize u <<< 6 = u1 at *
  generalize v >>> (8 - 6) = v1 at *
  go_enter Try.func56, Try.ntmps56
  go_wp2
  go_quiet (fail)
  go_wp2
  go_ret
  refine ⟨?_, _, rfl⟩
  rw [H5.out, BitVec.toNat_or]
  rfl
set_option maxRecDepth 100000 in
set_option maxHeartbeats 1000000 in
theorem substituted_any (x : BitVec 64) (w : World) : Calls Try.prog 40 #[.int .u64 (x.toNat : Int)] w fun e w' => e = .returned (.int .u64 ((sub64 x).toNat : Int)) ∧ ∃ k, w' = w.drewN k := by
  go_enter Try.func40, Try.ntmps40
  go_wp2_with (first
    | (go_at_call 55; with_reducible refine (inverse_any _ _).mono ?_; rintro e w1 ⟨rfl, hw1⟩; subst hw1; generalize hz : inv64 x = z)
    | (go_at_call 56; with_reducible refine (turned_1 _ _).mono ?_; rintro e w1 ⟨rfl, k1, hw1⟩; subst hw1)
    | (go_at_call 56; with_reducible refine (turned_2 _ _).mono ?_; rintro e w1 ⟨rfl, k1, hw1⟩; subst hw1)
    | (go_at_call 56; with_reducible refine (turned_3 _ _).mono ?_; rintro e w1 ⟨rfl, k1, hw1⟩; subst hw1)
    | (go_at_call 56; with_reducible refine (turned_4 _ _).mono ?_; rintro e w1 ⟨rfl, k1, hw1⟩; subst hw1)
    | (go_at_call 56; with_reducible refine (turned_6 _ _).mono ?_; rintro e w1 ⟨rfl, k1, hw1⟩; subst hw1))
  go_ret
  refine ⟨?_, _, rfl⟩
  have hs : sub64 x = (((((z ^^^ turn64 1 z) ^^^ turn64 2 z) ^^^ turn64 3 z) ^^^ turn64 4 z) ^^^ 0x6363636363636363#64) := by rw [← hz]; rfl
  rw [hs]
  simp only [q_xor, q_63]
  rfl
set_option maxRecDepth 100000 in
set_option maxHeartbeats 1000000 in
theorem restored_any (x : BitVec 64) (w : World) : Calls Try.prog 45 #[.int .u64 (x.toNat : Int)] w fun e w' => e = .returned (.int .u64 ((res64 x).toNat : Int)) ∧ ∃ k, w' = w.drewN k := by
  go_enter Try.func45, Try.ntmps45
  go_wp2_with (first
    | (go_at_call 55; simp only [q_xor, q_05]; with_reducible refine (inverse_any _ _).mono ?_; rintro e w1 ⟨rfl, hw1⟩; subst hw1)
    | (go_at_call 56; with_reducible refine (turned_1 _ _).mono ?_; rintro e w1 ⟨rfl, k1, hw1⟩; subst hw1)
    | (go_at_call 56; with_reducible refine (turned_2 _ _).mono ?_; rintro e w1 ⟨rfl, k1, hw1⟩; subst hw1)
    | (go_at_call 56; with_reducible refine (turned_3 _ _).mono ?_; rintro e w1 ⟨rfl, k1, hw1⟩; subst hw1)
    | (go_at_call 56; with_reducible refine (turned_4 _ _).mono ?_; rintro e w1 ⟨rfl, k1, hw1⟩; subst hw1)
    | (go_at_call 56; with_reducible refine (turned_6 _ _).mono ?_; rintro e w1 ⟨rfl, k1, hw1⟩; subst hw1))
  go_ret
  exact ⟨rfl, _, rfl⟩
end Go.Proofs.Ytefbjhdcmgonbaa
