/-
  Mw1.
-/
import Derived.Test.YtnkikhnllnbhfaaDoorMm
import Derived.Test.YtnkikhnllnbhfaaDoorChecked
import Derived.Below
import Derived.Lib.Hide
import Derived.Laws.Externs
import Derived.Laws.BitsAllLaws
import Derived.Shelf.Spec.BitsCarry
import Derived.Shelf.Bits.Mul64
namespace Go.Proofs.YtnkikhnllnbhfaaDoor
open Go.RowKit
theorem add64_run (x y c : Nat) (hc : c ≤ 1) (w : World) : (callFunc 76 #[.int .u64 (x : Int), .int .u64 (y : Int), .int .u64 (c : Int)]).run Tryd.prog w = .ok (.value (.tuple #[.int .u64 ((adS x y c : Nat) : Int), .int .u64 ((adC x y c : Nat) : Int)])) w := by
  rw [run_callFunc_extern Tryd.func76 (by kernel_rfl) (by kernel_rfl) (by kernel_rfl) (e := add64Entry) (by kernel_rfl), run_add64 x y c (by omega) (by omega) (by omega) (by omega)]
  simp only [Result.andThen]
  unfold adS adC
  congr 5 <;> omega
theorem add64_0 (x y : Nat) (w : World) : (callFunc 76 #[.int .u64 (x : Int), .int .u64 (y : Int), .int .u64 0]).run Tryd.prog w = .ok (.value (.tuple #[.int .u64 ((adS x y 0 : Nat) : Int), .int .u64 ((adC x y 0 : Nat) : Int)])) w := add64_run x y 0 (by decide) w
theorem add64_y0 (x c : Nat) (hc : c ≤ 1) (w : World) : (callFunc 76 #[.int .u64 (x : Int), .int .u64 0, .int .u64 (c : Int)]).run Tryd.prog w = .ok (.value (.tuple #[.int .u64 ((adS x 0 c : Nat) : Int), .int .u64 ((adC x 0 c : Nat) : Int)])) w := add64_run x 0 c hc w
theorem sub64_run (x y c : Nat) (hc : c ≤ 1) (w : World) : (callFunc 80 #[.int .u64 (x : Int), .int .u64 (y : Int), .int .u64 (c : Int)]).run Tryd.prog w = .ok (.value (.tuple #[.int .u64 ((sbS x y c : Nat) : Int), .int .u64 ((sbC x y c : Nat) : Int)])) w := by
  rw [run_callFunc_extern Tryd.func80 (by kernel_rfl) (by kernel_rfl) (by kernel_rfl) (e := sub64Entry) (by kernel_rfl), run_sub64 x y c hc]
  rfl
theorem sub64_0 (x y : Nat) (w : World) : (callFunc 80 #[.int .u64 (x : Int), .int .u64 (y : Int), .int .u64 0]).run Tryd.prog w = .ok (.value (.tuple #[.int .u64 ((sbS x y 0 : Nat) : Int), .int .u64 ((sbC x y 0 : Nat) : Int)])) w := sub64_run x y 0 (by decide) w
theorem sub64_y0 (x c : Nat) (hc : c ≤ 1) (w : World) : (callFunc 80 #[.int .u64 (x : Int), .int .u64 0, .int .u64 (c : Int)]).run Tryd.prog w = .ok (.value (.tuple #[.int .u64 ((sbS x 0 c : Nat) : Int), .int .u64 ((sbC x 0 c : Nat) : Int)])) w := sub64_run x 0 c hc w
set_option maxRecDepth 100000 in
set_option maxHeartbeats 400000 in
theorem plus_any (x y : P4) (w : World) (hx : x.ok) (hy : y.ok) :
    Calls Tryd.prog 71 #[.agg #[.int .u64 (x.a : Int), .int .u64 (x.b : Int), .int .u64 (x.c : Int), .int .u64 (x.d : Int)], .agg #[.int .u64 (y.a : Int), .int .u64 (y.b : Int), .int .u64 (y.c : Int), .int .u64 (y.d : Int)]] w fun e w' => e = .returned (.tuple #[.agg #[.int .u64 ((plusP x y).a : Int), .int .u64 ((plusP x y).b : Int), .int .u64 ((plusP x y).c : Int), .int .u64 ((plusP x y).d : Int)], .int .u64 (plusC x y : Int)]) ∧ Below w.heap.size w w' := by
  have c1 := adC_le hx.a hy.a (c := 0) (by decide)
  have c2 := adC_le hx.b hy.b c1
  have c3 := adC_le hx.c hy.c c2
  have hA := add64_run
  have hA0 := add64_0
  go_enter Tryd.func71, Tryd.ntmps71
  go_wp2
  refine bodyPost_ret (v := .tuple #[.agg #[.int .u64 ((plusP x y).a : Int), .int .u64 ((plusP x y).b : Int), .int .u64 ((plusP x y).c : Int), .int .u64 ((plusP x y).d : Int)], .int .u64 (plusC x y : Int)]) (by simp [results, Tryd.results71, go_sem]; exact ⟨⟨rfl, rfl, rfl, rfl⟩, rfl⟩) rfl ⟨rfl, ?_⟩
  (repeat' (first | exact Below.refl _ _ | apply Below.setCell | apply Below.alloc))
  all_goals (simp <;> omega)
set_option maxRecDepth 100000 in
set_option maxHeartbeats 400000 in
theorem minus_any (x y : P4) (w : World) :
    Calls Tryd.prog 73 #[.agg #[.int .u64 (x.a : Int), .int .u64 (x.b : Int), .int .u64 (x.c : Int), .int .u64 (x.d : Int)], .agg #[.int .u64 (y.a : Int), .int .u64 (y.b : Int), .int .u64 (y.c : Int), .int .u64 (y.d : Int)]] w fun e w' => e = .returned (.tuple #[.agg #[.int .u64 ((minusP x y).a : Int), .int .u64 ((minusP x y).b : Int), .int .u64 ((minusP x y).c : Int), .int .u64 ((minusP x y).d : Int)], .int .u64 (minusC x y : Int)]) ∧ Below w.heap.size w w' := by
  have c1 := sbC_le x.a y.a 0
  have c2 := sbC_le x.b y.b (sbC x.a y.a 0)
  have c3 := sbC_le x.c y.c (sbC x.b y.b (sbC x.a y.a 0))
  have hA := sub64_run
  have hA0 := sub64_0
  go_enter Tryd.func73, Tryd.ntmps73
  go_wp2
  refine bodyPost_ret (v := .tuple #[.agg #[.int .u64 ((minusP x y).a : Int), .int .u64 ((minusP x y).b : Int), .int .u64 ((minusP x y).c : Int), .int .u64 ((minusP x y).d : Int)], .int .u64 (minusC x y : Int)]) (by simp [results, Tryd.results73, go_sem]; exact ⟨⟨rfl, rfl, rfl, rfl⟩, rfl⟩) rfl ⟨rfl, ?_⟩
  (repeat' (first | exact Below.refl _ _ | apply Below.setCell | apply Below.alloc))
  all_goals (simp <;> omega)
/-- Is it less? -/
def lessP (x y : P4) : Bool := (minusC x y : Int) == 1
theorem lessP_eq {x y : P4} (hx : x.ok) (hy : y.ok) : lessP x y = decide (x.val < y.val) := by
  unfold lessP
  rw [minusC_eq hx hy]
  split <;> simp_all
set_option maxRecDepth 100000 in
set_option maxHeartbeats 400000 in
theorem less_any (x y : P4) (w : World) :
    Calls Tryd.prog 63 #[.agg #[.int .u64 (x.a : Int), .int .u64 (x.b : Int), .int .u64 (x.c : Int), .int .u64 (x.d : Int)], .agg #[.int .u64 (y.a : Int), .int .u64 (y.b : Int), .int .u64 (y.c : Int), .int .u64 (y.d : Int)]] w fun e w' => e = .returned (.bool (lessP x y)) ∧ Below w.heap.size w w' := by
  go_enter Tryd.func63, Tryd.ntmps63
  go_wp2_with fail
  refine (minus_any x y _).mono ?_
  rintro e w1 ⟨rfl, hb⟩
  have hb1 : Below w.heap.size w w1 := by
    refine Below.trans ?_ (Below.mono hb ?_)
    (repeat' (first | exact Below.refl _ _ | apply Below.setCell | apply Below.alloc))
    all_goals (simp <;> omega)
  clear hb
  go_wp2
  go_ret
  exact ⟨rfl, hb1.alloc hb1.size _⟩
set_option maxRecDepth 100000 in
set_option maxHeartbeats 400000 in
theorem parts_any (x : P4) (w : World) :
    Calls Tryd.prog 60 #[.agg #[.int .u64 (x.a : Int), .int .u64 (x.b : Int), .int .u64 (x.c : Int), .int .u64 (x.d : Int)]] w fun e w' => e = .returned (.agg #[.int .u64 (x.a : Int), .int .u64 (x.b : Int), .int .u64 (x.c : Int), .int .u64 (x.d : Int)]) ∧ Below w.heap.size w w' := by
  go_enter Tryd.func60, Tryd.ntmps60
  go_wp2
  refine bodyPost_ret (v := .agg #[.int .u64 (x.a : Int), .int .u64 (x.b : Int), .int .u64 (x.c : Int), .int .u64 (x.d : Int)]) (by simp [results, Tryd.results60, go_sem]) rfl ⟨rfl, ?_⟩
  (repeat' (first | exact Below.refl _ _ | apply Below.setCell | apply Below.alloc))
  all_goals (simp <;> omega)
set_option maxRecDepth 100000 in
set_option maxHeartbeats 400000 in
theorem num_any (x : P4) (w : World) :
    Calls Tryd.prog 66 #[.agg #[.int .u64 (x.a : Int), .int .u64 (x.b : Int), .int .u64 (x.c : Int), .int .u64 (x.d : Int)]] w fun e w' => e = .returned (.agg #[.int .u64 (x.a : Int), .int .u64 (x.b : Int), .int .u64 (x.c : Int), .int .u64 (x.d : Int)]) ∧ Below w.heap.size w w' := by
  go_enter Tryd.func66, Tryd.ntmps66
  go_wp2
  refine bodyPost_ret (v := .agg #[.int .u64 (x.a : Int), .int .u64 (x.b : Int), .int .u64 (x.c : Int), .int .u64 (x.d : Int)]) (by simp [results, Tryd.results66, go_sem]) rfl ⟨rfl, ?_⟩
  (repeat' (first | exact Below.refl _ _ | apply Below.setCell | apply Below.alloc))
  all_goals (simp <;> omega)
/-- Half of a number, a bit from above. -/
def hfS (lo hi : Nat) : Nat := lo / 2 + hi % 2 * 9223372036854775808
def halfP (x : P4) (h : Nat) : P4 := ⟨hfS x.a x.b, hfS x.b x.c, hfS x.c x.d, hfS x.d h⟩
theorem half_or (lo hi : Nat) (hlo : lo < 18446744073709551616) : lo / 2 ||| hi % 2 * 9223372036854775808 = hfS lo hi := by
  have h := Nat.two_pow_add_eq_or_of_lt (i := 63) (b := lo / 2) (by omega) (hi % 2)
  rw [Nat.or_comm, Nat.mul_comm (hi % 2)]
  have e : (9223372036854775808 : Nat) = 2 ^ 63 := by decide
  rw [e, ← h, ← e]
  unfold hfS; omega
theorem half_limb (lo hi : Nat) (hlo : lo < 18446744073709551616) : bits .or .u64 ((lo : Int) / 2) (IntKind.u64.wrap ((hi : Int) * 9223372036854775808)) = ((hfS lo hi : Nat) : Int) := by
  have e1 : IntKind.u64.wrap ((hi : Int) * 9223372036854775808) = ((hi % 2 * 9223372036854775808 : Nat) : Int) := by rw [IntKind.wrap_u64]; omega
  have e2 : (lo : Int) / 2 = ((lo / 2 : Nat) : Int) := by omega
  rw [e1, e2, u64_or_nat _ _ (by omega) (by omega), half_or lo hi hlo]
theorem half_last (lo h : Nat) (hlo : lo < 18446744073709551616) (hh : h ≤ 1) : bits .or .u64 ((lo : Int) / 2) ((h : Int) * 9223372036854775808) = ((hfS lo h : Nat) : Int) := by
  have e1 : (h : Int) * 9223372036854775808 = ((h % 2 * 9223372036854775808 : Nat) : Int) := by omega
  have e2 : (lo : Int) / 2 = ((lo / 2 : Nat) : Int) := by omega
  rw [e1, e2, u64_or_nat _ _ (by omega) (by omega), half_or lo h hlo]
theorem hfS_lt {lo hi : Nat} (h : lo < 18446744073709551616) : hfS lo hi < 18446744073709551616 := by unfold hfS; omega
theorem halfP_ok {x : P4} (hx : x.ok) (h : Nat) : (halfP x h).ok := ⟨hfS_lt hx.a, hfS_lt hx.b, hfS_lt hx.c, hfS_lt hx.d⟩
theorem half_eq (x : P4) (h : Nat) (hh : h ≤ 1) : (halfP x h).val = (x.val + B256 * h) / 2 := by
  unfold P4.val halfP hfS B256
  simp only []
  omega
set_option maxRecDepth 100000 in
set_option maxHeartbeats 400000 in
theorem half_any (x : P4) (h : Nat) (w : World) (hx : x.ok) (hh : h ≤ 1) :
    Calls Tryd.prog 78 #[.agg #[.int .u64 (x.a : Int), .int .u64 (x.b : Int), .int .u64 (x.c : Int), .int .u64 (x.d : Int)], .int .u64 (h : Int)] w fun e w' => e = .returned (.agg #[.int .u64 ((halfP x h).a : Int), .int .u64 ((halfP x h).b : Int), .int .u64 ((halfP x h).c : Int), .int .u64 ((halfP x h).d : Int)]) ∧ Below w.heap.size w w' := by
  go_enter Tryd.func78, Tryd.ntmps78
  go_wp2
  simp only [half_limb x.a x.b hx.a, half_limb x.b x.c hx.b, half_limb x.c x.d hx.c, half_last x.d h hx.d hh]
  refine bodyPost_ret (v := .agg #[.int .u64 ((halfP x h).a : Int), .int .u64 ((halfP x h).b : Int), .int .u64 ((halfP x h).c : Int), .int .u64 ((halfP x h).d : Int)]) (by simp [results, Tryd.results78, go_sem]; exact ⟨rfl, rfl, rfl, rfl⟩) rfl ⟨rfl, ?_⟩
  (repeat' (first | exact Below.refl _ _ | apply Below.setCell | apply Below.alloc))
  all_goals (simp <;> omega)
theorem bits_choose1 (x y : Nat) (hx : x < 18446744073709551616) (hy : y < 18446744073709551616) : bits .xor .u64 (y : Int) (bits .and .u64 (IntKind.u64.wrap (-1)) (bits .xor .u64 (x : Int) (y : Int))) = (x : Int) := by
  have e1 : IntKind.u64.wrap (-1) = ((18446744073709551615 : Nat) : Int) := by rw [IntKind.wrap_u64]; rfl
  have hxy : x ^^^ y < 18446744073709551616 := Nat.xor_lt_two_pow (n := 64) hx hy
  rw [e1, u64_xor_nat x y hx hy, u64_and_nat _ _ (by decide) hxy]
  have e2 : 18446744073709551615 &&& (x ^^^ y) = x ^^^ y := by
    rw [Nat.and_comm]
    have := Nat.and_two_pow_sub_one_eq_mod (x ^^^ y) 64
    rw [show (2 : Nat) ^ 64 - 1 = 18446744073709551615 by decide] at this
    rw [this]
    exact Nat.mod_eq_of_lt hxy
  rw [e2, u64_xor_nat y _ hy hxy, Nat.xor_comm x y, ← Nat.xor_assoc, Nat.xor_self, Nat.zero_xor]
theorem bits_choose0 (x y : Nat) (hx : x < 18446744073709551616) (hy : y < 18446744073709551616) : bits .xor .u64 (y : Int) (bits .and .u64 0 (bits .xor .u64 (x : Int) (y : Int))) = (y : Int) := by
  have hxy : x ^^^ y < 18446744073709551616 := Nat.xor_lt_two_pow (n := 64) hx hy
  have h1 := u64_and_nat 0 (x ^^^ y) (by decide) hxy
  rw [Nat.zero_and] at h1
  have h2 := u64_xor_nat y 0 hy (by decide)
  rw [Nat.xor_zero] at h2
  rw [u64_xor_nat x y hx hy]
  exact (congrArg (bits .xor .u64 (y : Int)) h1).trans h2
set_option maxRecDepth 100000 in
set_option maxHeartbeats 400000 in
theorem choose_1 (x y : P4) (w : World) (hx : x.ok) (hy : y.ok) :
    Calls Tryd.prog 77 #[.int .u64 1, .agg #[.int .u64 (x.a : Int), .int .u64 (x.b : Int), .int .u64 (x.c : Int), .int .u64 (x.d : Int)], .agg #[.int .u64 (y.a : Int), .int .u64 (y.b : Int), .int .u64 (y.c : Int), .int .u64 (y.d : Int)]] w fun e w' => e = .returned (.agg #[.int .u64 (x.a : Int), .int .u64 (x.b : Int), .int .u64 (x.c : Int), .int .u64 (x.d : Int)]) ∧ Below w.heap.size w w' := by
  go_enter Tryd.func77, Tryd.ntmps77
  go_wp2
  simp only [bits_choose1 x.a y.a hx.a hy.a, bits_choose1 x.b y.b hx.b hy.b, bits_choose1 x.c y.c hx.c hy.c, bits_choose1 x.d y.d hx.d hy.d]
  refine bodyPost_ret (v := .agg #[.int .u64 (x.a : Int), .int .u64 (x.b : Int), .int .u64 (x.c : Int), .int .u64 (x.d : Int)]) (by simp [results, Tryd.results77, go_sem]) rfl ⟨rfl, ?_⟩
  (repeat' (first | exact Below.refl _ _ | apply Below.setCell | apply Below.alloc))
  all_goals (simp <;> omega)
set_option maxRecDepth 100000 in
set_option maxHeartbeats 400000 in
theorem choose_0 (x y : P4) (w : World) (hx : x.ok) (hy : y.ok) :
    Calls Tryd.prog 77 #[.int .u64 0, .agg #[.int .u64 (x.a : Int), .int .u64 (x.b : Int), .int .u64 (x.c : Int), .int .u64 (x.d : Int)], .agg #[.int .u64 (y.a : Int), .int .u64 (y.b : Int), .int .u64 (y.c : Int), .int .u64 (y.d : Int)]] w fun e w' => e = .returned (.agg #[.int .u64 (y.a : Int), .int .u64 (y.b : Int), .int .u64 (y.c : Int), .int .u64 (y.d : Int)]) ∧ Below w.heap.size w w' := by
  go_enter Tryd.func77, Tryd.ntmps77
  go_wp2
  simp only [bits_choose0 x.a y.a hx.a hy.a, bits_choose0 x.b y.b hx.b hy.b, bits_choose0 x.c y.c hx.c hy.c, bits_choose0 x.d y.d hx.d hy.d]
  refine bodyPost_ret (v := .agg #[.int .u64 (y.a : Int), .int .u64 (y.b : Int), .int .u64 (y.c : Int), .int .u64 (y.d : Int)]) (by simp [results, Tryd.results77, go_sem]) rfl ⟨rfl, ?_⟩
  (repeat' (first | exact Below.refl _ _ | apply Below.setCell | apply Below.alloc))
  all_goals (simp <;> omega)
theorem choose_any (k : Nat) (x y : P4) (w : World) (hk : k ≤ 1) (hx : x.ok) (hy : y.ok) :
    Calls Tryd.prog 77 #[.int .u64 (k : Int), .agg #[.int .u64 (x.a : Int), .int .u64 (x.b : Int), .int .u64 (x.c : Int), .int .u64 (x.d : Int)], .agg #[.int .u64 (y.a : Int), .int .u64 (y.b : Int), .int .u64 (y.c : Int), .int .u64 (y.d : Int)]] w fun e w' => e = .returned (.agg #[.int .u64 ((chooseP k x y).a : Int), .int .u64 ((chooseP k x y).b : Int), .int .u64 ((chooseP k x y).c : Int), .int .u64 ((chooseP k x y).d : Int)]) ∧ Below w.heap.size w w' := by
  obtain rfl | rfl : k = 0 ∨ k = 1 := by omega
  · exact choose_0 x y w hx hy
  · exact choose_1 x y w hx hy
/-- The library's product of two limbs, in this program's numbers. -/
def renMul : Go.Shelf.Ren := ⟨fun _ => 81, fun x => if x = 53 then 28 else 64, fun x => x⟩
theorem laysMul : Lays.n264 Tryd.prog renMul := { mixed := by kernel_rfl, f264 := by kernel_rfl, t46 := by kernel_rfl, a46 := fun _ => by kernel_rfl, z46 := fun _ => by kernel_rfl, v46 := fun _ => by kernel_rfl, t53 := by kernel_rfl, a53 := fun _ => by kernel_rfl, z53 := fun _ => by kernel_rfl, v53 := fun _ => by kernel_rfl }
def mulHi (x y : Nat) : Nat := x * y / 18446744073709551616
def mulLo (x y : Nat) : Nat := x * y % 18446744073709551616
theorem mulLo_lt (x y : Nat) : mulLo x y < 18446744073709551616 := Nat.mod_lt _ (by decide)
theorem pp_lo_eq (a b x y : Nat) : adS (adS (mulLo x y) a 0) b 0 = ppLo a b x y := by
  unfold adS mulLo ppLo; omega
theorem pp_hi_eq (a b x y : Nat) (ha : a < 18446744073709551616) (hb : b < 18446744073709551616) (hx : x < 18446744073709551616) (hy : y < 18446744073709551616) :
    adS (adS (mulHi x y) 0 (adC (mulLo x y) a 0)) 0 (adC (adS (mulLo x y) a 0) b 0) = ppHi a b x y := by
  have h := mul_small hx hy
  unfold adS adC mulLo mulHi ppHi
  generalize x * y = p at *
  omega
theorem mul64_any (x y : Nat) (hx : x < 18446744073709551616) (hy : y < 18446744073709551616) (w : World) :
    Calls Tryd.prog 81 #[.int .u64 (x : Int), .int .u64 (y : Int)] w fun e w' => e = .returned (.tuple #[.int .u64 (mulHi x y : Int), .int .u64 (mulLo x y : Int)]) ∧ w' = w := Any.bits_Mul64 laysMul x y hx hy w
set_option maxRecDepth 100000 in
set_option maxHeartbeats 400000 in
theorem pp_any (a b x y : Nat) (w : World) (ha : a < 18446744073709551616) (hb : b < 18446744073709551616) (hx : x < 18446744073709551616) (hy : y < 18446744073709551616) :
    Calls Tryd.prog 75 #[.int .u64 (a : Int), .int .u64 (b : Int), .int .u64 (x : Int), .int .u64 (y : Int)] w fun e w' => e = .returned (.tuple #[.int .u64 (ppLo a b x y : Int), .int .u64 (ppHi a b x y : Int)]) ∧ w' = w := by
  have hA := add64_run
  have hA0 := add64_0
  have hAy := add64_y0
  have c1 := adC_le (mulLo_lt x y) ha (c := 0) (by decide)
  have c2 := adC_le (adS_lt (mulLo x y) a 0) hb (c := 0) (by decide)
  go_enter Tryd.func75, Tryd.ntmps75
  go_wp2_with (go_at_call 81; refine (mul64_any _ _ hx hy _).mono ?_; rintro e w' ⟨rfl, rfl⟩)
  rw [pp_lo_eq, pp_hi_eq a b x y ha hb hx hy]
  go_ret2
  exact ⟨rfl, rfl⟩

end Go.Proofs.YtnkikhnllnbhfaaDoor
