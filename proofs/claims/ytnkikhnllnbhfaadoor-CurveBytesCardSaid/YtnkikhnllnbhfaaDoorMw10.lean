/-
  Mw10.
-/
import Derived.Test.YtnkikhnllnbhfaaDoorMw9
namespace Go.Proofs.YtnkikhnllnbhfaaDoor
open Go.RowKit
theorem Blk.mod_frozen {w : World} {g : Nat} {t : TypeId} {n sq : P4} {f : Nat} (h : Blk w g t (modCells n sq f)) : w.frozen? ⟨g, 4, none⟩ = false ∧ w.frozen? ⟨g, 5, none⟩ = false ∧ w.frozen? ⟨g, 6, none⟩ = false ∧ w.frozen? ⟨g, 7, none⟩ = false := ⟨h.frozen 4, h.frozen 5, h.frozen 6, h.frozen 7⟩
/-- One step to the inverse of an odd number, by 2^64. -/
def invNext (x y : Nat) : Nat := (IntKind.u64.wrap ((y : Int) * IntKind.u64.wrap (2 - IntKind.u64.wrap ((x : Int) * (y : Int))))).toNat
theorem invNext_val (x y : Nat) : IntKind.u64.wrap ((y : Int) * IntKind.u64.wrap (2 - IntKind.u64.wrap ((x : Int) * (y : Int)))) = ((invNext x y : Nat) : Int) := by
  unfold invNext
  rw [Int.toNat_of_nonneg]
  rw [IntKind.wrap_u64]; omega
def invTo (x : Nat) : Nat → Nat
  | 0 => x
  | k + 1 => invNext x (invTo x k)
theorem inv_step {x y : Nat} {d e : Int} (h : d ∣ (x : Int) * y - 1) (he : e ∣ d * d) (hm : e ∣ 18446744073709551616) : e ∣ (x : Int) * (invNext x y : Nat) - 1 := by
  rw [← invNext_val, IntKind.wrap_u64, IntKind.wrap_u64, IntKind.wrap_u64]
  have h1 := Int.emod_add_mul_ediv ((y : Int) * ((2 - (x : Int) * y % 18446744073709551616) % 18446744073709551616)) 18446744073709551616
  have h2 := Int.emod_add_mul_ediv (2 - (x : Int) * y % 18446744073709551616) 18446744073709551616
  have h3 := Int.emod_add_mul_ediv ((x : Int) * y) 18446744073709551616
  generalize (y : Int) * ((2 - (x : Int) * y % 18446744073709551616) % 18446744073709551616) % 18446744073709551616 = r1 at *
  generalize (y : Int) * ((2 - (x : Int) * y % 18446744073709551616) % 18446744073709551616) / 18446744073709551616 = q1 at *
  generalize (2 - (x : Int) * y % 18446744073709551616) % 18446744073709551616 = r2 at *
  generalize (2 - (x : Int) * y % 18446744073709551616) / 18446744073709551616 = q2 at *
  generalize (x : Int) * y % 18446744073709551616 = r3 at *
  generalize (x : Int) * y / 18446744073709551616 = q3 at *
  -- r1 = y * r2 - M q1; r2 = 2 - r3 - M q2; r3 = x y - M q3
  have e1 : r1 = (y : Int) * r2 - 18446744073709551616 * q1 := by omega
  have e2 : r2 = 2 - (x : Int) * y + 18446744073709551616 * (q3 - q2) := by omega
  have e3 : (x : Int) * r1 - 1 = -(((x : Int) * y - 1) * ((x : Int) * y - 1)) + 18446744073709551616 * ((x : Int) * y * (q3 - q2) - (x : Int) * q1) := by
    rw [e1, e2]
    have a1 : (x : Int) * ((y : Int) * (2 - (x : Int) * y + 18446744073709551616 * (q3 - q2)) - 18446744073709551616 * q1) = (x : Int) * y * 2 - (x : Int) * y * ((x : Int) * y) + 18446744073709551616 * ((x : Int) * y * (q3 - q2)) - 18446744073709551616 * ((x : Int) * q1) := by
      rw [Int.mul_sub, ← Int.mul_assoc, Int.mul_add, Int.mul_sub, Int.mul_left_comm (x : Int) 18446744073709551616 q1, Int.mul_left_comm ((x : Int) * y) 18446744073709551616 (q3 - q2)]
    rw [a1, Int.mul_sub (18446744073709551616 : Int)]
    generalize (x : Int) * y = z
    simp only [Int.sub_mul, Int.mul_sub, Int.mul_one, Int.one_mul]
    omega
  rw [e3]
  obtain ⟨c, hc⟩ := h
  refine Int.dvd_add (Int.dvd_neg.2 ?_) (Int.dvd_trans hm (Int.dvd_mul_right _ _))
  rw [hc]
  refine Int.dvd_trans he ⟨c * c, ?_⟩
  rw [Int.mul_assoc, Int.mul_assoc, Int.mul_left_comm c d c]
theorem odd_sq (x : Nat) (h : x % 2 = 1) : (8 : Int) ∣ (x : Int) * x - 1 := by
  obtain ⟨k, rfl⟩ : ∃ k, x = 2 * k + 1 := ⟨x / 2, by omega⟩
  have e : ((2 * k + 1 : Nat) : Int) * ((2 * k + 1 : Nat) : Int) - 1 = 4 * ((k : Int) * ((k : Int) + 1)) := by
    have a : ((2 * k + 1 : Nat) : Int) = 2 * (k : Int) + 1 := by omega
    rw [a, Int.add_mul, Int.mul_add, Int.mul_add (k : Int), Int.mul_assoc, Int.mul_left_comm (k : Int) 2 (k : Int)]
    omega
  rw [e]
  have h2 : (2 : Int) ∣ (k : Int) * ((k : Int) + 1) := by
    rcases (show (k : Int) % 2 = 0 ∨ (k : Int) % 2 = 1 by omega) with h | h
    · exact Int.dvd_trans (Int.dvd_of_emod_eq_zero h) (Int.dvd_mul_right _ _)
    · exact Int.dvd_trans (Int.dvd_of_emod_eq_zero (show ((k : Int) + 1) % 2 = 0 by omega)) (Int.dvd_mul_left _ _)
  obtain ⟨c, hc⟩ := h2
  exact ⟨c, by rw [hc]; omega⟩
theorem invTo_five (x : Nat) (h : x % 2 = 1) : (18446744073709551616 : Int) ∣ (x : Int) * (invTo x 5 : Nat) - 1 := by
  have h0 : (8 : Int) ∣ (x : Int) * (invTo x 0 : Nat) - 1 := odd_sq x h
  have h1 : (64 : Int) ∣ (x : Int) * (invTo x 1 : Nat) - 1 := inv_step h0 (by decide) (by decide)
  have h2 : (4096 : Int) ∣ (x : Int) * (invTo x 2 : Nat) - 1 := inv_step h1 (by decide) (by decide)
  have h3 : (16777216 : Int) ∣ (x : Int) * (invTo x 3 : Nat) - 1 := inv_step h2 (by decide) (by decide)
  have h4 : (281474976710656 : Int) ∣ (x : Int) * (invTo x 4 : Nat) - 1 := inv_step h3 (by decide) (by decide)
  exact inv_step h4 (by decide) (by decide)
def negP (y : Nat) : Nat := (IntKind.u64.wrap (-(y : Int))).toNat
theorem negP_val (y : Nat) : IntKind.u64.wrap (-(y : Int)) = ((negP y : Nat) : Int) := by
  unfold negP
  rw [Int.toNat_of_nonneg]
  rw [IntKind.wrap_u64]; omega
theorem negP_lt (y : Nat) : negP y < 18446744073709551616 := by
  have := negP_val y
  rw [IntKind.wrap_u64] at this
  omega
theorem factor_eq (x : Nat) (h : x % 2 = 1) : x * negP (invTo x 5) % 18446744073709551616 = 18446744073709551615 := by
  obtain ⟨c, hc⟩ := invTo_five x h
  have h1 := negP_val (invTo x 5)
  rw [IntKind.wrap_u64] at h1
  generalize invTo x 5 = y at *
  generalize negP y = f at *
  have h2 := Int.emod_add_mul_ediv (-(y : Int)) 18446744073709551616
  rw [h1] at h2
  generalize (-(y : Int)) / 18446744073709551616 = q at *
  have e : (x : Int) * f = -1 + 18446744073709551616 * (-c - x * q) := by
    have a : (f : Int) = -(y : Int) - 18446744073709551616 * q := by omega
    rw [a, Int.mul_sub, Int.mul_neg, Int.mul_left_comm, Int.mul_sub, Int.mul_neg]
    omega
  have e2 : (((x * f : Nat) : Int)) % 18446744073709551616 = 18446744073709551615 := by
    rw [Int.natCast_mul, e]; omega
  omega
set_option maxRecDepth 100000 in
set_option maxHeartbeats 400000 in
theorem inverseOf_any (x : Nat) (w : World) : Calls Tryd.prog 61 #[.int .u64 (x : Int)] w fun e w' => e = .returned (.int .u64 (invTo x 5 : Int)) ∧ w' = w := by
  go_enter Tryd.func61, Tryd.ntmps61
  go_wp2
  go_loopw [3, 5] (fun y i wr => ∃ k : Nat, k ≤ 5 ∧ i = .int .i64 k ∧ y = .int .u64 (invTo x k : Int) ∧ wr = w) (fun _ i _ => 5 - (intOf i).toNat)
  case atStart => exact ⟨0, by omega, rfl, rfl, rfl⟩
  case round =>
    obtain ⟨k, hk, rfl, rfl, rfl⟩ := hrel
    by_cases hlt : k < 5
    · have hd2 : decide ((k : Int) < 5) = true := by simp; omega
      have HS : Hid (invTo x (k + 1) = invNext x (invTo x k)) := Lib.hid rfl
      generalize invTo x k = y at *
      have hv := invNext_val x y
      go_wp2
      go_roundw
      case rel => exact ⟨k + 1, by omega, by go_num, by rw [HS.out], trivial⟩
      case measure => simp [intOf]; omega
    · have hd2 : decide ((k : Int) < 5) = false := by simp; omega
      obtain rfl : k = 5 := by omega
      go_wp2
      go_ret
      exact ⟨rfl, rfl⟩
def sqTo (n : P4) : Nat → P4
  | 0 => oneP
  | k + 1 => lessenedP n (plusP (sqTo n k) (sqTo n k)) (plusC (sqTo n k) (sqTo n k))
theorem sqTo_ok (n : P4) : ∀ k, (sqTo n k).ok
  | 0 => oneP_ok
  | _ + 1 => lessenedP_ok (plusP_ok _ _) _
theorem sqTo_val {n : P4} (hn : n.ok) (h2 : 2 < n.val) : ∀ k, (sqTo n k).val = 2 ^ k % n.val
  | 0 => by
    show (1 : Nat) = 2 ^ 0 % n.val
    rw [Nat.pow_zero, Nat.mod_eq_of_lt (by omega)]
  | k + 1 => by
    have ih := sqTo_val hn h2 k
    have hlt : (sqTo n k).val < n.val := by rw [ih]; exact Nat.mod_lt _ (by omega)
    have hp := plus_eq (sqTo n k) (sqTo n k)
    have := lessened_eq (high := plusC (sqTo n k) (sqTo n k)) hn (plusP_ok (sqTo n k) (sqTo n k)) (by omega)
    show (lessenedP n (plusP (sqTo n k) (sqTo n k)) (plusC (sqTo n k) (sqTo n k))).val = _
    rw [this, hp, ih, Nat.pow_succ, Nat.mul_two, ← Nat.add_mod]
theorem two256 : (2 : Nat) ^ 256 = B256 := by decide
theorem sq_of {n : P4} (hn : n.ok) (h2 : 2 < n.val) (k : Nat) : (sqTo n (k + k)).val = 2 ^ k * 2 ^ k % n.val := by
  have h := sqTo_val hn h2 (k + k)
  rwa [Nat.pow_add] at h
theorem sq512 {n : P4} (hn : n.ok) (h2 : 2 < n.val) : (sqTo n 512).val = B256 * B256 % n.val := by
  have h := sq_of hn h2 256
  rw [two256] at h
  exact h
def threeP : P4 := ⟨3, 0, 0, 0⟩
theorem Bit_odd (x : P4) (w : World) (hx : x.ok) (h : x.a % 2 = 1) : Calls Tryd.prog 57 #[.agg #[.int .u64 (x.a : Int), .int .u64 (x.b : Int), .int .u64 (x.c : Int), .int .u64 (x.d : Int)], .int .i64 0] w fun e w' => e = .returned (.int .i64 1) ∧ Below w.heap.size w w' := by
  have hc := Bit_in x 0 w hx (by decide)
  have e : bitP x 0 = 1 := by unfold bitP P4.limb; simp [h]
  rw [e] at hc
  exact hc
theorem Bit_even (x : P4) (w : World) (hx : x.ok) (h : x.a % 2 = 0) : Calls Tryd.prog 57 #[.agg #[.int .u64 (x.a : Int), .int .u64 (x.b : Int), .int .u64 (x.c : Int), .int .u64 (x.d : Int)], .int .i64 0] w fun e w' => e = .returned (.int .i64 0) ∧ Below w.heap.size w w' := by
  have hc := Bit_in x 0 w hx (by decide)
  have e : bitP x 0 = 0 := by unfold bitP P4.limb; simp [h]
  rw [e] at hc
  exact hc
theorem Less3 (x : P4) (b : Bool) (w : World) (h : lessP x threeP = b) : Calls Tryd.prog 51 #[.agg #[.int .u64 (x.a : Int), .int .u64 (x.b : Int), .int .u64 (x.c : Int), .int .u64 (x.d : Int)], .agg #[.int .u64 3, .int .u64 0, .int .u64 0, .int .u64 0]] w fun e w' => e = .returned (.bool b) ∧ Below w.heap.size w w' := by
  have hc := Less_any x threeP w
  rw [h] at hc
  exact hc
set_option maxRecDepth 100000 in
set_option maxHeartbeats 1000000 in
theorem New_even (x : P4) (w : World) (hx : x.ok) (h : x.a % 2 = 0) :
    Calls Tryd.prog 50 #[.agg #[.int .u64 (x.a : Int), .int .u64 (x.b : Int), .int .u64 (x.c : Int), .int .u64 (x.d : Int)]] w fun e w' => e = .returned (.tuple #[.pointer none, .int .i64 1]) ∧ Below w.heap.size w w' := by
  go_enter Tryd.func50, Tryd.ntmps50
  go_upto_region 1 with fail
  have hX : Blk (w.alloc (.cells #[.int .u64 (x.a : Int), .int .u64 (x.b : Int), .int .u64 (x.c : Int), .int .u64 (x.d : Int)] 59)) w.heap.size 59 [.int .u64 (x.a : Int), .int .u64 (x.b : Int), .int .u64 (x.c : Int), .int .u64 (x.d : Int)] := Blk.new_of w _ _ _ rfl
  have hb0 := fresh_one w (.cells #[.int .u64 (x.a : Int), .int .u64 (x.b : Int), .int .u64 (x.c : Int), .int .u64 (x.d : Int)] 59)
  generalize w.alloc (.cells #[.int .u64 (x.a : Int), .int .u64 (x.b : Int), .int .u64 (x.c : Int), .int .u64 (x.d : Int)] 59) = w0 at *
  obtain ⟨y0, y1, y2, y3⟩ := hX.four
  go_wp2_with (go_at_call 57; refine (Bit_even x _ hx h).mono ?_; rintro e w1 ⟨rfl, hb1⟩; replace hX := hX.below hb1 hX.lt; replace hb0 := hb0.trans (hb1.mono hb0.size); obtain ⟨x0, x1, x2, x3⟩ := hX.four; clear hb1)
  refine bodyPost_ret (v := .tuple #[.pointer none, .int .i64 1]) (by simp [results, Tryd.results50, go_sem]) rfl ⟨rfl, hb0⟩
set_option maxRecDepth 100000 in
set_option maxHeartbeats 1000000 in
theorem New_small (x : P4) (w : World) (hx : x.ok) (h : x.a % 2 = 1) (hl : lessP x threeP = true) :
    Calls Tryd.prog 50 #[.agg #[.int .u64 (x.a : Int), .int .u64 (x.b : Int), .int .u64 (x.c : Int), .int .u64 (x.d : Int)]] w fun e w' => e = .returned (.tuple #[.pointer none, .int .i64 1]) ∧ Below w.heap.size w w' := by
  go_enter Tryd.func50, Tryd.ntmps50
  go_upto_region 1 with fail
  have hX : Blk (w.alloc (.cells #[.int .u64 (x.a : Int), .int .u64 (x.b : Int), .int .u64 (x.c : Int), .int .u64 (x.d : Int)] 59)) w.heap.size 59 [.int .u64 (x.a : Int), .int .u64 (x.b : Int), .int .u64 (x.c : Int), .int .u64 (x.d : Int)] := Blk.new_of w _ _ _ rfl
  have hb0 := fresh_one w (.cells #[.int .u64 (x.a : Int), .int .u64 (x.b : Int), .int .u64 (x.c : Int), .int .u64 (x.d : Int)] 59)
  generalize w.alloc (.cells #[.int .u64 (x.a : Int), .int .u64 (x.b : Int), .int .u64 (x.c : Int), .int .u64 (x.d : Int)] 59) = w0 at *
  obtain ⟨y0, y1, y2, y3⟩ := hX.four
  go_wp2_with (first | (go_at_call 57; refine (Bit_odd x _ hx h).mono ?_; rintro e w1 ⟨rfl, hb1⟩; replace hX := hX.below hb1 hX.lt; replace hb0 := hb0.trans (hb1.mono hb0.size); obtain ⟨x0, x1, x2, x3⟩ := hX.four; clear hb1) | (go_at_call 51; refine (Less3 x true _ hl).mono ?_; rintro e w2 ⟨rfl, hb2⟩; replace hX := hX.below hb2 hX.lt; replace hb0 := hb0.trans (hb2.mono hb0.size); clear hb2))
  refine bodyPost_ret (v := .tuple #[.pointer none, .int .i64 1]) (by simp [results, Tryd.results50, go_sem]) rfl ⟨rfl, hb0⟩
set_option maxRecDepth 100000 in
set_option maxHeartbeats 1000000 in
theorem New_any (x : P4) (w : World) (hx : x.ok) (h : x.a % 2 = 1) (hl : lessP x threeP = false) (hbig : 2 < x.val) :
    Calls Tryd.prog 50 #[.agg #[.int .u64 (x.a : Int), .int .u64 (x.b : Int), .int .u64 (x.c : Int), .int .u64 (x.d : Int)]] w fun e w' => ∃ (g : Nat) (sq : P4) (f : Nat), e = .returned (.tuple #[.pointer (some ⟨g, 0, none⟩), .int .i64 0]) ∧ w.heap.size ≤ g ∧ Blk w' g 89 (modCells x sq f) ∧ Md x sq f ∧ Below w.heap.size w w' := by
  go_enter Tryd.func50, Tryd.ntmps50
  go_upto_region 1 with fail
  have hX : Blk (w.alloc (.cells #[.int .u64 (x.a : Int), .int .u64 (x.b : Int), .int .u64 (x.c : Int), .int .u64 (x.d : Int)] 59)) w.heap.size 59 [.int .u64 (x.a : Int), .int .u64 (x.b : Int), .int .u64 (x.c : Int), .int .u64 (x.d : Int)] := Blk.new_of w _ _ _ rfl
  have hb0 := fresh_one w (.cells #[.int .u64 (x.a : Int), .int .u64 (x.b : Int), .int .u64 (x.c : Int), .int .u64 (x.d : Int)] 59)
  generalize w.alloc (.cells #[.int .u64 (x.a : Int), .int .u64 (x.b : Int), .int .u64 (x.c : Int), .int .u64 (x.d : Int)] 59) = w0 at *
  obtain ⟨y0, y1, y2, y3⟩ := hX.four
  go_wp2_with (first | (go_at_call 57; refine (Bit_odd x _ hx h).mono ?_; rintro e w1 ⟨rfl, hb1⟩; replace hX := hX.below hb1 hX.lt; replace hb0 := hb0.trans (hb1.mono hb0.size); obtain ⟨x0, x1, x2, x3⟩ := hX.four; clear hb1) | (go_at_call 51; refine (Less3 x false _ hl).mono ?_; rintro e w2 ⟨rfl, hb2⟩; replace hX := hX.below hb2 hX.lt; replace hb0 := hb0.trans (hb2.mono hb0.size); clear hb2))
  clear x0 x1 x2 x3
  rename_i w0
  rename World => w2
  have lX := hX.lt
  have hx4 := fun (V : World) (h : Below w2.heap.size w2 V) => (hX.below h lX).four
  apply wp_region_once_tail (m := 8) (Z := []) (D := [[], [0], [], [], [3], [0, 1, 3, 4], [0, 1, 3, 4, 5], [0, 1, 2, 3, 4, 5, 6], [0, 1, 2, 3, 4, 5, 6, 7], [0, 1, 2, 3, 4, 5, 6, 7, 8]]) (J := [[], [0], [], [], [3], [4], [5], [1, 2, 6]]) (Je := [7]) (Rs := [Is _, Is _, Is _, Is _, Is _, Is _, Is _, Is _])
  · kernel_rfl
  · kernel_rfl
  · kernel_rfl
  · kernel_rfl
  · kernel_rfl
  · kernel_rfl
  · kernel_rfl
  · exact fun h => absurd rfl h
  · intro u
    simp only [List.take_succ_cons, List.take_zero, List.map_cons, List.map_nil, fillU, List.setIfInBounds_toArray, List.set_cons_zero, List.set_cons_succ, Nat.zero_add, Nat.reduceAdd]
    exact rfl
  · simp only [List.take_succ_cons, List.take_zero]
    refine ⟨fun u W hb hd K hK => ?_, ?_⟩
    · clear hd
      go_simp
      apply hK
      · simp only [Act.put, List.setIfInBounds_toArray, List.set_cons_zero, List.set_cons_succ]
        exact rfl
      · exact Below.refl _ _
      · exact IsOut
    refine ⟨fun u W hb hd K hK => ?_, ?_⟩
    · simp only [Facts, nthR, Is, and_true] at hd
      simp only [hd] at hK ⊢
      clear hd
      go_simp
      refine (parts_any x W).mono ?_
      rintro e wy ⟨rfl, hby⟩
      exact hK _ _ _ rfl hby IsOut
    refine ⟨fun u W hb hd K hK => ?_, ?_⟩
    · clear hd
      go_simp
      apply hK
      · simp only [Act.put, List.setIfInBounds_toArray, List.set_cons_zero, List.set_cons_succ]
        exact rfl
      · exact Below.refl _ _
      · exact IsOut
    refine ⟨fun u W hb hd K hK => ?_, ?_⟩
    · clear hd
      go_simp
      apply hK
      · simp only [Act.put, List.setIfInBounds_toArray, List.set_cons_zero, List.set_cons_succ]
        exact rfl
      · exact Below.refl _ _
      · exact IsOut
    refine ⟨fun u W hb hd K hK => ?_, ?_⟩
    · simp only [Facts, nthR, Is, and_true] at hd
      simp only [hd] at hK ⊢
      clear hd
      go_simp
      apply hK
      · simp only [Act.put, List.setIfInBounds_toArray, List.set_cons_zero, List.set_cons_succ]
        exact rfl
      · exact Below.refl _ _
      · exact IsOut
    refine ⟨fun u W hb hd K hK => ?_, ?_⟩
    · simp only [Facts, nthR, Is, and_true] at hd
      simp only [hd] at hK ⊢
      clear hd
      go_simp
      refine (inverseOf_any x.a W).mono ?_
      rintro e wy ⟨rfl, rfl⟩
      exact hK _ _ _ rfl (Below.refl _ _) IsOut
    refine ⟨fun u W hb hd K hK => ?_, ?_⟩
    · simp only [Facts, nthR, Is, and_true] at hd
      simp only [hd] at hK ⊢
      clear hd
      go_simp
      rw [negP_val]
      apply hK
      · simp only [Act.put, List.setIfInBounds_toArray, List.set_cons_zero, List.set_cons_succ]
        exact rfl
      · exact Below.refl _ _
      · exact IsOut
    refine ⟨fun u W hb hd K hK => ?_, ?_⟩
    · simp only [Facts, nthR, Is, and_true] at hd
      simp only [hd] at hK ⊢
      clear hd
      go_simp
      apply hK
      · simp only [Act.put, List.setIfInBounds_toArray, List.set_cons_zero, List.set_cons_succ]
        exact rfl
      · exact Below.refl _ _
      · exact IsOut
    exact trivial
  · skip
    exact trivial
  · exact (.is (.is (.is (.is (.is (.is (.is (.is .nil))))))))
  · intro u W hb hd
    simp only [List.drop_succ_cons, List.drop_zero]
    simp only [Facts, nthR, Is, and_true] at hd
    simp only [hd]
    go_wp2
    have hM : Blk (W.alloc (.cells #[.int .u64 (x.a : Int), .int .u64 (x.b : Int), .int .u64 (x.c : Int), .int .u64 (x.d : Int), .int .u64 1, .int .u64 0, .int .u64 0, .int .u64 0, .int .u64 ((negP (invTo x.a 5) : Nat) : Int)] 89)) W.heap.size 89 (modCells x (sqTo x 0) (negP (invTo x.a 5))) := Blk.new_of W _ _ _ rfl
    have hbw := (hb0.trans (hb.mono hb0.size))
    have hG := hbw.size
    replace hbw := hbw.alloc hbw.size (.cells #[.int .u64 (x.a : Int), .int .u64 (x.b : Int), .int .u64 (x.c : Int), .int .u64 (x.d : Int), .int .u64 1, .int .u64 0, .int .u64 0, .int .u64 0, .int .u64 ((negP (invTo x.a 5) : Nat) : Int)] 89)
    have hf := negP_lt (invTo x.a 5)
    have hfe := factor_eq x.a h
    clear hx4 hb hX lX hb0 hd
    generalize W.alloc (.cells #[.int .u64 (x.a : Int), .int .u64 (x.b : Int), .int .u64 (x.c : Int), .int .u64 (x.d : Int), .int .u64 1, .int .u64 0, .int .u64 0, .int .u64 0, .int .u64 ((negP (invTo x.a 5) : Nat) : Int)] 89) = w3 at *
    generalize W.heap.size = G at *
    generalize negP (invTo x.a 5) = f at *
    go_loopw [22] (fun i wr => ∃ k : Nat, k ≤ 512 ∧ i = .int .i64 k ∧ Blk wr G 89 (modCells x (sqTo x k) f) ∧ Below w.heap.size w wr) (fun i _ => 512 - (intOf i).toNat)
    case atStart => exact ⟨0, by omega, rfl, hM, hbw⟩
    case round =>
      obtain ⟨k, hk, rfl, hM', hb'⟩ := hrel
      clear hM hbw
      by_cases hlt : k < 512
      · have hd2 : decide ((k : Int) < 512) = true := by simp; omega
        have HS : Hid (sqTo x (k + 1) = lessenedP x (plusP (sqTo x k) (sqTo x k)) (plusC (sqTo x k) (sqTo x k))) := Lib.hid rfl
        have hsok := sqTo_ok x k
        generalize sqTo x k = s at *
        have lM := hM'.lt
        have hm9 := fun (V : World) (h : Below wr.heap.size wr V) => (hM'.below h lM).mod
        have hfz := fun (V : World) (h : Below wr.heap.size wr V) => (hM'.below h lM).mod_frozen
        go_wp2
        apply wp_region_once_tail (m := 11) (Z := []) (D := [[], [], [], [2], [2, 3], [2, 3, 4], [], [6], [6, 7], [6, 7, 8], [1, 2, 3, 4, 5, 6, 7, 8, 9], [0, 1, 2, 3, 4, 5, 6, 7, 8, 9, 10], [0, 1, 2, 3, 4, 5, 6, 7, 8, 9, 10, 11], [0, 1, 2, 3, 4, 5, 6, 7, 8, 9, 10, 11, 12]]) (J := [[], [], [], [2], [3], [4], [], [6], [7], [8], [1, 5, 9]]) (Je := [0, 10]) (Rs := [Is _, Is _, Is _, Is _, Is _, Is _, Is _, Is _, Is _, Is _, Is _])
        · kernel_rfl
        · kernel_rfl
        · kernel_rfl
        · kernel_rfl
        · kernel_rfl
        · kernel_rfl
        · kernel_rfl
        · exact fun h => absurd rfl h
        · intro u
          simp only [List.take_succ_cons, List.take_zero, List.map_cons, List.map_nil, fillU, List.setIfInBounds_toArray, List.set_cons_zero, List.set_cons_succ, Nat.zero_add, Nat.reduceAdd]
          exact rfl
        · simp only [List.take_succ_cons, List.take_zero]
          refine ⟨fun u W hb hd K hK => ?_, ?_⟩
          · clear hd
            go_simp
            apply hK
            · simp only [Act.put, List.setIfInBounds_toArray, List.set_cons_zero, List.set_cons_succ]
              exact rfl
            · exact Below.refl _ _
            · exact IsOut
          refine ⟨fun u W hb hd K hK => ?_, ?_⟩
          · clear hd
            go_simp
            apply hK
            · simp only [Act.put, List.setIfInBounds_toArray, List.set_cons_zero, List.set_cons_succ]
              exact rfl
            · exact Below.refl _ _
            · exact IsOut
          refine ⟨fun u W hb hd K hK => ?_, ?_⟩
          · clear hd
            go_simp
            apply hK
            · simp only [Act.put, List.setIfInBounds_toArray, List.set_cons_zero, List.set_cons_succ]
              exact rfl
            · exact Below.refl _ _
            · exact IsOut
          refine ⟨fun u W hb hd K hK => ?_, ?_⟩
          · simp only [Facts, nthR, Is, and_true] at hd
            simp only [hd] at hK ⊢
            clear hd
            go_simp
            apply hK
            · simp only [Act.put, List.setIfInBounds_toArray, List.set_cons_zero, List.set_cons_succ]
              exact rfl
            · exact Below.refl _ _
            · exact IsOut
          refine ⟨fun u W hb hd K hK => ?_, ?_⟩
          · simp only [Facts, nthR, Is, and_true] at hd
            simp only [hd] at hK ⊢
            clear hd
            go_simp
            apply hK
            · simp only [Act.put, List.setIfInBounds_toArray, List.set_cons_zero, List.set_cons_succ]
              exact rfl
            · exact Below.refl _ _
            · exact IsOut
          refine ⟨fun u W hb hd K hK => ?_, ?_⟩
          · simp only [Facts, nthR, Is, and_true] at hd
            simp only [hd] at hK ⊢
            clear hd
            go_simp
            apply hK
            · simp only [Act.put, List.setIfInBounds_toArray, List.set_cons_zero, List.set_cons_succ]
              exact rfl
            · exact Below.refl _ _
            · exact IsOut
          refine ⟨fun u W hb hd K hK => ?_, ?_⟩
          · clear hd
            go_simp
            apply hK
            · simp only [Act.put, List.setIfInBounds_toArray, List.set_cons_zero, List.set_cons_succ]
              exact rfl
            · exact Below.refl _ _
            · exact IsOut
          refine ⟨fun u W hb hd K hK => ?_, ?_⟩
          · simp only [Facts, nthR, Is, and_true] at hd
            simp only [hd] at hK ⊢
            clear hd
            go_simp
            apply hK
            · simp only [Act.put, List.setIfInBounds_toArray, List.set_cons_zero, List.set_cons_succ]
              exact rfl
            · exact Below.refl _ _
            · exact IsOut
          refine ⟨fun u W hb hd K hK => ?_, ?_⟩
          · simp only [Facts, nthR, Is, and_true] at hd
            simp only [hd] at hK ⊢
            clear hd
            go_simp
            apply hK
            · simp only [Act.put, List.setIfInBounds_toArray, List.set_cons_zero, List.set_cons_succ]
              exact rfl
            · exact Below.refl _ _
            · exact IsOut
          refine ⟨fun u W hb hd K hK => ?_, ?_⟩
          · simp only [Facts, nthR, Is, and_true] at hd
            simp only [hd] at hK ⊢
            clear hd
            go_simp
            apply hK
            · simp only [Act.put, List.setIfInBounds_toArray, List.set_cons_zero, List.set_cons_succ]
              exact rfl
            · exact Below.refl _ _
            · exact IsOut
          refine ⟨fun u W hb hd K hK => ?_, ?_⟩
          · simp only [Facts, nthR, Is, and_true] at hd
            simp only [hd] at hK ⊢
            clear hd
            go_simp
            refine (sum_any G x s s s f W (hM'.below hb lM) hsok hsok).mono ?_
            rintro e wy ⟨rfl, hby⟩
            exact hK _ _ _ rfl hby IsOut
          exact trivial
        · skip
          exact trivial
        · exact (.is (.is (.is (.is (.is (.is (.is (.is (.is (.is (.is .nil)))))))))))
        · intro u W hb hd
          simp only [List.drop_succ_cons, List.drop_zero]
          simp only [Facts, nthR, Is, and_true] at hd
          simp only [hd]
          replace hM' := hM'.below hb lM
          replace hb' := hb'.trans (hb.mono hb'.size)
          clear hm9
          have hm9 := hM'.mod
          have hfz2 := hM'.mod_frozen
          clear hfz
          go_wp2
          go_roundw
          case rel =>
            refine ⟨k + 1, by omega, by go_num, ?_, (((hb'.setCell hG _).setCell hG _).setCell hG _).setCell hG _⟩
            rw [HS.out]
            exact (((hM'.set_ 4 _).set_ 5 _).set_ 6 _).set_ 7 _
          case measure => simp [intOf]; omega
      · have hd2 : decide ((k : Int) < 512) = false := by simp; omega
        obtain rfl : k = 512 := by omega
        go_wp2
        refine bodyPost_ret (v := .tuple #[.pointer (some ⟨G, 0, none⟩), .int .i64 0]) (by simp [results, Tryd.results50, go_sem]) rfl ⟨G, sqTo x 512, f, rfl, hG, hM', ⟨hx, sqTo_ok x 512, hbig, hf, hfe, sq512 hx hbig⟩, hb'⟩

end Go.Proofs.YtnkikhnllnbhfaaDoor
