/-
  Mr4.
-/
import Derived.Test.YtnkikhnllnbhfaaDoorMr3
namespace Go.Proofs.YtnkikhnllnbhfaaDoor
open Go.RowKit
theorem bit_test (x : P4) (j : Nat) : ((x.limb (j / 64) : Int) / 2 ^ (j % 64)).tmod 2 = (bitP x j : Int) := by
  unfold bitP
  rw [Int.tmod_eq_emod_of_nonneg (by exact_mod_cast Nat.zero_le (x.limb (j / 64) / 2 ^ (j % 64)))]
  norm_cast
theorem radd_one (x n : P4) (w : World) (hx : x.ok) (hn : n.ok) (lx : x.val < n.val) (l1 : 1 < n.val) : Calls Tryd.prog 48 #[.agg #[.int .u64 (x.a : Int), .int .u64 (x.b : Int), .int .u64 (x.c : Int), .int .u64 (x.d : Int)], .agg #[.int .u64 1, .int .u64 0, .int .u64 0, .int .u64 0], .agg #[.int .u64 (n.a : Int), .int .u64 (n.b : Int), .int .u64 (n.c : Int), .int .u64 (n.d : Int)]] w fun e w' => e = .returned (.agg #[.int .u64 ((redP n (x.val + 1)).a : Int), .int .u64 ((redP n (x.val + 1)).b : Int), .int .u64 ((redP n (x.val + 1)).c : Int), .int .u64 ((redP n (x.val + 1)).d : Int)]) ∧ Below w.heap.size w w' :=
  radd_v x oneP n w hx oneP_ok hn lx (by rw [oneP_val]; exact l1)
/-- A rest, a product, a power: what a bit of the number makes. -/
theorem st_rest0 {n : P4} (hn : n.ok) (h0 : 0 < n.val) (v : Nat) : redP n ((redP n v).val + (redP n v).val) = redP n (2 * v) := redP_congr (by rw [redP_val hn h0, rest_step0])
theorem st_rest1 {n : P4} (hn : n.ok) (h0 : 0 < n.val) (v : Nat) : redP n ((redP n v).val + 1) = redP n (v + 1) := redP_congr (by rw [redP_val hn h0, rest_step1])
theorem st_mul0 {n : P4} (hn : n.ok) (h0 : 0 < n.val) (a v : Nat) : redP n ((redP n (a * v)).val + (redP n (a * v)).val) = redP n (a * (2 * v)) := redP_congr (by rw [redP_val hn h0, mul_step0])
theorem st_mul1 {n : P4} (hn : n.ok) (h0 : 0 < n.val) (a v : Nat) : redP n ((redP n (a * v)).val + (redP n a).val) = redP n (a * (v + 1)) := redP_congr (by rw [redP_val hn h0, redP_val hn h0, mul_step1])
theorem st_pow0 {n : P4} (hn : n.ok) (h0 : 0 < n.val) (a v : Nat) : redP n ((redP n (a ^ v)).val * (redP n (a ^ v)).val) = redP n (a ^ (2 * v)) := redP_congr (by rw [redP_val hn h0, pow_step0])
theorem st_pow1 {n : P4} (hn : n.ok) (h0 : 0 < n.val) (a v : Nat) : redP n ((redP n (a ^ (2 * v))).val * a) = redP n (a ^ (2 * v + 1)) := redP_congr (by rw [redP_val hn h0, pow_step1])
theorem redP_zero (n : P4) : redP n 0 = zeroP := by unfold redP; rw [Nat.zero_mod]; rfl
theorem redP_one {n : P4} (h : 1 < n.val) : redP n 1 = oneP := by unfold redP; rw [Nat.mod_eq_of_lt h]; rfl
theorem bits_from {x : P4} (hx : x.ok) (j : Nat) (hj : j < 256) : x.val / 2 ^ j = 2 * (x.val / 2 ^ (j + 1)) + bitP x j := by
  rw [bitP_eq hx j hj]; exact shift_step _ _
set_option maxRecDepth 100000 in
set_option maxHeartbeats 400000 in
theorem rRest_any (x n : P4) (w : World) (hx : x.ok) (hn : n.ok) (hbig : 1 < n.val) : Calls Tryd.prog 27 #[.agg #[.int .u64 (x.a : Int), .int .u64 (x.b : Int), .int .u64 (x.c : Int), .int .u64 (x.d : Int)], .agg #[.int .u64 (n.a : Int), .int .u64 (n.b : Int), .int .u64 (n.c : Int), .int .u64 (n.d : Int)]] w fun e w' => e = .returned (.agg #[.int .u64 ((redP n x.val).a : Int), .int .u64 ((redP n x.val).b : Int), .int .u64 ((redP n x.val).c : Int), .int .u64 ((redP n x.val).d : Int)]) ∧ Below w.heap.size w w' := by
  have h0 : 0 < n.val := by omega
  go_enter Tryd.func27, Tryd.ntmps27
  go_wp2
  have hX : Blk ((((w.alloc (.cells #[.int .u64 (x.a : Int), .int .u64 (x.b : Int), .int .u64 (x.c : Int), .int .u64 (x.d : Int)] 29)).alloc (.cells #[.int .u64 (n.a : Int), .int .u64 (n.b : Int), .int .u64 (n.c : Int), .int .u64 (n.d : Int)] 29)).alloc (.cells #[.int .u64 0, .int .u64 0, .int .u64 0, .int .u64 0] 29)).alloc (.cells #[.int .u64 0, .int .u64 0, .int .u64 0, .int .u64 0] 29)) (w.heap.size) 29 [.int .u64 (x.a : Int), .int .u64 (x.b : Int), .int .u64 (x.c : Int), .int .u64 (x.d : Int)] := (((Blk.new_of w _ _ _ rfl).alloc _).alloc _).alloc _
  have hN : Blk ((((w.alloc (.cells #[.int .u64 (x.a : Int), .int .u64 (x.b : Int), .int .u64 (x.c : Int), .int .u64 (x.d : Int)] 29)).alloc (.cells #[.int .u64 (n.a : Int), .int .u64 (n.b : Int), .int .u64 (n.c : Int), .int .u64 (n.d : Int)] 29)).alloc (.cells #[.int .u64 0, .int .u64 0, .int .u64 0, .int .u64 0] 29)).alloc (.cells #[.int .u64 0, .int .u64 0, .int .u64 0, .int .u64 0] 29)) (w.heap.size + 1) 29 [.int .u64 (n.a : Int), .int .u64 (n.b : Int), .int .u64 (n.c : Int), .int .u64 (n.d : Int)] := ((Blk.new2_of w _ _ _ _ rfl).alloc _).alloc _
  have hR : Blk ((((w.alloc (.cells #[.int .u64 (x.a : Int), .int .u64 (x.b : Int), .int .u64 (x.c : Int), .int .u64 (x.d : Int)] 29)).alloc (.cells #[.int .u64 (n.a : Int), .int .u64 (n.b : Int), .int .u64 (n.c : Int), .int .u64 (n.d : Int)] 29)).alloc (.cells #[.int .u64 0, .int .u64 0, .int .u64 0, .int .u64 0] 29)).alloc (.cells #[.int .u64 0, .int .u64 0, .int .u64 0, .int .u64 0] 29)) (w.heap.size + 1 + 1) 29 [.int .u64 0, .int .u64 0, .int .u64 0, .int .u64 0] := (Blk.new3_of w _ _ _ _ _ rfl).alloc _
  have hO : Blk ((((w.alloc (.cells #[.int .u64 (x.a : Int), .int .u64 (x.b : Int), .int .u64 (x.c : Int), .int .u64 (x.d : Int)] 29)).alloc (.cells #[.int .u64 (n.a : Int), .int .u64 (n.b : Int), .int .u64 (n.c : Int), .int .u64 (n.d : Int)] 29)).alloc (.cells #[.int .u64 0, .int .u64 0, .int .u64 0, .int .u64 0] 29)).alloc (.cells #[.int .u64 0, .int .u64 0, .int .u64 0, .int .u64 0] 29)) (w.heap.size + 1 + 1 + 1) 29 [.int .u64 0, .int .u64 0, .int .u64 0, .int .u64 0] := Blk.new4_of w _ _ _ _ _ _ rfl
  have hb0 := (fresh_three w (.cells #[.int .u64 (x.a : Int), .int .u64 (x.b : Int), .int .u64 (x.c : Int), .int .u64 (x.d : Int)] 29) (.cells #[.int .u64 (n.a : Int), .int .u64 (n.b : Int), .int .u64 (n.c : Int), .int .u64 (n.d : Int)] 29) (.cells #[.int .u64 0, .int .u64 0, .int .u64 0, .int .u64 0] 29)).trans ((fresh_one (((w.alloc (.cells #[.int .u64 (x.a : Int), .int .u64 (x.b : Int), .int .u64 (x.c : Int), .int .u64 (x.d : Int)] 29)).alloc (.cells #[.int .u64 (n.a : Int), .int .u64 (n.b : Int), .int .u64 (n.c : Int), .int .u64 (n.d : Int)] 29)).alloc (.cells #[.int .u64 0, .int .u64 0, .int .u64 0, .int .u64 0] 29)) (.cells #[.int .u64 0, .int .u64 0, .int .u64 0, .int .u64 0] 29)).mono (fresh_three w _ _ _).size)
  generalize (((w.alloc (.cells #[.int .u64 (x.a : Int), .int .u64 (x.b : Int), .int .u64 (x.c : Int), .int .u64 (x.d : Int)] 29)).alloc (.cells #[.int .u64 (n.a : Int), .int .u64 (n.b : Int), .int .u64 (n.c : Int), .int .u64 (n.d : Int)] 29)).alloc (.cells #[.int .u64 0, .int .u64 0, .int .u64 0, .int .u64 0] 29)).alloc (.cells #[.int .u64 0, .int .u64 0, .int .u64 0, .int .u64 0] 29) = w1 at *
  go_loopw [6] (fun i wr => ∃ j : Nat, j ≤ 256 ∧ i = .int .i64 ((j : Int) - 1) ∧ Blk wr (w.heap.size + 1 + 1 + 1) 29 [.int .u64 ((redP n ((x.val / 2 ^ j))).a : Int), .int .u64 ((redP n ((x.val / 2 ^ j))).b : Int), .int .u64 ((redP n ((x.val / 2 ^ j))).c : Int), .int .u64 ((redP n ((x.val / 2 ^ j))).d : Int)] ∧ Blk wr (w.heap.size + 1 + 1) 29 [.int .u64 0, .int .u64 0, .int .u64 0, .int .u64 0] ∧ Blk wr (w.heap.size + 1) 29 [.int .u64 (n.a : Int), .int .u64 (n.b : Int), .int .u64 (n.c : Int), .int .u64 (n.d : Int)] ∧ Blk wr (w.heap.size) 29 [.int .u64 (x.a : Int), .int .u64 (x.b : Int), .int .u64 (x.c : Int), .int .u64 (x.d : Int)] ∧ Below w.heap.size w wr) (fun i _ => (intOf i + 1).toNat)
  case atStart => exact ⟨256, by omega, rfl, by rw [shift_all hx, redP_zero]; exact hO, hR, hN, hX, hb0⟩
  case round =>
    obtain ⟨j, hj, rfl, hO', hR', hN', hX', hb'⟩ := hrel
    clear hO hR hN hX hb0
    cases j with
    | zero =>
      have hd2 : decide ((0 : Int) ≤ ((0 : Nat) : Int) - 1) = false := by decide
      rw [show x.val / 2 ^ 0 = x.val by rw [Nat.pow_zero, Nat.div_one]] at hO'
      generalize hz : redP n (x.val) = z at *
      have HZ := Lib.hid hz
      clear hz
      obtain ⟨z0, z1, z2, z3⟩ := hO'.four
      go_wp2_with ((with_reducible refine (?_ : wpList _ _ _ (Oper.mk none (.store 29 (.tmp 4) _) _ _ _ _ :: _) _ _)); go_loud (refine wpList_store_blk rfl 29 (.tmp 4) (.tmp 28) rfl rfl (w.heap.size + 1 + 1) [.int .u64 (z.a : Int), .int .u64 (z.b : Int), .int .u64 (z.c : Int), .int .u64 (z.d : Int)] rfl rfl 29 _ hR' infoT (Eq.trans (b := 4) rfl rfl) (by simp [Value.oneCell']) ?_); intro w4 hR4 hg4)
      refine bodyPost_ret (v := .agg _) (results_cell_row rfl _ _ (w.heap.size + 1 + 1) 29 _ (0, 0) _ rfl hR4.raw Tryd.underlying29 rfl infoT) rfl ⟨by rw [HZ.out], below_new hb' hg4 (by omega) hb'.size⟩
    | succ j =>
      have e1 : (((j + 1 : Nat) : Int)) - 1 = (j : Int) := by omega
      simp only [e1]
      have hd2 : decide ((0 : Int) ≤ (j : Int)) = true := by simp
      have HV := Lib.hid (bits_from hx j (by omega))
      have hjq : j / 64 < 4 := by omega
      have hjq' : ((j / 64 : Nat) : Int) < 4 := by omega
      have LB := Lib.hid (limb_at x (j / 64) hjq)
      have BT := Lib.hid (bit_test x j)
      have BL := bitP_le x j
      generalize x.val / 2 ^ (j + 1) = v at *
      have S0 := fun W => radd_v (redP n v) (redP n v) n W (redP_ok _ _) (redP_ok _ _) hn (redP_lt hn h0 _) (redP_lt hn h0 _)
      rw [st_rest0 hn h0 v] at S0
      have S1 := fun W => radd_one (redP n (2 * v)) n W (redP_ok _ _) hn (redP_lt hn h0 _) hbig
      rw [st_rest1 hn h0 (2 * v)] at S1
      generalize redP n (v) = z at *
      generalize hy0 : redP n ((2 * v)) = y0 at *
      have HY0 := Lib.hid hy0
      clear hy0
      have c0 := (hX'.cell (j / 64)).trans LB.out
      have kO := hO'.lt
      obtain ⟨z0, z1, z2, z3⟩ := hO'.four
      obtain ⟨n0, n1, n2, n3⟩ := hN'.four
      by_cases hb : bitP x j = 1
      · have ht : (((x.limb (j / 64) : Int) / 2 ^ (j % 64)).tmod 2 == 1) = true := by rw [BT.out, hb]; rfl
        have HE : Hid (x.val / 2 ^ j = 2 * v + 1) := Lib.hid (by rw [HV.out, hb])
        clear hb BL
        generalize hy1 : redP n ((2 * v + 1)) = y1 at *
        have HY1 := Lib.hid hy1
        clear hy1
        go_wp2_with (first
          | (go_at_call 48; with_reducible refine (S0 _).mono ?_; rintro e wa ⟨rfl, hba⟩; have hOa := hO'.below hba hO'.lt; have hRa := hR'.below hba hR'.lt; have hNa := hN'.below hba hN'.lt; have hXa := hX'.below hba hX'.lt; have hbA := hb'.trans (hba.mono hb'.size); clear hba z0 z1 z2 z3 c0 n0 n1 n2 n3)
          | ((with_reducible refine (?_ : wpList _ _ _ (Oper.mk none (.store 29 (.tmp 5) _) _ _ _ _ :: _) _ _)); go_loud (refine wpList_store_blk rfl 29 (.tmp 5) (.tmp 14) rfl rfl (w.heap.size + 1 + 1 + 1) [.int .u64 (y0.a : Int), .int .u64 (y0.b : Int), .int .u64 (y0.c : Int), .int .u64 (y0.d : Int)] rfl rfl 29 _ hOa infoT (Eq.trans (b := 4) rfl rfl) (by simp [Value.oneCell']) ?_); intro wb hOb hgb; have hRb := hRa.grown hgb (fun h => by have := Option.some.inj h; omega); have hNb := hNa.grown hgb (fun h => by have := Option.some.inj h; omega); have hXb := hXa.grown hgb (fun h => by have := Option.some.inj h; omega); have hbB := below_new hbA hgb (by omega) hbA.size; have c1 := (hXb.cell (j / 64)).trans LB.out; obtain ⟨z0, z1, z2, z3⟩ := hOb.four; obtain ⟨n0, n1, n2, n3⟩ := hNb.four; have kO' := hOb.lt)
          | (go_at_call 48; with_reducible refine (S1 _).mono ?_; rintro e wc ⟨rfl, hbc⟩; have hOc := hOb.below hbc hOb.lt; have hRc := hRb.below hbc hRb.lt; have hNc := hNb.below hbc hNb.lt; have hXc := hXb.below hbc hXb.lt; have hbC := hbB.trans (hbc.mono hbB.size); clear hbc z0 z1 z2 z3 c1 n0 n1 n2 n3)
          | ((with_reducible refine (?_ : wpList _ _ _ (Oper.mk none (.store 29 (.tmp 5) _) _ _ _ _ :: _) _ _)); go_loud (refine wpList_store_blk rfl 29 (.tmp 5) (.tmp 27) rfl rfl (w.heap.size + 1 + 1 + 1) [.int .u64 (y1.a : Int), .int .u64 (y1.b : Int), .int .u64 (y1.c : Int), .int .u64 (y1.d : Int)] rfl rfl 29 _ hOc infoT (Eq.trans (b := 4) rfl rfl) (by simp [Value.oneCell']) ?_); intro wd hOd hgd; have hRd := hRc.grown hgd (fun h => by have := Option.some.inj h; omega); have hNd := hNc.grown hgd (fun h => by have := Option.some.inj h; omega); have hXd := hXc.grown hgd (fun h => by have := Option.some.inj h; omega); have hbD := below_new hbC hgd (by omega) hbC.size))
        go_roundw
        case rel => exact ⟨j, by omega, by go_num, by rw [HE.out, HY1.out]; exact hOd, hRd, hNd, hXd, hbD⟩
        case measure => simp [intOf]
      · have ht : (((x.limb (j / 64) : Int) / 2 ^ (j % 64)).tmod 2 == 1) = false := by
          rw [BT.out, show bitP x j = 0 by omega]; rfl
        have HE : Hid (x.val / 2 ^ j = 2 * v) := Lib.hid (by rw [HV.out, show bitP x j = 0 by omega]; rfl)
        clear hb BL S1
        go_wp2_with (first
          | (go_at_call 48; with_reducible refine (S0 _).mono ?_; rintro e wa ⟨rfl, hba⟩; have hOa := hO'.below hba hO'.lt; have hRa := hR'.below hba hR'.lt; have hNa := hN'.below hba hN'.lt; have hXa := hX'.below hba hX'.lt; have hbA := hb'.trans (hba.mono hb'.size); clear hba z0 z1 z2 z3 c0 n0 n1 n2 n3)
          | ((with_reducible refine (?_ : wpList _ _ _ (Oper.mk none (.store 29 (.tmp 5) _) _ _ _ _ :: _) _ _)); go_loud (refine wpList_store_blk rfl 29 (.tmp 5) (.tmp 14) rfl rfl (w.heap.size + 1 + 1 + 1) [.int .u64 (y0.a : Int), .int .u64 (y0.b : Int), .int .u64 (y0.c : Int), .int .u64 (y0.d : Int)] rfl rfl 29 _ hOa infoT (Eq.trans (b := 4) rfl rfl) (by simp [Value.oneCell']) ?_); intro wb hOb hgb; have hRb := hRa.grown hgb (fun h => by have := Option.some.inj h; omega); have hNb := hNa.grown hgb (fun h => by have := Option.some.inj h; omega); have hXb := hXa.grown hgb (fun h => by have := Option.some.inj h; omega); have hbB := below_new hbA hgb (by omega) hbA.size; have c1 := (hXb.cell (j / 64)).trans LB.out; obtain ⟨z0, z1, z2, z3⟩ := hOb.four; obtain ⟨n0, n1, n2, n3⟩ := hNb.four; have kO' := hOb.lt))
        go_roundw
        case rel => exact ⟨j, by omega, by go_num, by rw [HE.out, HY0.out]; exact hOb, hRb, hNb, hXb, hbB⟩
        case measure => simp [intOf]
set_option maxRecDepth 100000 in
set_option maxHeartbeats 400000 in
theorem rMul_any (x y n : P4) (w : World) (hx : x.ok) (hy : y.ok) (hn : n.ok) (hbig : 1 < n.val) : Calls Tryd.prog 38 #[.agg #[.int .u64 (x.a : Int), .int .u64 (x.b : Int), .int .u64 (x.c : Int), .int .u64 (x.d : Int)], .agg #[.int .u64 (y.a : Int), .int .u64 (y.b : Int), .int .u64 (y.c : Int), .int .u64 (y.d : Int)], .agg #[.int .u64 (n.a : Int), .int .u64 (n.b : Int), .int .u64 (n.c : Int), .int .u64 (n.d : Int)]] w fun e w' => e = .returned (.agg #[.int .u64 ((redP n (x.val * y.val)).a : Int), .int .u64 ((redP n (x.val * y.val)).b : Int), .int .u64 ((redP n (x.val * y.val)).c : Int), .int .u64 ((redP n (x.val * y.val)).d : Int)]) ∧ Below w.heap.size w w' := by
  have h0 : 0 < n.val := by omega
  go_enter Tryd.func38, Tryd.ntmps38
  go_wp2_with fail
  have hX : Blk ((((w.alloc (.cells #[.int .u64 (x.a : Int), .int .u64 (x.b : Int), .int .u64 (x.c : Int), .int .u64 (x.d : Int)] 29)).alloc (.cells #[.int .u64 (y.a : Int), .int .u64 (y.b : Int), .int .u64 (y.c : Int), .int .u64 (y.d : Int)] 29)).alloc (.cells #[.int .u64 (n.a : Int), .int .u64 (n.b : Int), .int .u64 (n.c : Int), .int .u64 (n.d : Int)] 29)).alloc (.cells #[.int .u64 0, .int .u64 0, .int .u64 0, .int .u64 0] 29)) (w.heap.size) 29 [.int .u64 (x.a : Int), .int .u64 (x.b : Int), .int .u64 (x.c : Int), .int .u64 (x.d : Int)] := (((Blk.new_of w _ _ _ rfl).alloc _).alloc _).alloc _
  have hY : Blk ((((w.alloc (.cells #[.int .u64 (x.a : Int), .int .u64 (x.b : Int), .int .u64 (x.c : Int), .int .u64 (x.d : Int)] 29)).alloc (.cells #[.int .u64 (y.a : Int), .int .u64 (y.b : Int), .int .u64 (y.c : Int), .int .u64 (y.d : Int)] 29)).alloc (.cells #[.int .u64 (n.a : Int), .int .u64 (n.b : Int), .int .u64 (n.c : Int), .int .u64 (n.d : Int)] 29)).alloc (.cells #[.int .u64 0, .int .u64 0, .int .u64 0, .int .u64 0] 29)) (w.heap.size + 1) 29 [.int .u64 (y.a : Int), .int .u64 (y.b : Int), .int .u64 (y.c : Int), .int .u64 (y.d : Int)] := ((Blk.new2_of w _ _ _ _ rfl).alloc _).alloc _
  have hN : Blk ((((w.alloc (.cells #[.int .u64 (x.a : Int), .int .u64 (x.b : Int), .int .u64 (x.c : Int), .int .u64 (x.d : Int)] 29)).alloc (.cells #[.int .u64 (y.a : Int), .int .u64 (y.b : Int), .int .u64 (y.c : Int), .int .u64 (y.d : Int)] 29)).alloc (.cells #[.int .u64 (n.a : Int), .int .u64 (n.b : Int), .int .u64 (n.c : Int), .int .u64 (n.d : Int)] 29)).alloc (.cells #[.int .u64 0, .int .u64 0, .int .u64 0, .int .u64 0] 29)) (w.heap.size + 1 + 1) 29 [.int .u64 (n.a : Int), .int .u64 (n.b : Int), .int .u64 (n.c : Int), .int .u64 (n.d : Int)] := (Blk.new3_of w _ _ _ _ _ rfl).alloc _
  have hR : Blk ((((w.alloc (.cells #[.int .u64 (x.a : Int), .int .u64 (x.b : Int), .int .u64 (x.c : Int), .int .u64 (x.d : Int)] 29)).alloc (.cells #[.int .u64 (y.a : Int), .int .u64 (y.b : Int), .int .u64 (y.c : Int), .int .u64 (y.d : Int)] 29)).alloc (.cells #[.int .u64 (n.a : Int), .int .u64 (n.b : Int), .int .u64 (n.c : Int), .int .u64 (n.d : Int)] 29)).alloc (.cells #[.int .u64 0, .int .u64 0, .int .u64 0, .int .u64 0] 29)) (w.heap.size + 1 + 1 + 1) 29 [.int .u64 0, .int .u64 0, .int .u64 0, .int .u64 0] := Blk.new4_of w _ _ _ _ _ _ rfl
  have hb0 := (fresh_three w (.cells #[.int .u64 (x.a : Int), .int .u64 (x.b : Int), .int .u64 (x.c : Int), .int .u64 (x.d : Int)] 29) (.cells #[.int .u64 (y.a : Int), .int .u64 (y.b : Int), .int .u64 (y.c : Int), .int .u64 (y.d : Int)] 29) (.cells #[.int .u64 (n.a : Int), .int .u64 (n.b : Int), .int .u64 (n.c : Int), .int .u64 (n.d : Int)] 29)).trans ((fresh_one (((w.alloc (.cells #[.int .u64 (x.a : Int), .int .u64 (x.b : Int), .int .u64 (x.c : Int), .int .u64 (x.d : Int)] 29)).alloc (.cells #[.int .u64 (y.a : Int), .int .u64 (y.b : Int), .int .u64 (y.c : Int), .int .u64 (y.d : Int)] 29)).alloc (.cells #[.int .u64 (n.a : Int), .int .u64 (n.b : Int), .int .u64 (n.c : Int), .int .u64 (n.d : Int)] 29)) (.cells #[.int .u64 0, .int .u64 0, .int .u64 0, .int .u64 0] 29)).mono (fresh_three w _ _ _).size)
  generalize (((w.alloc (.cells #[.int .u64 (x.a : Int), .int .u64 (x.b : Int), .int .u64 (x.c : Int), .int .u64 (x.d : Int)] 29)).alloc (.cells #[.int .u64 (y.a : Int), .int .u64 (y.b : Int), .int .u64 (y.c : Int), .int .u64 (y.d : Int)] 29)).alloc (.cells #[.int .u64 (n.a : Int), .int .u64 (n.b : Int), .int .u64 (n.c : Int), .int .u64 (n.d : Int)] 29)).alloc (.cells #[.int .u64 0, .int .u64 0, .int .u64 0, .int .u64 0] 29) = w1 at *
  refine (rRest_any x n _ hx hn hbig).mono ?_
  rintro e w2 ⟨rfl, hb1⟩
  replace hX := hX.below hb1 hX.lt
  replace hY := hY.below hb1 hY.lt
  replace hN := hN.below hb1 hN.lt
  replace hR := hR.below hb1 hR.lt
  replace hb0 := hb0.trans (hb1.mono hb0.size)
  clear hb1
  have hok := redP_ok n x.val
  go_wp2_with ((with_reducible refine (?_ : wpList _ _ _ (Oper.mk none (.store 29 (.tmp 3) _) _ _ _ _ :: _) _ _)); go_loud (refine wpList_store_blk rfl 29 (.tmp 3) (.tmp 11) rfl rfl (w.heap.size) [.int .u64 ((redP n x.val).a : Int), .int .u64 ((redP n x.val).b : Int), .int .u64 ((redP n x.val).c : Int), .int .u64 ((redP n x.val).d : Int)] rfl rfl 29 _ hX infoT (Eq.trans (b := 4) rfl rfl) (by simp [Value.oneCell']) ?_); intro w3 hX3 hg3; have hY3 := hY.grown hg3 (fun h => by have := Option.some.inj h; omega); have hN3 := hN.grown hg3 (fun h => by have := Option.some.inj h; omega); have hR3 := hR.grown hg3 (fun h => by have := Option.some.inj h; omega); have hb3 := below_new hb0 hg3 (by omega) hb0.size)
  have lR := hR3.lt
  have hO := Blk.new_of w3 29 #[.int .u64 0, .int .u64 0, .int .u64 0, .int .u64 0] [.int .u64 0, .int .u64 0, .int .u64 0, .int .u64 0] rfl
  replace hX := hX3.alloc (.cells #[.int .u64 0, .int .u64 0, .int .u64 0, .int .u64 0] 29)
  replace hY := hY3.alloc (.cells #[.int .u64 0, .int .u64 0, .int .u64 0, .int .u64 0] 29)
  replace hN := hN3.alloc (.cells #[.int .u64 0, .int .u64 0, .int .u64 0, .int .u64 0] 29)
  replace hR := hR3.alloc (.cells #[.int .u64 0, .int .u64 0, .int .u64 0, .int .u64 0] 29)
  replace hb0 := hb3.alloc hb3.size (.cells #[.int .u64 0, .int .u64 0, .int .u64 0, .int .u64 0] 29)
  clear hX3 hY3 hN3 hR3 hb3
  generalize w3.alloc (.cells #[.int .u64 0, .int .u64 0, .int .u64 0, .int .u64 0] 29) = w1 at *
  generalize w3.heap.size = gr at *
  go_loopw [8] (fun i wr => ∃ j : Nat, j ≤ 256 ∧ i = .int .i64 ((j : Int) - 1) ∧ Blk wr (gr) 29 [.int .u64 ((redP n (x.val * (y.val / 2 ^ j))).a : Int), .int .u64 ((redP n (x.val * (y.val / 2 ^ j))).b : Int), .int .u64 ((redP n (x.val * (y.val / 2 ^ j))).c : Int), .int .u64 ((redP n (x.val * (y.val / 2 ^ j))).d : Int)] ∧ Blk wr (w.heap.size + 1 + 1 + 1) 29 [.int .u64 0, .int .u64 0, .int .u64 0, .int .u64 0] ∧ Blk wr (w.heap.size + 1 + 1) 29 [.int .u64 (n.a : Int), .int .u64 (n.b : Int), .int .u64 (n.c : Int), .int .u64 (n.d : Int)] ∧ Blk wr (w.heap.size + 1) 29 [.int .u64 (y.a : Int), .int .u64 (y.b : Int), .int .u64 (y.c : Int), .int .u64 (y.d : Int)] ∧ Blk wr (w.heap.size) 29 [.int .u64 ((redP n x.val).a : Int), .int .u64 ((redP n x.val).b : Int), .int .u64 ((redP n x.val).c : Int), .int .u64 ((redP n x.val).d : Int)] ∧ Below w.heap.size w wr) (fun i _ => (intOf i + 1).toNat)
  case atStart => exact ⟨256, by omega, rfl, by rw [shift_all hy, Nat.mul_zero, redP_zero]; exact hO, hR, hN, hY, hX, hb0⟩
  case round =>
    obtain ⟨j, hj, rfl, hO', hR', hN', hY', hX', hb'⟩ := hrel
    clear hO hR hN hY hX hb0
    cases j with
    | zero =>
      have hd2 : decide ((0 : Int) ≤ ((0 : Nat) : Int) - 1) = false := by decide
      rw [show y.val / 2 ^ 0 = y.val by rw [Nat.pow_zero, Nat.div_one]] at hO'
      generalize hz : redP n (x.val * y.val) = z at *
      have HZ := Lib.hid hz
      clear hz
      obtain ⟨z0, z1, z2, z3⟩ := hO'.four
      go_wp2_with ((with_reducible refine (?_ : wpList _ _ _ (Oper.mk none (.store 29 (.tmp 6) _) _ _ _ _ :: _) _ _)); go_loud (refine wpList_store_blk rfl 29 (.tmp 6) (.tmp 33) rfl rfl (w.heap.size + 1 + 1 + 1) [.int .u64 (z.a : Int), .int .u64 (z.b : Int), .int .u64 (z.c : Int), .int .u64 (z.d : Int)] rfl rfl 29 _ hR' infoT (Eq.trans (b := 4) rfl rfl) (by simp [Value.oneCell']) ?_); intro w4 hR4 hg4)
      refine bodyPost_ret (v := .agg _) (results_cell_row rfl _ _ (w.heap.size + 1 + 1 + 1) 29 _ (0, 0) _ rfl hR4.raw Tryd.underlying29 rfl infoT) rfl ⟨by rw [HZ.out], below_new hb' hg4 (by omega) hb'.size⟩
    | succ j =>
      have e1 : (((j + 1 : Nat) : Int)) - 1 = (j : Int) := by omega
      simp only [e1]
      have hd2 : decide ((0 : Int) ≤ (j : Int)) = true := by simp
      have HV := Lib.hid (bits_from hy j (by omega))
      have hjq : j / 64 < 4 := by omega
      have hjq' : ((j / 64 : Nat) : Int) < 4 := by omega
      have LB := Lib.hid (limb_at y (j / 64) hjq)
      have BT := Lib.hid (bit_test y j)
      have BL := bitP_le y j
      generalize y.val / 2 ^ (j + 1) = v at *
      have S0 := fun W => radd_v (redP n (x.val * v)) (redP n (x.val * v)) n W (redP_ok _ _) (redP_ok _ _) hn (redP_lt hn h0 _) (redP_lt hn h0 _)
      rw [st_mul0 hn h0 x.val v] at S0
      have S1 := fun W => radd_v (redP n (x.val * (2 * v))) (redP n x.val) n W (redP_ok _ _) (redP_ok _ _) hn (redP_lt hn h0 _) (redP_lt hn h0 _)
      rw [st_mul1 hn h0 x.val (2 * v)] at S1
      generalize redP n (x.val * v) = z at *
      generalize hy0 : redP n (x.val * (2 * v)) = y0 at *
      have HY0 := Lib.hid hy0
      clear hy0
      have c0 := (hY'.cell (j / 64)).trans LB.out
      have kO := hO'.lt
      obtain ⟨z0, z1, z2, z3⟩ := hO'.four
      obtain ⟨n0, n1, n2, n3⟩ := hN'.four
      obtain ⟨x0, x1, x2, x3⟩ := hX'.four
      by_cases hb : bitP y j = 1
      · have ht : (((y.limb (j / 64) : Int) / 2 ^ (j % 64)).tmod 2 == 1) = true := by rw [BT.out, hb]; rfl
        have HE : Hid (y.val / 2 ^ j = 2 * v + 1) := Lib.hid (by rw [HV.out, hb])
        clear hb BL
        generalize hy1 : redP n (x.val * (2 * v + 1)) = y1 at *
        have HY1 := Lib.hid hy1
        clear hy1
        go_wp2_with (first
          | (go_at_call 48; with_reducible refine (S0 _).mono ?_; rintro e wa ⟨rfl, hba⟩; have hOa := hO'.below hba hO'.lt; have hRa := hR'.below hba hR'.lt; have hNa := hN'.below hba hN'.lt; have hYa := hY'.below hba hY'.lt; have hXa := hX'.below hba hX'.lt; have hbA := hb'.trans (hba.mono hb'.size); clear hba z0 z1 z2 z3 c0 n0 n1 n2 n3 x0 x1 x2 x3)
          | ((with_reducible refine (?_ : wpList _ _ _ (Oper.mk none (.store 29 (.tmp 7) _) _ _ _ _ :: _) _ _)); go_loud (refine wpList_store_blk rfl 29 (.tmp 7) (.tmp 19) rfl rfl (gr) [.int .u64 (y0.a : Int), .int .u64 (y0.b : Int), .int .u64 (y0.c : Int), .int .u64 (y0.d : Int)] rfl rfl 29 _ hOa infoT (Eq.trans (b := 4) rfl rfl) (by simp [Value.oneCell']) ?_); intro wb hOb hgb; have hRb := hRa.grown hgb (fun h => by have := Option.some.inj h; omega); have hNb := hNa.grown hgb (fun h => by have := Option.some.inj h; omega); have hYb := hYa.grown hgb (fun h => by have := Option.some.inj h; omega); have hXb := hXa.grown hgb (fun h => by have := Option.some.inj h; omega); have hbB := below_new hbA hgb (by omega) hbA.size; have c1 := (hYb.cell (j / 64)).trans LB.out; obtain ⟨z0, z1, z2, z3⟩ := hOb.four; obtain ⟨n0, n1, n2, n3⟩ := hNb.four; obtain ⟨x0, x1, x2, x3⟩ := hXb.four; have kO' := hOb.lt)
          | (go_at_call 48; with_reducible refine (S1 _).mono ?_; rintro e wc ⟨rfl, hbc⟩; have hOc := hOb.below hbc hOb.lt; have hRc := hRb.below hbc hRb.lt; have hNc := hNb.below hbc hNb.lt; have hYc := hYb.below hbc hYb.lt; have hXc := hXb.below hbc hXb.lt; have hbC := hbB.trans (hbc.mono hbB.size); clear hbc z0 z1 z2 z3 c1 n0 n1 n2 n3 x0 x1 x2 x3)
          | ((with_reducible refine (?_ : wpList _ _ _ (Oper.mk none (.store 29 (.tmp 7) _) _ _ _ _ :: _) _ _)); go_loud (refine wpList_store_blk rfl 29 (.tmp 7) (.tmp 32) rfl rfl (gr) [.int .u64 (y1.a : Int), .int .u64 (y1.b : Int), .int .u64 (y1.c : Int), .int .u64 (y1.d : Int)] rfl rfl 29 _ hOc infoT (Eq.trans (b := 4) rfl rfl) (by simp [Value.oneCell']) ?_); intro wd hOd hgd; have hRd := hRc.grown hgd (fun h => by have := Option.some.inj h; omega); have hNd := hNc.grown hgd (fun h => by have := Option.some.inj h; omega); have hYd := hYc.grown hgd (fun h => by have := Option.some.inj h; omega); have hXd := hXc.grown hgd (fun h => by have := Option.some.inj h; omega); have hbD := below_new hbC hgd (by omega) hbC.size))
        go_roundw
        case rel => exact ⟨j, by omega, by go_num, by rw [HE.out, HY1.out]; exact hOd, hRd, hNd, hYd, hXd, hbD⟩
        case measure => simp [intOf]
      · have ht : (((y.limb (j / 64) : Int) / 2 ^ (j % 64)).tmod 2 == 1) = false := by
          rw [BT.out, show bitP y j = 0 by omega]; rfl
        have HE : Hid (y.val / 2 ^ j = 2 * v) := Lib.hid (by rw [HV.out, show bitP y j = 0 by omega]; rfl)
        clear hb BL S1
        go_wp2_with (first
          | (go_at_call 48; with_reducible refine (S0 _).mono ?_; rintro e wa ⟨rfl, hba⟩; have hOa := hO'.below hba hO'.lt; have hRa := hR'.below hba hR'.lt; have hNa := hN'.below hba hN'.lt; have hYa := hY'.below hba hY'.lt; have hXa := hX'.below hba hX'.lt; have hbA := hb'.trans (hba.mono hb'.size); clear hba z0 z1 z2 z3 c0 n0 n1 n2 n3 x0 x1 x2 x3)
          | ((with_reducible refine (?_ : wpList _ _ _ (Oper.mk none (.store 29 (.tmp 7) _) _ _ _ _ :: _) _ _)); go_loud (refine wpList_store_blk rfl 29 (.tmp 7) (.tmp 19) rfl rfl (gr) [.int .u64 (y0.a : Int), .int .u64 (y0.b : Int), .int .u64 (y0.c : Int), .int .u64 (y0.d : Int)] rfl rfl 29 _ hOa infoT (Eq.trans (b := 4) rfl rfl) (by simp [Value.oneCell']) ?_); intro wb hOb hgb; have hRb := hRa.grown hgb (fun h => by have := Option.some.inj h; omega); have hNb := hNa.grown hgb (fun h => by have := Option.some.inj h; omega); have hYb := hYa.grown hgb (fun h => by have := Option.some.inj h; omega); have hXb := hXa.grown hgb (fun h => by have := Option.some.inj h; omega); have hbB := below_new hbA hgb (by omega) hbA.size; have c1 := (hYb.cell (j / 64)).trans LB.out; obtain ⟨z0, z1, z2, z3⟩ := hOb.four; obtain ⟨n0, n1, n2, n3⟩ := hNb.four; obtain ⟨x0, x1, x2, x3⟩ := hXb.four; have kO' := hOb.lt))
        go_roundw
        case rel => exact ⟨j, by omega, by go_num, by rw [HE.out, HY0.out]; exact hOb, hRb, hNb, hYb, hXb, hbB⟩
        case measure => simp [intOf]
set_option maxRecDepth 100000 in
set_option maxHeartbeats 400000 in
theorem rPow_any (x y n : P4) (w : World) (hx : x.ok) (hy : y.ok) (hn : n.ok) (hbig : 1 < n.val) : Calls Tryd.prog 47 #[.agg #[.int .u64 (x.a : Int), .int .u64 (x.b : Int), .int .u64 (x.c : Int), .int .u64 (x.d : Int)], .agg #[.int .u64 (y.a : Int), .int .u64 (y.b : Int), .int .u64 (y.c : Int), .int .u64 (y.d : Int)], .agg #[.int .u64 (n.a : Int), .int .u64 (n.b : Int), .int .u64 (n.c : Int), .int .u64 (n.d : Int)]] w fun e w' => e = .returned (.agg #[.int .u64 ((redP n (x.val ^ y.val)).a : Int), .int .u64 ((redP n (x.val ^ y.val)).b : Int), .int .u64 ((redP n (x.val ^ y.val)).c : Int), .int .u64 ((redP n (x.val ^ y.val)).d : Int)]) ∧ Below w.heap.size w w' := by
  have h0 : 0 < n.val := by omega
  go_enter Tryd.func47, Tryd.ntmps47
  go_wp2
  have hX : Blk (((((w.alloc (.cells #[.int .u64 (x.a : Int), .int .u64 (x.b : Int), .int .u64 (x.c : Int), .int .u64 (x.d : Int)] 29)).alloc (.cells #[.int .u64 (y.a : Int), .int .u64 (y.b : Int), .int .u64 (y.c : Int), .int .u64 (y.d : Int)] 29)).alloc (.cells #[.int .u64 (n.a : Int), .int .u64 (n.b : Int), .int .u64 (n.c : Int), .int .u64 (n.d : Int)] 29)).alloc (.cells #[.int .u64 0, .int .u64 0, .int .u64 0, .int .u64 0] 29)).alloc (.cells #[.int .u64 1, .int .u64 0, .int .u64 0, .int .u64 0] 29)) (w.heap.size) 29 [.int .u64 (x.a : Int), .int .u64 (x.b : Int), .int .u64 (x.c : Int), .int .u64 (x.d : Int)] := ((((Blk.new_of w _ _ _ rfl).alloc _).alloc _).alloc _).alloc _
  have hY : Blk (((((w.alloc (.cells #[.int .u64 (x.a : Int), .int .u64 (x.b : Int), .int .u64 (x.c : Int), .int .u64 (x.d : Int)] 29)).alloc (.cells #[.int .u64 (y.a : Int), .int .u64 (y.b : Int), .int .u64 (y.c : Int), .int .u64 (y.d : Int)] 29)).alloc (.cells #[.int .u64 (n.a : Int), .int .u64 (n.b : Int), .int .u64 (n.c : Int), .int .u64 (n.d : Int)] 29)).alloc (.cells #[.int .u64 0, .int .u64 0, .int .u64 0, .int .u64 0] 29)).alloc (.cells #[.int .u64 1, .int .u64 0, .int .u64 0, .int .u64 0] 29)) (w.heap.size + 1) 29 [.int .u64 (y.a : Int), .int .u64 (y.b : Int), .int .u64 (y.c : Int), .int .u64 (y.d : Int)] := (((Blk.new2_of w _ _ _ _ rfl).alloc _).alloc _).alloc _
  have hN : Blk (((((w.alloc (.cells #[.int .u64 (x.a : Int), .int .u64 (x.b : Int), .int .u64 (x.c : Int), .int .u64 (x.d : Int)] 29)).alloc (.cells #[.int .u64 (y.a : Int), .int .u64 (y.b : Int), .int .u64 (y.c : Int), .int .u64 (y.d : Int)] 29)).alloc (.cells #[.int .u64 (n.a : Int), .int .u64 (n.b : Int), .int .u64 (n.c : Int), .int .u64 (n.d : Int)] 29)).alloc (.cells #[.int .u64 0, .int .u64 0, .int .u64 0, .int .u64 0] 29)).alloc (.cells #[.int .u64 1, .int .u64 0, .int .u64 0, .int .u64 0] 29)) (w.heap.size + 1 + 1) 29 [.int .u64 (n.a : Int), .int .u64 (n.b : Int), .int .u64 (n.c : Int), .int .u64 (n.d : Int)] := ((Blk.new3_of w _ _ _ _ _ rfl).alloc _).alloc _
  have hR : Blk (((((w.alloc (.cells #[.int .u64 (x.a : Int), .int .u64 (x.b : Int), .int .u64 (x.c : Int), .int .u64 (x.d : Int)] 29)).alloc (.cells #[.int .u64 (y.a : Int), .int .u64 (y.b : Int), .int .u64 (y.c : Int), .int .u64 (y.d : Int)] 29)).alloc (.cells #[.int .u64 (n.a : Int), .int .u64 (n.b : Int), .int .u64 (n.c : Int), .int .u64 (n.d : Int)] 29)).alloc (.cells #[.int .u64 0, .int .u64 0, .int .u64 0, .int .u64 0] 29)).alloc (.cells #[.int .u64 1, .int .u64 0, .int .u64 0, .int .u64 0] 29)) (w.heap.size + 1 + 1 + 1) 29 [.int .u64 0, .int .u64 0, .int .u64 0, .int .u64 0] := (Blk.new4_of w _ _ _ _ _ _ rfl).alloc _
  have hO : Blk (((((w.alloc (.cells #[.int .u64 (x.a : Int), .int .u64 (x.b : Int), .int .u64 (x.c : Int), .int .u64 (x.d : Int)] 29)).alloc (.cells #[.int .u64 (y.a : Int), .int .u64 (y.b : Int), .int .u64 (y.c : Int), .int .u64 (y.d : Int)] 29)).alloc (.cells #[.int .u64 (n.a : Int), .int .u64 (n.b : Int), .int .u64 (n.c : Int), .int .u64 (n.d : Int)] 29)).alloc (.cells #[.int .u64 0, .int .u64 0, .int .u64 0, .int .u64 0] 29)).alloc (.cells #[.int .u64 1, .int .u64 0, .int .u64 0, .int .u64 0] 29)) (w.heap.size + 1 + 1 + 1 + 1) 29 [.int .u64 1, .int .u64 0, .int .u64 0, .int .u64 0] := Blk.new5_of w _ _ _ _ _ _ _ rfl
  have hb0 := (fresh_three w (.cells #[.int .u64 (x.a : Int), .int .u64 (x.b : Int), .int .u64 (x.c : Int), .int .u64 (x.d : Int)] 29) (.cells #[.int .u64 (y.a : Int), .int .u64 (y.b : Int), .int .u64 (y.c : Int), .int .u64 (y.d : Int)] 29) (.cells #[.int .u64 (n.a : Int), .int .u64 (n.b : Int), .int .u64 (n.c : Int), .int .u64 (n.d : Int)] 29)).trans ((fresh_two (((w.alloc (.cells #[.int .u64 (x.a : Int), .int .u64 (x.b : Int), .int .u64 (x.c : Int), .int .u64 (x.d : Int)] 29)).alloc (.cells #[.int .u64 (y.a : Int), .int .u64 (y.b : Int), .int .u64 (y.c : Int), .int .u64 (y.d : Int)] 29)).alloc (.cells #[.int .u64 (n.a : Int), .int .u64 (n.b : Int), .int .u64 (n.c : Int), .int .u64 (n.d : Int)] 29)) (.cells #[.int .u64 0, .int .u64 0, .int .u64 0, .int .u64 0] 29) (.cells #[.int .u64 1, .int .u64 0, .int .u64 0, .int .u64 0] 29)).mono (fresh_three w _ _ _).size)
  generalize ((((w.alloc (.cells #[.int .u64 (x.a : Int), .int .u64 (x.b : Int), .int .u64 (x.c : Int), .int .u64 (x.d : Int)] 29)).alloc (.cells #[.int .u64 (y.a : Int), .int .u64 (y.b : Int), .int .u64 (y.c : Int), .int .u64 (y.d : Int)] 29)).alloc (.cells #[.int .u64 (n.a : Int), .int .u64 (n.b : Int), .int .u64 (n.c : Int), .int .u64 (n.d : Int)] 29)).alloc (.cells #[.int .u64 0, .int .u64 0, .int .u64 0, .int .u64 0] 29)).alloc (.cells #[.int .u64 1, .int .u64 0, .int .u64 0, .int .u64 0] 29) = w1 at *
  go_loopw [8] (fun i wr => ∃ j : Nat, j ≤ 256 ∧ i = .int .i64 ((j : Int) - 1) ∧ Blk wr (w.heap.size + 1 + 1 + 1 + 1) 29 [.int .u64 ((redP n (x.val ^ (y.val / 2 ^ j))).a : Int), .int .u64 ((redP n (x.val ^ (y.val / 2 ^ j))).b : Int), .int .u64 ((redP n (x.val ^ (y.val / 2 ^ j))).c : Int), .int .u64 ((redP n (x.val ^ (y.val / 2 ^ j))).d : Int)] ∧ Blk wr (w.heap.size + 1 + 1 + 1) 29 [.int .u64 0, .int .u64 0, .int .u64 0, .int .u64 0] ∧ Blk wr (w.heap.size + 1 + 1) 29 [.int .u64 (n.a : Int), .int .u64 (n.b : Int), .int .u64 (n.c : Int), .int .u64 (n.d : Int)] ∧ Blk wr (w.heap.size + 1) 29 [.int .u64 (y.a : Int), .int .u64 (y.b : Int), .int .u64 (y.c : Int), .int .u64 (y.d : Int)] ∧ Blk wr (w.heap.size) 29 [.int .u64 (x.a : Int), .int .u64 (x.b : Int), .int .u64 (x.c : Int), .int .u64 (x.d : Int)] ∧ Below w.heap.size w wr) (fun i _ => (intOf i + 1).toNat)
  case atStart => exact ⟨256, by omega, rfl, by rw [shift_all hy, Nat.pow_zero, redP_one hbig]; exact hO, hR, hN, hY, hX, hb0⟩
  case round =>
    obtain ⟨j, hj, rfl, hO', hR', hN', hY', hX', hb'⟩ := hrel
    clear hO hR hN hY hX hb0
    cases j with
    | zero =>
      have hd2 : decide ((0 : Int) ≤ ((0 : Nat) : Int) - 1) = false := by decide
      rw [show y.val / 2 ^ 0 = y.val by rw [Nat.pow_zero, Nat.div_one]] at hO'
      generalize hz : redP n (x.val ^ y.val) = z at *
      have HZ := Lib.hid hz
      clear hz
      obtain ⟨z0, z1, z2, z3⟩ := hO'.four
      go_wp2_with ((with_reducible refine (?_ : wpList _ _ _ (Oper.mk none (.store 29 (.tmp 6) _) _ _ _ _ :: _) _ _)); go_loud (refine wpList_store_blk rfl 29 (.tmp 6) (.tmp 31) rfl rfl (w.heap.size + 1 + 1 + 1) [.int .u64 (z.a : Int), .int .u64 (z.b : Int), .int .u64 (z.c : Int), .int .u64 (z.d : Int)] rfl rfl 29 _ hR' infoT (Eq.trans (b := 4) rfl rfl) (by simp [Value.oneCell']) ?_); intro w4 hR4 hg4)
      refine bodyPost_ret (v := .agg _) (results_cell_row rfl _ _ (w.heap.size + 1 + 1 + 1) 29 _ (0, 0) _ rfl hR4.raw Tryd.underlying29 rfl infoT) rfl ⟨by rw [HZ.out], below_new hb' hg4 (by omega) hb'.size⟩
    | succ j =>
      have e1 : (((j + 1 : Nat) : Int)) - 1 = (j : Int) := by omega
      simp only [e1]
      have hd2 : decide ((0 : Int) ≤ (j : Int)) = true := by simp
      have HV := Lib.hid (bits_from hy j (by omega))
      have hjq : j / 64 < 4 := by omega
      have hjq' : ((j / 64 : Nat) : Int) < 4 := by omega
      have LB := Lib.hid (limb_at y (j / 64) hjq)
      have BT := Lib.hid (bit_test y j)
      have BL := bitP_le y j
      generalize y.val / 2 ^ (j + 1) = v at *
      have S0 := fun W => rMul_any (redP n (x.val ^ v)) (redP n (x.val ^ v)) n W (redP_ok _ _) (redP_ok _ _) hn hbig
      rw [st_pow0 hn h0 x.val v] at S0
      have S1 := fun W => rMul_any (redP n (x.val ^ (2 * v))) x n W (redP_ok _ _) hx hn hbig
      rw [st_pow1 hn h0 x.val v] at S1
      generalize redP n (x.val ^ v) = z at *
      generalize hy0 : redP n (x.val ^ (2 * v)) = y0 at *
      have HY0 := Lib.hid hy0
      clear hy0
      have c0 := (hY'.cell (j / 64)).trans LB.out
      have kO := hO'.lt
      obtain ⟨z0, z1, z2, z3⟩ := hO'.four
      obtain ⟨n0, n1, n2, n3⟩ := hN'.four
      obtain ⟨x0, x1, x2, x3⟩ := hX'.four
      by_cases hb : bitP y j = 1
      · have ht : (((y.limb (j / 64) : Int) / 2 ^ (j % 64)).tmod 2 == 1) = true := by rw [BT.out, hb]; rfl
        have HE : Hid (y.val / 2 ^ j = 2 * v + 1) := Lib.hid (by rw [HV.out, hb])
        clear hb BL
        generalize hy1 : redP n (x.val ^ (2 * v + 1)) = y1 at *
        have HY1 := Lib.hid hy1
        clear hy1
        go_wp2_with (first
          | (go_at_call 38; with_reducible refine (S0 _).mono ?_; rintro e wa ⟨rfl, hba⟩; have hOa := hO'.below hba hO'.lt; have hRa := hR'.below hba hR'.lt; have hNa := hN'.below hba hN'.lt; have hYa := hY'.below hba hY'.lt; have hXa := hX'.below hba hX'.lt; have hbA := hb'.trans (hba.mono hb'.size); clear hba z0 z1 z2 z3 c0 n0 n1 n2 n3 x0 x1 x2 x3)
          | ((with_reducible refine (?_ : wpList _ _ _ (Oper.mk none (.store 29 (.tmp 7) _) _ _ _ _ :: _) _ _)); go_loud (refine wpList_store_blk rfl 29 (.tmp 7) (.tmp 17) rfl rfl (w.heap.size + 1 + 1 + 1 + 1) [.int .u64 (y0.a : Int), .int .u64 (y0.b : Int), .int .u64 (y0.c : Int), .int .u64 (y0.d : Int)] rfl rfl 29 _ hOa infoT (Eq.trans (b := 4) rfl rfl) (by simp [Value.oneCell']) ?_); intro wb hOb hgb; have hRb := hRa.grown hgb (fun h => by have := Option.some.inj h; omega); have hNb := hNa.grown hgb (fun h => by have := Option.some.inj h; omega); have hYb := hYa.grown hgb (fun h => by have := Option.some.inj h; omega); have hXb := hXa.grown hgb (fun h => by have := Option.some.inj h; omega); have hbB := below_new hbA hgb (by omega) hbA.size; have c1 := (hYb.cell (j / 64)).trans LB.out; obtain ⟨z0, z1, z2, z3⟩ := hOb.four; obtain ⟨n0, n1, n2, n3⟩ := hNb.four; obtain ⟨x0, x1, x2, x3⟩ := hXb.four; have kO' := hOb.lt)
          | (go_at_call 38; with_reducible refine (S1 _).mono ?_; rintro e wc ⟨rfl, hbc⟩; have hOc := hOb.below hbc hOb.lt; have hRc := hRb.below hbc hRb.lt; have hNc := hNb.below hbc hNb.lt; have hYc := hYb.below hbc hYb.lt; have hXc := hXb.below hbc hXb.lt; have hbC := hbB.trans (hbc.mono hbB.size); clear hbc z0 z1 z2 z3 c1 n0 n1 n2 n3 x0 x1 x2 x3)
          | ((with_reducible refine (?_ : wpList _ _ _ (Oper.mk none (.store 29 (.tmp 7) _) _ _ _ _ :: _) _ _)); go_loud (refine wpList_store_blk rfl 29 (.tmp 7) (.tmp 30) rfl rfl (w.heap.size + 1 + 1 + 1 + 1) [.int .u64 (y1.a : Int), .int .u64 (y1.b : Int), .int .u64 (y1.c : Int), .int .u64 (y1.d : Int)] rfl rfl 29 _ hOc infoT (Eq.trans (b := 4) rfl rfl) (by simp [Value.oneCell']) ?_); intro wd hOd hgd; have hRd := hRc.grown hgd (fun h => by have := Option.some.inj h; omega); have hNd := hNc.grown hgd (fun h => by have := Option.some.inj h; omega); have hYd := hYc.grown hgd (fun h => by have := Option.some.inj h; omega); have hXd := hXc.grown hgd (fun h => by have := Option.some.inj h; omega); have hbD := below_new hbC hgd (by omega) hbC.size))
        go_roundw
        case rel => exact ⟨j, by omega, by go_num, by rw [HE.out, HY1.out]; exact hOd, hRd, hNd, hYd, hXd, hbD⟩
        case measure => simp [intOf]
      · have ht : (((y.limb (j / 64) : Int) / 2 ^ (j % 64)).tmod 2 == 1) = false := by
          rw [BT.out, show bitP y j = 0 by omega]; rfl
        have HE : Hid (y.val / 2 ^ j = 2 * v) := Lib.hid (by rw [HV.out, show bitP y j = 0 by omega]; rfl)
        clear hb BL S1
        go_wp2_with (first
          | (go_at_call 38; with_reducible refine (S0 _).mono ?_; rintro e wa ⟨rfl, hba⟩; have hOa := hO'.below hba hO'.lt; have hRa := hR'.below hba hR'.lt; have hNa := hN'.below hba hN'.lt; have hYa := hY'.below hba hY'.lt; have hXa := hX'.below hba hX'.lt; have hbA := hb'.trans (hba.mono hb'.size); clear hba z0 z1 z2 z3 c0 n0 n1 n2 n3 x0 x1 x2 x3)
          | ((with_reducible refine (?_ : wpList _ _ _ (Oper.mk none (.store 29 (.tmp 7) _) _ _ _ _ :: _) _ _)); go_loud (refine wpList_store_blk rfl 29 (.tmp 7) (.tmp 17) rfl rfl (w.heap.size + 1 + 1 + 1 + 1) [.int .u64 (y0.a : Int), .int .u64 (y0.b : Int), .int .u64 (y0.c : Int), .int .u64 (y0.d : Int)] rfl rfl 29 _ hOa infoT (Eq.trans (b := 4) rfl rfl) (by simp [Value.oneCell']) ?_); intro wb hOb hgb; have hRb := hRa.grown hgb (fun h => by have := Option.some.inj h; omega); have hNb := hNa.grown hgb (fun h => by have := Option.some.inj h; omega); have hYb := hYa.grown hgb (fun h => by have := Option.some.inj h; omega); have hXb := hXa.grown hgb (fun h => by have := Option.some.inj h; omega); have hbB := below_new hbA hgb (by omega) hbA.size; have c1 := (hYb.cell (j / 64)).trans LB.out; obtain ⟨z0, z1, z2, z3⟩ := hOb.four; obtain ⟨n0, n1, n2, n3⟩ := hNb.four; obtain ⟨x0, x1, x2, x3⟩ := hXb.four; have kO' := hOb.lt))
        go_roundw
        case rel => exact ⟨j, by omega, by go_num, by rw [HE.out, HY0.out]; exact hOb, hRb, hNb, hYb, hXb, hbB⟩
        case measure => simp [intOf]

end Go.Proofs.YtnkikhnllnbhfaaDoor
