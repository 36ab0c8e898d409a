/-
  The contracts of package gcm's elements: sums, times x, products.
-/
import Derived.Test.YtefbjhdcmgonbaaBs2
import Derived.Test.YtefbjhdcmgonbaaGw
namespace Go.Proofs.Ytefbjhdcmgonbaa
open Go.RowKit

theorem infoEl : (Try.prog.info? 94).map (·.size) = some 2 := by kernel_rfl
theorem q_neg (v : BitVec 64) : IntKind.u64.wrap (-(v.toNat : Int)) = ((-v).toNat : Int) := by
  rw [IntKind.wrap_u64, BitVec.toNat_neg]
  have := v.isLt
  omega
theorem q_over (a : BitVec 64) : bits .and .u64 (a.toNat : Int) (16212958658533785600 : Int) = ((a &&& gOver).toNat : Int) := q_and a gOver
theorem q_one (a : BitVec 64) : bits .and .u64 (a.toNat : Int) (1 : Int) = ((a &&& 1#64).toNat : Int) := q_and a 1#64
theorem q_shr63 (a : BitVec 64) : (a.toNat : Int) / (9223372036854775808 : Int) = ((a >>> 63).toNat : Int) := q_shr a 63
theorem q_shl63 (a : BitVec 64) : IntKind.u64.wrap ((a.toNat : Int) * (9223372036854775808 : Int)) = ((a <<< 63).toNat : Int) := q_shl a 63
set_option maxRecDepth 100000 in
set_option maxHeartbeats 1000000 in
theorem plus_e (a b c d : BitVec 64) (w : World) : Calls Try.prog 58 #[.agg #[.int .u64 (a.toNat : Int), .int .u64 (b.toNat : Int)], .agg #[.int .u64 (c.toNat : Int), .int .u64 (d.toNat : Int)]] w fun e w' => e = .returned (.agg #[.int .u64 ((a ^^^ c).toNat : Int), .int .u64 ((b ^^^ d).toNat : Int)]) ∧ Below w.heap.size w w' := by
  have hA : Blk (((w.alloc (.cells #[.int .u64 (a.toNat : Int), .int .u64 (b.toNat : Int)] 94)).alloc (.cells #[.int .u64 (c.toNat : Int), .int .u64 (d.toNat : Int)] 94)).alloc (.cells #[.int .u64 0, .int .u64 0] 94)) w.heap.size 94 [.int .u64 (a.toNat : Int), .int .u64 (b.toNat : Int)] := ((Blk.new_of w 94 #[.int .u64 (a.toNat : Int), .int .u64 (b.toNat : Int)] [.int .u64 (a.toNat : Int), .int .u64 (b.toNat : Int)] rfl).alloc _).alloc _
  have hB : Blk (((w.alloc (.cells #[.int .u64 (a.toNat : Int), .int .u64 (b.toNat : Int)] 94)).alloc (.cells #[.int .u64 (c.toNat : Int), .int .u64 (d.toNat : Int)] 94)).alloc (.cells #[.int .u64 0, .int .u64 0] 94)) (w.heap.size + 1) 94 [.int .u64 (c.toNat : Int), .int .u64 (d.toNat : Int)] := (Blk.new2_of w (.cells #[.int .u64 (a.toNat : Int), .int .u64 (b.toNat : Int)] 94) 94 #[.int .u64 (c.toNat : Int), .int .u64 (d.toNat : Int)] [.int .u64 (c.toNat : Int), .int .u64 (d.toNat : Int)] rfl).alloc _
  have hO := Blk.new3_of w (.cells #[.int .u64 (a.toNat : Int), .int .u64 (b.toNat : Int)] 94) (.cells #[.int .u64 (c.toNat : Int), .int .u64 (d.toNat : Int)] 94) 94 #[.int .u64 0, .int .u64 0] [.int .u64 0, .int .u64 0] rfl
  have hbw := (((Below.refl w.heap.size w).alloc (Nat.le_refl _) (.cells #[.int .u64 (a.toNat : Int), .int .u64 (b.toNat : Int)] 94)).alloc (by simp) (.cells #[.int .u64 (c.toNat : Int), .int .u64 (d.toNat : Int)] 94)).alloc (by simp; omega) (.cells #[.int .u64 0, .int .u64 0] 94)
  have x0 := q_xor a c
  have x1 := q_xor b d
  go_enter Try.func58, Try.ntmps58
  have c0 := (show Blk _ _ _ [.int .u64 (a.toNat : Int), .int .u64 (b.toNat : Int)] from hA).cell 0
  have c1 := (show Blk _ _ _ [.int .u64 (a.toNat : Int), .int .u64 (b.toNat : Int)] from hA).cell 1
  have c2 := (show Blk _ _ _ [.int .u64 (c.toNat : Int), .int .u64 (d.toNat : Int)] from hB).cell 0
  have c3 := (show Blk _ _ _ [.int .u64 (c.toNat : Int), .int .u64 (d.toNat : Int)] from hB).cell 1
  simp only [List.getElem?_cons_zero, List.getElem?_cons_succ] at c0 c1 c2 c3
  clear hA hB
  go_wp2_with ((with_reducible refine (?_ : wpList _ _ _ (Oper.mk none (.store 94 (.tmp 4) _) _ _ _ _ :: _) _ _)); go_loud (refine wpList_store_blk rfl 94 (.tmp 4) (.tmp 15) rfl rfl (w.heap.size + 1 + 1) [.int .u64 ((a ^^^ c).toNat : Int), .int .u64 ((b ^^^ d).toNat : Int)] rfl rfl 94 _ hO infoEl rfl (by simp [Value.oneCell']) ?_); intro w7 hA7 hg7)
  refine bodyPost_ret (v := .agg _) (results_cell_row rfl _ _ (w.heap.size + 1 + 1) 94 _ (0, 0) _ rfl hA7.raw Try.underlying94 rfl infoEl) rfl ⟨rfl, below_new hbw hg7 (by omega) hbw.size⟩
set_option maxRecDepth 100000 in
set_option maxHeartbeats 1000000 in
theorem timesX_e (h l : BitVec 64) (w : World) : Calls Try.prog 63 #[.agg #[.int .u64 (h.toNat : Int), .int .u64 (l.toNat : Int)]] w fun e w' => e = .returned (.agg #[.int .u64 ((xh h l).toNat : Int), .int .u64 ((xl h l).toNat : Int)]) ∧ Below w.heap.size w w' := by
  have hA : Blk ((w.alloc (.cells #[.int .u64 (h.toNat : Int), .int .u64 (l.toNat : Int)] 94)).alloc (.cells #[.int .u64 0, .int .u64 0] 94)) w.heap.size 94 [.int .u64 (h.toNat : Int), .int .u64 (l.toNat : Int)] := (Blk.new_of w 94 #[.int .u64 (h.toNat : Int), .int .u64 (l.toNat : Int)] [.int .u64 (h.toNat : Int), .int .u64 (l.toNat : Int)] rfl).alloc _
  have hO := Blk.new2_of w (.cells #[.int .u64 (h.toNat : Int), .int .u64 (l.toNat : Int)] 94) 94 #[.int .u64 0, .int .u64 0] [.int .u64 0, .int .u64 0] rfl
  have hbw := ((Below.refl w.heap.size w).alloc (Nat.le_refl _) (.cells #[.int .u64 (h.toNat : Int), .int .u64 (l.toNat : Int)] 94)).alloc (by simp) (.cells #[.int .u64 0, .int .u64 0] 94)
  have hxh : xh h l = (h >>> 1) ^^^ ((-(l &&& 1#64)) &&& gOver) := rfl
  have hxl : xl h l = (l >>> 1) ||| (h <<< 63) := rfl
  have e1 := q_shr1 h
  have e2 := q_one l
  generalize l &&& 1#64 = m at *
  have e3 := q_neg m
  generalize -m = m2 at *
  have e4 := q_over m2
  generalize m2 &&& gOver = m3 at *
  generalize h >>> 1 = h1 at *
  have e5 := q_xor h1 m3
  rw [← hxh] at e5
  generalize xh h l = X at *
  have f1 := q_shr1 l
  generalize l >>> 1 = l1 at *
  have f2 := q_shl63 h
  generalize h <<< 63 = h2 at *
  have f3 := q_or l1 h2
  rw [← hxl] at f3
  generalize xl h l = Y at *
  clear hxh hxl
  go_enter Try.func63, Try.ntmps63
  have c0 := (show Blk _ _ _ [.int .u64 (h.toNat : Int), .int .u64 (l.toNat : Int)] from hA).cell 0
  have c1 := (show Blk _ _ _ [.int .u64 (h.toNat : Int), .int .u64 (l.toNat : Int)] from hA).cell 1
  simp only [List.getElem?_cons_zero, List.getElem?_cons_succ] at c0 c1
  clear hA
  go_wp2_with ((with_reducible refine (?_ : wpList _ _ _ (Oper.mk none (.store 94 (.tmp 2) _) _ _ _ _ :: _) _ _)); go_loud (refine wpList_store_blk rfl 94 (.tmp 2) (.tmp 19) rfl rfl (w.heap.size + 1) [.int .u64 (X.toNat : Int), .int .u64 (Y.toNat : Int)] rfl rfl 94 _ hO infoEl rfl (by simp [Value.oneCell']) ?_); intro w7 hA7 hg7)
  refine bodyPost_ret (v := .agg _) (results_cell_row rfl _ _ (w.heap.size + 1) 94 _ (0, 0) _ rfl hA7.raw Try.underlying94 rfl infoEl) rfl ⟨rfl, below_new hbw hg7 (by omega) hbw.size⟩
set_option maxRecDepth 100000 in
set_option maxHeartbeats 1000000 in
theorem times_e (a0 a1 b0 b1 : BitVec 64) (w : World) : Calls Try.prog 59 #[.agg #[.int .u64 (a0.toNat : Int), .int .u64 (a1.toNat : Int)], .agg #[.int .u64 (b0.toNat : Int), .int .u64 (b1.toNat : Int)]] w fun e w' => e = .returned (.agg #[.int .u64 ((gN a0 a1 b0 b1 128).s0.toNat : Int), .int .u64 ((gN a0 a1 b0 b1 128).s1.toNat : Int)]) ∧ Below w.heap.size w w' := by
  have hz : ∀ W : World, (zeroValue 94).run Try.prog W = .ok (.agg #[.int .u64 0, .int .u64 0]) W := fun W => by kernel_rfl
  go_enter Try.func59, Try.ntmps59
  go_wp2
  have hA : Blk ((((w.alloc (.cells #[.int .u64 (a0.toNat : Int), .int .u64 (a1.toNat : Int)] 94)).alloc (.cells #[.int .u64 (b0.toNat : Int), .int .u64 (b1.toNat : Int)] 94)).alloc (.cells #[.int .u64 0, .int .u64 0] 94)).alloc (.cells #[.int .u64 0, .int .u64 0] 94)) w.heap.size 94 [.int .u64 (a0.toNat : Int), .int .u64 (a1.toNat : Int)] := (((Blk.new_of w 94 #[.int .u64 (a0.toNat : Int), .int .u64 (a1.toNat : Int)] [.int .u64 (a0.toNat : Int), .int .u64 (a1.toNat : Int)] rfl).alloc _).alloc _).alloc _
  have hB : Blk ((((w.alloc (.cells #[.int .u64 (a0.toNat : Int), .int .u64 (a1.toNat : Int)] 94)).alloc (.cells #[.int .u64 (b0.toNat : Int), .int .u64 (b1.toNat : Int)] 94)).alloc (.cells #[.int .u64 0, .int .u64 0] 94)).alloc (.cells #[.int .u64 0, .int .u64 0] 94)) (w.heap.size + 1) 94 [.int .u64 (b0.toNat : Int), .int .u64 (b1.toNat : Int)] := ((Blk.new2_of w (.cells #[.int .u64 (a0.toNat : Int), .int .u64 (a1.toNat : Int)] 94) 94 #[.int .u64 (b0.toNat : Int), .int .u64 (b1.toNat : Int)] [.int .u64 (b0.toNat : Int), .int .u64 (b1.toNat : Int)] rfl).alloc _).alloc _
  have hR := (Blk.new3_of w (.cells #[.int .u64 (a0.toNat : Int), .int .u64 (a1.toNat : Int)] 94) (.cells #[.int .u64 (b0.toNat : Int), .int .u64 (b1.toNat : Int)] 94) 94 #[.int .u64 0, .int .u64 0] [.int .u64 0, .int .u64 0] rfl).alloc (.cells #[.int .u64 0, .int .u64 0] 94)
  have hS := Blk.new3_of (w.alloc (.cells #[.int .u64 (a0.toNat : Int), .int .u64 (a1.toNat : Int)] 94)) (.cells #[.int .u64 (b0.toNat : Int), .int .u64 (b1.toNat : Int)] 94) (.cells #[.int .u64 0, .int .u64 0] 94) 94 #[.int .u64 0, .int .u64 0] [.int .u64 0, .int .u64 0] rfl
  rw [show (w.alloc (.cells #[.int .u64 (a0.toNat : Int), .int .u64 (a1.toNat : Int)] 94)).heap.size = w.heap.size + 1 by simp] at hS
  have hbw := ((((Below.refl w.heap.size w).alloc (Nat.le_refl _) (.cells #[.int .u64 (a0.toNat : Int), .int .u64 (a1.toNat : Int)] 94)).alloc (by simp) (.cells #[.int .u64 (b0.toNat : Int), .int .u64 (b1.toNat : Int)] 94)).alloc (by simp; omega) (.cells #[.int .u64 0, .int .u64 0] 94)).alloc (by simp; omega) (.cells #[.int .u64 0, .int .u64 0] 94)
  have hne := (show w.heap.size ≠ w.heap.size + 1 ∧ w.heap.size ≠ w.heap.size + 1 + 1 ∧ w.heap.size ≠ w.heap.size + 1 + 1 + 1 ∧ w.heap.size + 1 ≠ w.heap.size + 1 + 1 ∧ w.heap.size + 1 ≠ w.heap.size + 1 + 1 + 1 ∧ w.heap.size + 1 + 1 ≠ w.heap.size + 1 + 1 + 1 ∧ w.heap.size ≤ w.heap.size + 1 ∧ w.heap.size ≤ w.heap.size + 1 + 1 ∧ w.heap.size ≤ w.heap.size + 1 + 1 + 1 by omega)
  clear hz
  generalize w.heap.size + 1 + 1 + 1 = gs at *
  generalize w.heap.size + 1 + 1 = gr at *
  generalize w.heap.size + 1 = gb at *
  go_loopw [7] (fun i wr => ∃ k : Nat, k ≤ 128 ∧ i = .int .i64 (k : Int) ∧ Blk wr w.heap.size 94 [.int .u64 ((gN a0 a1 b0 b1 k).a0.toNat : Int), .int .u64 ((gN a0 a1 b0 b1 k).a1.toNat : Int)] ∧ Blk wr gb 94 [.int .u64 ((gN a0 a1 b0 b1 k).b0.toNat : Int), .int .u64 ((gN a0 a1 b0 b1 k).b1.toNat : Int)] ∧ Blk wr gr 94 [.int .u64 0, .int .u64 0] ∧ Blk wr gs 94 [.int .u64 ((gN a0 a1 b0 b1 k).s0.toNat : Int), .int .u64 ((gN a0 a1 b0 b1 k).s1.toNat : Int)] ∧ Below w.heap.size w wr) (fun i _ => 128 - (intOf i).toNat)
  case atStart => exact ⟨0, by omega, rfl, hA, hB, hR, hS, hbw⟩
  case round =>
    clear hA hB hR hS hbw
    obtain ⟨k, hk, rfl, hA, hB, hR, hS, hbw⟩ := hrel
    by_cases hlt : k < 128
    · have hd : decide ((k : Int) < 128) = true := by simp; omega
      have hst : gN a0 a1 b0 b1 (k + 1) = gStep (gN a0 a1 b0 b1 k) := rfl
      generalize gN a0 a1 b0 b1 k = g0 at *
      obtain ⟨A0, A1, B0, B1, S0, S1⟩ := g0
      have HST := Lib.hid hst
      clear hst
      dsimp only at hA hB hS
      obtain ⟨t, ht⟩ : ∃ t, t = A0 >>> 63 := ⟨_, rfl⟩
      obtain ⟨M, hM⟩ : ∃ M, M = -t := ⟨_, rfl⟩
      obtain ⟨P0, hP0⟩ : ∃ P, P = B0 &&& M := ⟨_, rfl⟩
      obtain ⟨P1, hP1⟩ : ∃ P, P = B1 &&& M := ⟨_, rfl⟩
      obtain ⟨u, hu⟩ : ∃ u, u = A0 <<< 1 := ⟨_, rfl⟩
      obtain ⟨v, hv⟩ : ∃ v, v = A1 >>> 63 := ⟨_, rfl⟩
      obtain ⟨X0, hX0⟩ : ∃ X, X = u ||| v := ⟨_, rfl⟩
      obtain ⟨X1, hX1⟩ : ∃ X, X = A1 <<< 1 := ⟨_, rfl⟩
      have e1 := q_shr63 A0
      rw [← ht] at e1
      have e2 := q_neg t
      rw [← hM] at e2
      have e3 := q_and B0 M
      rw [← hP0] at e3
      have e4 := q_and B1 M
      rw [← hP1] at e4
      have e5 := q_shl1 A0
      rw [← hu] at e5
      have e6 := q_shr63 A1
      rw [← hv] at e6
      have e7 := q_or u v
      rw [← hX0] at e7
      have e8 := q_shl1 A1
      rw [← hX1] at e8
      have HG := Lib.hid (show gN a0 a1 b0 b1 (k + 1) = ⟨X0, X1, xh B0 B1, xl B0 B1, S0 ^^^ P0, S1 ^^^ P1⟩ by rw [HST.out]; unfold gStep; simp only; rw [hX0, hX1, hP0, hP1, hM, ht, hu, hv])
      clear HST ht hM hP0 hP1 hu hv hX0 hX1
      have cP := plus_e S0 S1 P0 P1
      have cX := timesX_e B0 B1
      obtain ⟨T0, hT0⟩ : ∃ T, T = S0 ^^^ P0 := ⟨_, rfl⟩
      obtain ⟨T1, hT1⟩ : ∃ T, T = S1 ^^^ P1 := ⟨_, rfl⟩
      obtain ⟨Y0, hY0⟩ : ∃ T, T = xh B0 B1 := ⟨_, rfl⟩
      obtain ⟨Y1, hY1⟩ : ∃ T, T = xl B0 B1 := ⟨_, rfl⟩
      rw [← hT0, ← hT1] at cP
      rw [← hY0, ← hY1] at cX
      rw [← hT0, ← hT1, ← hY0, ← hY1] at HG
      clear hT0 hT1 hY0 hY1
      have k0 := (show Blk _ _ _ [.int .u64 (A0.toNat : Int), .int .u64 (A1.toNat : Int)] from hA).cell 0
      have k2 := (show Blk _ _ _ [.int .u64 (B0.toNat : Int), .int .u64 (B1.toNat : Int)] from hB).cell 0
      have k3 := (show Blk _ _ _ [.int .u64 (B0.toNat : Int), .int .u64 (B1.toNat : Int)] from hB).cell 1
      simp only [List.getElem?_cons_zero, List.getElem?_cons_succ] at k0 k2 k3
      go_wp2_with (first
        | ((with_reducible refine (?_ : wpList _ _ _ (Oper.mk (some 13) _ _ _ _ _ :: _) _ _)); go_loud (refine wpList_load_blk rfl 94 (.tmp 5) rfl gs rfl 94 _ _ hS Try.underlying94 rfl infoEl ?_))
        | (go_at_call 58; go_loud (refine (cP _).mono ?_); rintro e w5 ⟨rfl, hb5⟩)
        | ((with_reducible refine (?_ : wpList _ _ _ (Oper.mk none (.store 94 (.tmp 5) _) _ _ _ _ :: _) _ _)); go_loud (refine wpList_store_blk rfl 94 (.tmp 5) (.tmp 23) rfl rfl gs [.int .u64 (T0.toNat : Int), .int .u64 (T1.toNat : Int)] rfl rfl 94 _ (hS.below hb5 hS.lt) infoEl rfl (by simp [Value.oneCell']) ?_); intro w6 hS6 hg6
           have hA6 := (hA.below hb5 hA.lt).grown hg6 (by simp; exact hne.2.2.1)
           have hB6 := (hB.below hb5 hB.lt).grown hg6 (by simp; exact hne.2.2.2.2.1)
           have hR6 := (hR.below hb5 hR.lt).grown hg6 (by simp; exact hne.2.2.2.2.2.1)
           have hb6 := below_new (hbw.trans (hb5.mono hbw.size)) hg6 hne.2.2.2.2.2.2.2.2 (Nat.le_trans hbw.size hb5.size)
           have m0 := (show Blk _ _ _ [.int .u64 (A0.toNat : Int), .int .u64 (A1.toNat : Int)] from hA6).cell 0
           have m1 := (show Blk _ _ _ [.int .u64 (A0.toNat : Int), .int .u64 (A1.toNat : Int)] from hA6).cell 1
           simp only [List.getElem?_cons_zero, List.getElem?_cons_succ] at m0 m1
           clear k0 k2 k3 hA hB hR hS hbw hb5 hg6)
        | ((with_reducible refine (?_ : wpList _ _ _ (Oper.mk none (.store 94 (.tmp 2) _) _ _ _ _ :: _) _ _)); go_loud (refine wpList_store_blk rfl 94 (.tmp 2) (.tmp 34) rfl rfl w.heap.size [.int .u64 (X0.toNat : Int), .int .u64 (X1.toNat : Int)] rfl rfl 94 _ hA6 infoEl rfl (by simp [Value.oneCell']) ?_); intro w7 hA7 hg7
           have hB7 := hB6.grown hg7 (by simp; exact Ne.symm hne.1)
           have hR7 := hR6.grown hg7 (by simp; exact Ne.symm hne.2.1)
           have hS7 := hS6.grown hg7 (by simp; exact Ne.symm hne.2.2.1)
           have hb7 := below_new hb6 hg7 (Nat.le_refl _) hb6.size
           clear m0 m1 hA6 hB6 hR6 hS6 hb6 hg7)
        | ((with_reducible refine (?_ : wpList _ _ _ (Oper.mk (some 35) _ _ _ _ _ :: _) _ _)); go_loud (refine wpList_load_blk rfl 94 (.tmp 3) rfl gb rfl 94 _ _ hB7 Try.underlying94 rfl infoEl ?_))
        | (go_at_call 63; go_loud (refine (cX _).mono ?_); rintro e w8 ⟨rfl, hb8⟩)
        | ((with_reducible refine (?_ : wpList _ _ _ (Oper.mk none (.store 94 (.tmp 3) _) _ _ _ _ :: _) _ _)); go_loud (refine wpList_store_blk rfl 94 (.tmp 3) (.tmp 36) rfl rfl gb [.int .u64 (Y0.toNat : Int), .int .u64 (Y1.toNat : Int)] rfl rfl 94 _ (hB7.below hb8 hB7.lt) infoEl rfl (by simp [Value.oneCell']) ?_); intro w9 hB9 hg9
           have hA9 := (hA7.below hb8 hA7.lt).grown hg9 (by simp; exact hne.1)
           have hR9 := (hR7.below hb8 hR7.lt).grown hg9 (by simp; exact Ne.symm hne.2.2.2.1)
           have hS9 := (hS7.below hb8 hS7.lt).grown hg9 (by simp; exact Ne.symm hne.2.2.2.2.1)
           have hb9 := below_new (hb7.trans (hb8.mono hb7.size)) hg9 hne.2.2.2.2.2.2.1 (Nat.le_trans hb7.size hb8.size)
           clear hA7 hB7 hR7 hS7 hb7 hb8 hg9))
      go_roundw
      case rel => exact ⟨k + 1, by omega, by go_num, by rw [HG.out]; exact hA9, by rw [HG.out]; exact hB9, hR9, by rw [HG.out]; exact hS9, hb9⟩
      case measure => simp [intOf]; omega
    · have hd : decide ((k : Int) < 128) = false := by simp; omega
      obtain rfl : k = 128 := by omega
      obtain ⟨s0, hs0⟩ : ∃ s, s = (gN a0 a1 b0 b1 128).s0 := ⟨_, rfl⟩
      obtain ⟨s1, hs1⟩ : ∃ s, s = (gN a0 a1 b0 b1 128).s1 := ⟨_, rfl⟩
      rw [← hs0, ← hs1] at hS
      have HS0 := Lib.hid hs0
      have HS1 := Lib.hid hs1
      clear hs0 hs1 hA hB
      go_wp2_with (first
        | ((with_reducible refine (?_ : wpList _ _ _ (Oper.mk (some 38) _ _ _ _ _ :: _) _ _)); go_loud (refine wpList_load_blk rfl 94 (.tmp 5) rfl gs rfl 94 _ _ hS Try.underlying94 rfl infoEl ?_))
        | ((with_reducible refine (?_ : wpList _ _ _ (Oper.mk none (.store 94 (.tmp 4) _) _ _ _ _ :: _) _ _)); go_loud (refine wpList_store_blk rfl 94 (.tmp 4) (.tmp 38) rfl rfl gr [.int .u64 (s0.toNat : Int), .int .u64 (s1.toNat : Int)] rfl rfl 94 _ hR infoEl rfl (by simp [Value.oneCell']) ?_); intro w7 hA7 hg7))
      refine bodyPost_ret (v := .agg _) (results_cell_row rfl _ _ gr 94 _ (0, 0) _ rfl hA7.raw Try.underlying94 rfl infoEl) rfl ⟨by rw [HS0.out, HS1.out], below_new hbw hg7 hne.2.2.2.2.2.2.2.1 hbw.size⟩
end Go.Proofs.Ytefbjhdcmgonbaa
