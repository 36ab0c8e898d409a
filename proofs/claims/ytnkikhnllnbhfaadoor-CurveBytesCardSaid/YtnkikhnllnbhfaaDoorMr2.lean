/-
  Mr2.
-/
import Derived.Test.YtnkikhnllnbhfaaDoorMq
import Derived.Test.YtnkikhnllnbhfaaDoorMr1
namespace Go.Proofs.YtnkikhnllnbhfaaDoor
open Go.RowKit
/-- Does a sum go over? -/
def overP (x y : P4) : Bool := (plusC x y : Int) == 1
set_option maxRecDepth 100000 in
set_option maxHeartbeats 400000 in
theorem rplus_any (x y : P4) (w : World) (hx : x.ok) (hy : y.ok) : Calls Tryd.prog 44 #[.agg #[.int .u64 (x.a : Int), .int .u64 (x.b : Int), .int .u64 (x.c : Int), .int .u64 (x.d : Int)], .agg #[.int .u64 (y.a : Int), .int .u64 (y.b : Int), .int .u64 (y.c : Int), .int .u64 (y.d : Int)]] w fun e w' => e = .returned (.tuple #[.agg #[.int .u64 ((plusP x y).a : Int), .int .u64 ((plusP x y).b : Int), .int .u64 ((plusP x y).c : Int), .int .u64 ((plusP x y).d : Int)], .bool (overP x y)]) ∧ Below w.heap.size w w' := by
  go_enter Tryd.func44, Tryd.ntmps44
  go_wp2
  have hX : Blk ((((w.alloc (.cells #[.int .u64 (x.a : Int), .int .u64 (x.b : Int), .int .u64 (x.c : Int), .int .u64 (x.d : Int)] 29)).alloc (.cells #[.int .u64 (y.a : Int), .int .u64 (y.b : Int), .int .u64 (y.c : Int), .int .u64 (y.d : Int)] 29)).alloc (.cells #[.int .u64 0, .int .u64 0, .int .u64 0, .int .u64 0] 29)).alloc (.cells #[.int .u64 0, .int .u64 0, .int .u64 0, .int .u64 0] 29)) (w.heap.size) 29 [.int .u64 (x.a : Int), .int .u64 (x.b : Int), .int .u64 (x.c : Int), .int .u64 (x.d : Int)] := (((Blk.new_of w _ _ _ rfl).alloc _).alloc _).alloc _
  have hY : Blk ((((w.alloc (.cells #[.int .u64 (x.a : Int), .int .u64 (x.b : Int), .int .u64 (x.c : Int), .int .u64 (x.d : Int)] 29)).alloc (.cells #[.int .u64 (y.a : Int), .int .u64 (y.b : Int), .int .u64 (y.c : Int), .int .u64 (y.d : Int)] 29)).alloc (.cells #[.int .u64 0, .int .u64 0, .int .u64 0, .int .u64 0] 29)).alloc (.cells #[.int .u64 0, .int .u64 0, .int .u64 0, .int .u64 0] 29)) (w.heap.size + 1) 29 [.int .u64 (y.a : Int), .int .u64 (y.b : Int), .int .u64 (y.c : Int), .int .u64 (y.d : Int)] := ((Blk.new2_of w _ _ _ _ rfl).alloc _).alloc _
  have hR : Blk ((((w.alloc (.cells #[.int .u64 (x.a : Int), .int .u64 (x.b : Int), .int .u64 (x.c : Int), .int .u64 (x.d : Int)] 29)).alloc (.cells #[.int .u64 (y.a : Int), .int .u64 (y.b : Int), .int .u64 (y.c : Int), .int .u64 (y.d : Int)] 29)).alloc (.cells #[.int .u64 0, .int .u64 0, .int .u64 0, .int .u64 0] 29)).alloc (.cells #[.int .u64 0, .int .u64 0, .int .u64 0, .int .u64 0] 29)) (w.heap.size + 1 + 1) 29 [.int .u64 0, .int .u64 0, .int .u64 0, .int .u64 0] := (Blk.new3_of w _ _ _ _ _ rfl).alloc _
  have hO : Blk ((((w.alloc (.cells #[.int .u64 (x.a : Int), .int .u64 (x.b : Int), .int .u64 (x.c : Int), .int .u64 (x.d : Int)] 29)).alloc (.cells #[.int .u64 (y.a : Int), .int .u64 (y.b : Int), .int .u64 (y.c : Int), .int .u64 (y.d : Int)] 29)).alloc (.cells #[.int .u64 0, .int .u64 0, .int .u64 0, .int .u64 0] 29)).alloc (.cells #[.int .u64 0, .int .u64 0, .int .u64 0, .int .u64 0] 29)) (w.heap.size + 1 + 1 + 1) 29 [.int .u64 0, .int .u64 0, .int .u64 0, .int .u64 0] := Blk.new4_of w _ _ _ _ _ _ rfl
  have hb0 := (fresh_three w (.cells #[.int .u64 (x.a : Int), .int .u64 (x.b : Int), .int .u64 (x.c : Int), .int .u64 (x.d : Int)] 29) (.cells #[.int .u64 (y.a : Int), .int .u64 (y.b : Int), .int .u64 (y.c : Int), .int .u64 (y.d : Int)] 29) (.cells #[.int .u64 0, .int .u64 0, .int .u64 0, .int .u64 0] 29)).trans ((fresh_one (((w.alloc (.cells #[.int .u64 (x.a : Int), .int .u64 (x.b : Int), .int .u64 (x.c : Int), .int .u64 (x.d : Int)] 29)).alloc (.cells #[.int .u64 (y.a : Int), .int .u64 (y.b : Int), .int .u64 (y.c : Int), .int .u64 (y.d : Int)] 29)).alloc (.cells #[.int .u64 0, .int .u64 0, .int .u64 0, .int .u64 0] 29)) (.cells #[.int .u64 0, .int .u64 0, .int .u64 0, .int .u64 0] 29)).mono (fresh_three w _ _ _).size)
  generalize (((w.alloc (.cells #[.int .u64 (x.a : Int), .int .u64 (x.b : Int), .int .u64 (x.c : Int), .int .u64 (x.d : Int)] 29)).alloc (.cells #[.int .u64 (y.a : Int), .int .u64 (y.b : Int), .int .u64 (y.c : Int), .int .u64 (y.d : Int)] 29)).alloc (.cells #[.int .u64 0, .int .u64 0, .int .u64 0, .int .u64 0] 29)).alloc (.cells #[.int .u64 0, .int .u64 0, .int .u64 0, .int .u64 0] 29) = w1 at *
  go_loopw [7, 8] (fun ov i wr => ∃ k : Nat, k ≤ 4 ∧ i = .int .i64 k ∧ ov = .int .u64 (carP x y k : Int) ∧ Blk wr (w.heap.size + 1 + 1 + 1) 29 [.int .u64 ((outP x y k).a : Int), .int .u64 ((outP x y k).b : Int), .int .u64 ((outP x y k).c : Int), .int .u64 ((outP x y k).d : Int)] ∧ Blk wr (w.heap.size + 1 + 1) 29 [.int .u64 0, .int .u64 0, .int .u64 0, .int .u64 0] ∧ Blk wr (w.heap.size + 1) 29 [.int .u64 (y.a : Int), .int .u64 (y.b : Int), .int .u64 (y.c : Int), .int .u64 (y.d : Int)] ∧ Blk wr w.heap.size 29 [.int .u64 (x.a : Int), .int .u64 (x.b : Int), .int .u64 (x.c : Int), .int .u64 (x.d : Int)] ∧ Below w.heap.size w wr) (fun _ i _ => 4 - (intOf i).toNat)
  case atStart => exact ⟨0, by omega, rfl, rfl, hO, hR, hY, hX, hb0⟩
  case round =>
    obtain ⟨k, hk, rfl, rfl, hO', hR', hY', hX', hb'⟩ := hrel
    clear hX hY hR hO hb0
    by_cases hlt : k < 4
    · have hd2 : decide ((k : Int) < 4) = true := by simp; omega
      have c0 := (hX'.cell k).trans (limb_at x k hlt)
      have c1 := (hY'.cell k).trans (limb_at y k hlt)
      have HC : Hid (carP x y (k + 1) = adC (x.limb k) (y.limb k) (carP x y k)) := Lib.hid rfl
      have HO : Hid (outP x y (k + 1) = (outP x y k).setLimb k (adS (x.limb k) (y.limb k) (carP x y k))) := Lib.hid rfl
      have ha := limb_lt hx k
      have hb := limb_lt hy k
      have hv : carP x y k ≤ 1 := carP_le hx hy k
      have lx := limb_at x k hlt
      have ly := limb_at y k hlt
      generalize x.limb k = a at *
      generalize y.limb k = b at *
      generalize carP x y k = v at *
      have LX := Lib.hid lx
      have LY := Lib.hid ly
      clear lx ly
      obtain ⟨s, hs⟩ : ∃ s, s = (a + b) % 18446744073709551616 := ⟨_, rfl⟩
      have hsw : IntKind.u64.wrap ((a : Int) + (b : Int)) = (s : Int) := by rw [IntKind.wrap_u64]; omega
      have HS := Lib.hid hs
      have hsl : s < 18446744073709551616 := by omega
      obtain ⟨o, ho⟩ : ∃ o, o = (s + v) % 18446744073709551616 := ⟨_, rfl⟩
      have how : IntKind.u64.wrap ((s : Int) + (v : Int)) = (o : Int) := by rw [IntKind.wrap_u64]; omega
      have HQ := Lib.hid ho
      have HA := Lib.hid ha
      have HB := Lib.hid hb
      have HV := Lib.hid hv
      have hz := limb_at (outP x y k) k hlt
      generalize outP x y k = z at *
      clear hs ho ha hb hv hsl
      have hk4 : (k : Int) < 4 := by omega
      go_wp2
      go_quiet (fail)
      clear hsw
      replace hX' := hX'.drewN nq
      replace hY' := hY'.drewN nq
      replace hO' := hO'.drewN nq
      replace hR' := hR'.drewN nq
      replace hb' := below_drewN hb' nq
      clear c0 c1
      generalize wr.drewN nq = w2 at *
      clear nq
      have c0 := (hX'.cell k).trans LX.out
      have c1 := (hY'.cell k).trans LY.out
      have f0 := hO'.frozen k
      have co := (hO'.cell k).trans hz
      have HZ := Lib.hid hz
      clear hz
      go_wp2
      all_goals go_roundw
      all_goals first
        | (case rel =>
            refine ⟨k + 1, by omega, by go_num, ?_, ?_, hR'.far (by simp) _, hY'.far (by simp) _, hX'.far (by simp; omega) _, hb'.setCell (by simp; omega) _⟩
            · rw [HC.out]
              have h1 := HS.out; have h2 := HQ.out; have h3 := HA.out; have h4 := HB.out; have h5 := HV.out
              unfold adC
              congr 1
              first | omega | (split <;> omega)
            · rw [HO.out, ← set_limb _ _ _ hlt, show adS a b v = o by have h1 := HS.out; have h2 := HQ.out; have h3 := HA.out; have h4 := HB.out; have h5 := HV.out; unfold adS; omega]
              exact hO'.set_ _ _)
        | (case measure => simp [intOf]; omega)
    · have hd2 : decide ((k : Int) < 4) = false := by simp; omega
      obtain rfl : k = 4 := by omega
      rw [show outP x y 4 = plusP x y from rfl] at hO'
      clear hd2 hlt hk
      simp only [show carP x y 4 = plusC x y from rfl]
      obtain ⟨z0, z1, z2, z3⟩ := hO'.four
      go_wp2_with ((with_reducible refine (?_ : wpList _ _ _ (Oper.mk none (.store 29 (.tmp 4) _) _ _ _ _ :: _) _ _)); go_loud (refine wpList_store_blk rfl 29 (.tmp 4) (.tmp 38) rfl rfl (w.heap.size + 1 + 1) [.int .u64 ((plusP x y).a : Int), .int .u64 ((plusP x y).b : Int), .int .u64 ((plusP x y).c : Int), .int .u64 ((plusP x y).d : Int)] rfl rfl 29 _ hR' infoT (Eq.trans (b := 4) rfl rfl) (by simp [Value.oneCell']) ?_); intro w4 hR4 hg4)
      refine bodyPost_ret (results_row_slot rfl _ _ (w.heap.size + 1 + 1) 0 [.int .u64 ((plusP x y).a : Int), .int .u64 ((plusP x y).b : Int), .int .u64 ((plusP x y).c : Int), .int .u64 ((plusP x y).d : Int)] _ _ rfl rfl (rangeAt_of_blk hR4) Tryd.underlying29 rfl (infoT.trans (Eq.trans (b := some 4) rfl rfl))) rfl ⟨rfl, below_new hb' hg4 (by omega) hb'.size⟩
set_option maxRecDepth 100000 in
set_option maxHeartbeats 400000 in
theorem rminus_any (x y : P4) (w : World) (hx : x.ok) (hy : y.ok) : Calls Tryd.prog 45 #[.agg #[.int .u64 (x.a : Int), .int .u64 (x.b : Int), .int .u64 (x.c : Int), .int .u64 (x.d : Int)], .agg #[.int .u64 (y.a : Int), .int .u64 (y.b : Int), .int .u64 (y.c : Int), .int .u64 (y.d : Int)]] w fun e w' => e = .returned (.agg #[.int .u64 ((minusP x y).a : Int), .int .u64 ((minusP x y).b : Int), .int .u64 ((minusP x y).c : Int), .int .u64 ((minusP x y).d : Int)]) ∧ Below w.heap.size w w' := by
  go_enter Tryd.func45, Tryd.ntmps45
  go_wp2
  have hX : Blk ((((w.alloc (.cells #[.int .u64 (x.a : Int), .int .u64 (x.b : Int), .int .u64 (x.c : Int), .int .u64 (x.d : Int)] 29)).alloc (.cells #[.int .u64 (y.a : Int), .int .u64 (y.b : Int), .int .u64 (y.c : Int), .int .u64 (y.d : Int)] 29)).alloc (.cells #[.int .u64 0, .int .u64 0, .int .u64 0, .int .u64 0] 29)).alloc (.cells #[.int .u64 0, .int .u64 0, .int .u64 0, .int .u64 0] 29)) (w.heap.size) 29 [.int .u64 (x.a : Int), .int .u64 (x.b : Int), .int .u64 (x.c : Int), .int .u64 (x.d : Int)] := (((Blk.new_of w _ _ _ rfl).alloc _).alloc _).alloc _
  have hY : Blk ((((w.alloc (.cells #[.int .u64 (x.a : Int), .int .u64 (x.b : Int), .int .u64 (x.c : Int), .int .u64 (x.d : Int)] 29)).alloc (.cells #[.int .u64 (y.a : Int), .int .u64 (y.b : Int), .int .u64 (y.c : Int), .int .u64 (y.d : Int)] 29)).alloc (.cells #[.int .u64 0, .int .u64 0, .int .u64 0, .int .u64 0] 29)).alloc (.cells #[.int .u64 0, .int .u64 0, .int .u64 0, .int .u64 0] 29)) (w.heap.size + 1) 29 [.int .u64 (y.a : Int), .int .u64 (y.b : Int), .int .u64 (y.c : Int), .int .u64 (y.d : Int)] := ((Blk.new2_of w _ _ _ _ rfl).alloc _).alloc _
  have hR : Blk ((((w.alloc (.cells #[.int .u64 (x.a : Int), .int .u64 (x.b : Int), .int .u64 (x.c : Int), .int .u64 (x.d : Int)] 29)).alloc (.cells #[.int .u64 (y.a : Int), .int .u64 (y.b : Int), .int .u64 (y.c : Int), .int .u64 (y.d : Int)] 29)).alloc (.cells #[.int .u64 0, .int .u64 0, .int .u64 0, .int .u64 0] 29)).alloc (.cells #[.int .u64 0, .int .u64 0, .int .u64 0, .int .u64 0] 29)) (w.heap.size + 1 + 1) 29 [.int .u64 0, .int .u64 0, .int .u64 0, .int .u64 0] := (Blk.new3_of w _ _ _ _ _ rfl).alloc _
  have hO : Blk ((((w.alloc (.cells #[.int .u64 (x.a : Int), .int .u64 (x.b : Int), .int .u64 (x.c : Int), .int .u64 (x.d : Int)] 29)).alloc (.cells #[.int .u64 (y.a : Int), .int .u64 (y.b : Int), .int .u64 (y.c : Int), .int .u64 (y.d : Int)] 29)).alloc (.cells #[.int .u64 0, .int .u64 0, .int .u64 0, .int .u64 0] 29)).alloc (.cells #[.int .u64 0, .int .u64 0, .int .u64 0, .int .u64 0] 29)) (w.heap.size + 1 + 1 + 1) 29 [.int .u64 0, .int .u64 0, .int .u64 0, .int .u64 0] := Blk.new4_of w _ _ _ _ _ _ rfl
  have hb0 := (fresh_three w (.cells #[.int .u64 (x.a : Int), .int .u64 (x.b : Int), .int .u64 (x.c : Int), .int .u64 (x.d : Int)] 29) (.cells #[.int .u64 (y.a : Int), .int .u64 (y.b : Int), .int .u64 (y.c : Int), .int .u64 (y.d : Int)] 29) (.cells #[.int .u64 0, .int .u64 0, .int .u64 0, .int .u64 0] 29)).trans ((fresh_one (((w.alloc (.cells #[.int .u64 (x.a : Int), .int .u64 (x.b : Int), .int .u64 (x.c : Int), .int .u64 (x.d : Int)] 29)).alloc (.cells #[.int .u64 (y.a : Int), .int .u64 (y.b : Int), .int .u64 (y.c : Int), .int .u64 (y.d : Int)] 29)).alloc (.cells #[.int .u64 0, .int .u64 0, .int .u64 0, .int .u64 0] 29)) (.cells #[.int .u64 0, .int .u64 0, .int .u64 0, .int .u64 0] 29)).mono (fresh_three w _ _ _).size)
  generalize (((w.alloc (.cells #[.int .u64 (x.a : Int), .int .u64 (x.b : Int), .int .u64 (x.c : Int), .int .u64 (x.d : Int)] 29)).alloc (.cells #[.int .u64 (y.a : Int), .int .u64 (y.b : Int), .int .u64 (y.c : Int), .int .u64 (y.d : Int)] 29)).alloc (.cells #[.int .u64 0, .int .u64 0, .int .u64 0, .int .u64 0] 29)).alloc (.cells #[.int .u64 0, .int .u64 0, .int .u64 0, .int .u64 0] 29) = w1 at *
  go_loopw [6, 7] (fun ov i wr => ∃ k : Nat, k ≤ 4 ∧ i = .int .i64 k ∧ ov = .int .u64 (brwM x y k : Int) ∧ Blk wr (w.heap.size + 1 + 1 + 1) 29 [.int .u64 ((outM x y k).a : Int), .int .u64 ((outM x y k).b : Int), .int .u64 ((outM x y k).c : Int), .int .u64 ((outM x y k).d : Int)] ∧ Blk wr (w.heap.size + 1 + 1) 29 [.int .u64 0, .int .u64 0, .int .u64 0, .int .u64 0] ∧ Blk wr (w.heap.size + 1) 29 [.int .u64 (y.a : Int), .int .u64 (y.b : Int), .int .u64 (y.c : Int), .int .u64 (y.d : Int)] ∧ Blk wr w.heap.size 29 [.int .u64 (x.a : Int), .int .u64 (x.b : Int), .int .u64 (x.c : Int), .int .u64 (x.d : Int)] ∧ Below w.heap.size w wr) (fun _ i _ => 4 - (intOf i).toNat)
  case atStart => exact ⟨0, by omega, rfl, rfl, hO, hR, hY, hX, hb0⟩
  case round =>
    obtain ⟨k, hk, rfl, rfl, hO', hR', hY', hX', hb'⟩ := hrel
    clear hX hY hR hO hb0
    by_cases hlt : k < 4
    · have hd2 : decide ((k : Int) < 4) = true := by simp; omega
      have c0 := (hX'.cell k).trans (limb_at x k hlt)
      have c1 := (hY'.cell k).trans (limb_at y k hlt)
      have HC : Hid (brwM x y (k + 1) = sbC (x.limb k) (y.limb k) (brwM x y k)) := Lib.hid rfl
      have HO : Hid (outM x y (k + 1) = (outM x y k).setLimb k (sbS (x.limb k) (y.limb k) (brwM x y k))) := Lib.hid rfl
      have ha := limb_lt hx k
      have hb := limb_lt hy k
      have hv : brwM x y k ≤ 1 := brwM_le x y k
      have lx := limb_at x k hlt
      have ly := limb_at y k hlt
      generalize x.limb k = a at *
      generalize y.limb k = b at *
      generalize brwM x y k = v at *
      have LX := Lib.hid lx
      have LY := Lib.hid ly
      clear lx ly
      obtain ⟨s, hs⟩ : ∃ s, s = (a + 18446744073709551616 - b) % 18446744073709551616 := ⟨_, rfl⟩
      have hsw : IntKind.u64.wrap ((a : Int) - (b : Int)) = (s : Int) := by rw [IntKind.wrap_u64]; omega
      have HS := Lib.hid hs
      have hsl : s < 18446744073709551616 := by omega
      obtain ⟨o, ho⟩ : ∃ o, o = (s + 18446744073709551616 - v) % 18446744073709551616 := ⟨_, rfl⟩
      have how : IntKind.u64.wrap ((s : Int) - (v : Int)) = (o : Int) := by rw [IntKind.wrap_u64]; omega
      have HQ := Lib.hid ho
      have HA := Lib.hid ha
      have HB := Lib.hid hb
      have HV := Lib.hid hv
      have hz := limb_at (outM x y k) k hlt
      generalize outM x y k = z at *
      clear hs ho ha hb hv hsl
      have hk4 : (k : Int) < 4 := by omega
      go_wp2
      go_quiet (fail)
      clear hsw
      replace hX' := hX'.drewN nq
      replace hY' := hY'.drewN nq
      replace hO' := hO'.drewN nq
      replace hR' := hR'.drewN nq
      replace hb' := below_drewN hb' nq
      clear c0 c1
      generalize wr.drewN nq = w2 at *
      clear nq
      have c0 := (hX'.cell k).trans LX.out
      have c1 := (hY'.cell k).trans LY.out
      have f0 := hO'.frozen k
      have co := (hO'.cell k).trans hz
      have HZ := Lib.hid hz
      clear hz
      go_wp2
      go_quiet (fail)
      replace hX' := hX'.drewN nq
      replace hY' := hY'.drewN nq
      replace hO' := hO'.drewN nq
      replace hR' := hR'.drewN nq
      replace hb' := below_drewN hb' nq
      replace f0 : (w2.drewN nq).frozen? ⟨w.heap.size + 1 + 1 + 1, k, none⟩ = false := f0
      replace co := (hO'.cell k).trans HZ.out
      clear c0 c1
      generalize w2.drewN nq = w3 at *
      clear nq
      go_wp2
      all_goals go_roundw
      all_goals first
        | (case rel =>
            refine ⟨k + 1, by omega, by go_num, ?_, ?_, hR'.far (by simp) _, hY'.far (by simp) _, hX'.far (by simp; omega) _, hb'.setCell (by simp; omega) _⟩
            · rw [HC.out]
              have h1 := HS.out; have h2 := HQ.out; have h3 := HA.out; have h4 := HB.out; have h5 := HV.out
              unfold sbC
              congr 1
              first | omega | (split <;> omega)
            · rw [HO.out, ← set_limb _ _ _ hlt, show sbS a b v = o by have h1 := HS.out; have h2 := HQ.out; have h3 := HA.out; have h4 := HB.out; have h5 := HV.out; unfold sbS; omega]
              exact hO'.set_ _ _)
        | (case measure => simp [intOf]; omega)
    · have hd2 : decide ((k : Int) < 4) = false := by simp; omega
      obtain rfl : k = 4 := by omega
      rw [show outM x y 4 = minusP x y from rfl] at hO'
      clear hd2 hlt hk
      simp only [show brwM x y 4 = minusC x y from rfl]
      obtain ⟨z0, z1, z2, z3⟩ := hO'.four
      go_wp2_with ((with_reducible refine (?_ : wpList _ _ _ (Oper.mk none (.store 29 (.tmp 4) _) _ _ _ _ :: _) _ _)); go_loud (refine wpList_store_blk rfl 29 (.tmp 4) (.tmp 37) rfl rfl (w.heap.size + 1 + 1) [.int .u64 ((minusP x y).a : Int), .int .u64 ((minusP x y).b : Int), .int .u64 ((minusP x y).c : Int), .int .u64 ((minusP x y).d : Int)] rfl rfl 29 _ hR' infoT (Eq.trans (b := 4) rfl rfl) (by simp [Value.oneCell']) ?_); intro w4 hR4 hg4)
      refine bodyPost_ret (v := .agg _) (results_cell_row rfl _ _ (w.heap.size + 1 + 1) 29 _ (0, 0) _ rfl hR4.raw Tryd.underlying29 rfl infoT) rfl ⟨rfl, below_new hb' hg4 (by omega) hb'.size⟩

end Go.Proofs.YtnkikhnllnbhfaaDoor
