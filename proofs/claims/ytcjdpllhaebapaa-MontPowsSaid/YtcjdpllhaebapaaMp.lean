/-
  The contracts of package mont's inner calls by a modulus: Pow.
-/
import Derived.Test.YtcjdpllhaebapaaMk
import Derived.Test.YtcjdpllhaebapaaFresh
namespace Go.Proofs.Ytcjdpllhaebapaa
open Go.RowKit

section
variable {n sq : P4} {f : Nat}
theorem prod_m (md : Md n sq f) (u v : Nat) : productP n f (redP n (B256 * u)) (redP n (B256 * v)) = redP n (B256 * (u * v)) := by
  have h0 : 0 < n.val := by have := md.big; omega
  obtain ⟨h1, h2⟩ := prod_spec md (redP_ok n (B256 * u)) (redP_ok n (B256 * v)) (.inr (redP_lt md.ok h0 _))
  refine redP_of md.ok h0 (productP_ok md.ok (redP_ok _ _) (redP_ok _ _)) ?_
  rw [← Nat.mod_eq_of_lt h1]
  refine cancel (cop256 (md_odd md)) ?_
  have key : ∀ B u v : Nat, B * u * (B * v) = B * (B * (u * v)) := fun B u v => by grind
  rw [h2, redP_val md.ok h0, redP_val md.ok h0, ← Nat.mul_mod, key]
theorem raised_m (md : Md n sq f) {x : P4} (hx : x.ok) : productP n f x sq = redP n (B256 * x.val) := by
  have h0 : 0 < n.val := by have := md.big; omega
  obtain ⟨h1, h2⟩ := raised_spec md hx
  refine redP_of md.ok h0 (productP_ok md.ok hx md.sqok) ?_
  rw [← h2, Nat.mod_eq_of_lt h1]
theorem lowered_m (md : Md n sq f) (u : Nat) : lowP n f (redP n (B256 * u)) = redP n u := by
  have h0 : 0 < n.val := by have := md.big; omega
  obtain ⟨h1, h2⟩ := lowered_spec md (redP_ok n (B256 * u))
  refine redP_of md.ok h0 (lowP_ok md.ok (redP_ok _ _)) ?_
  rw [← Nat.mod_eq_of_lt h1]
  refine cancel (cop256 (md_odd md)) ?_
  rw [h2, redP_val md.ok h0, Nat.mod_mod]
end
theorem raised_v (g : Nat) (n sq x : P4) (f : Nat) (w : World) (hM : Blk w g 54 (modCells n sq f)) (md : Md n sq f) (hx : x.ok) :
    Calls Try.prog 41 #[.pointer (some ⟨g, 0, none⟩), .agg #[.int .u64 (x.a : Int), .int .u64 (x.b : Int), .int .u64 (x.c : Int), .int .u64 (x.d : Int)]] w fun e w' => e = .returned (.agg #[.int .u64 ((redP n (B256 * x.val)).a : Int), .int .u64 ((redP n (B256 * x.val)).b : Int), .int .u64 ((redP n (B256 * x.val)).c : Int), .int .u64 ((redP n (B256 * x.val)).d : Int)]) ∧ Below w.heap.size w w' := by
  have h := raised_any g n sq x f w hM md.ok md.sqok hx
  rw [raised_m md hx] at h
  exact h
theorem raised_one (g : Nat) (n sq : P4) (f : Nat) (w : World) (hM : Blk w g 54 (modCells n sq f)) (md : Md n sq f) :
    Calls Try.prog 41 #[.pointer (some ⟨g, 0, none⟩), .agg #[.int .u64 1, .int .u64 0, .int .u64 0, .int .u64 0]] w fun e w' => e = .returned (.agg #[.int .u64 ((redP n (B256 * 1)).a : Int), .int .u64 ((redP n (B256 * 1)).b : Int), .int .u64 ((redP n (B256 * 1)).c : Int), .int .u64 ((redP n (B256 * 1)).d : Int)]) ∧ Below w.heap.size w w' :=
  raised_v g n sq oneP f w hM md oneP_ok
theorem lowered_v (g : Nat) (n sq : P4) (u : Nat) (f : Nat) (w : World) (hM : Blk w g 54 (modCells n sq f)) (md : Md n sq f) :
    Calls Try.prog 43 #[.pointer (some ⟨g, 0, none⟩), .agg #[.int .u64 ((redP n (B256 * u)).a : Int), .int .u64 ((redP n (B256 * u)).b : Int), .int .u64 ((redP n (B256 * u)).c : Int), .int .u64 ((redP n (B256 * u)).d : Int)]] w fun e w' => e = .returned (.agg #[.int .u64 ((redP n u).a : Int), .int .u64 ((redP n u).b : Int), .int .u64 ((redP n u).c : Int), .int .u64 ((redP n u).d : Int)]) ∧ Below w.heap.size w w' := by
  have h := lowered_any g n sq (redP n (B256 * u)) f w hM md.ok (redP_ok _ _)
  rw [lowered_m md] at h
  exact h
theorem product_v (g : Nat) (n sq : P4) (u v : Nat) (f : Nat) (w : World) (hM : Blk w g 54 (modCells n sq f)) (md : Md n sq f) :
    Calls Try.prog 40 #[.pointer (some ⟨g, 0, none⟩), .agg #[.int .u64 ((redP n (B256 * u)).a : Int), .int .u64 ((redP n (B256 * u)).b : Int), .int .u64 ((redP n (B256 * u)).c : Int), .int .u64 ((redP n (B256 * u)).d : Int)], .agg #[.int .u64 ((redP n (B256 * v)).a : Int), .int .u64 ((redP n (B256 * v)).b : Int), .int .u64 ((redP n (B256 * v)).c : Int), .int .u64 ((redP n (B256 * v)).d : Int)]] w fun e w' => e = .returned (.agg #[.int .u64 ((redP n (B256 * (u * v))).a : Int), .int .u64 ((redP n (B256 * (u * v))).b : Int), .int .u64 ((redP n (B256 * (u * v))).c : Int), .int .u64 ((redP n (B256 * (u * v))).d : Int)]) ∧ Below w.heap.size w w' := by
  have h := product_any g n sq (redP n (B256 * u)) (redP n (B256 * v)) f w hM md.ok (redP_ok _ _) (redP_ok _ _)
  rw [prod_m md] at h
  exact h
theorem choose_y (k : Nat) (x y z : P4) (w : World) (hk : k ≤ 1) (hx : x.ok) (hy : y.ok) (hz : z = if k = 1 then x else y) :
    Calls Try.prog 42 #[.int .u64 (k : Int), .agg #[.int .u64 (x.a : Int), .int .u64 (x.b : Int), .int .u64 (x.c : Int), .int .u64 (x.d : Int)], .agg #[.int .u64 (y.a : Int), .int .u64 (y.b : Int), .int .u64 (y.c : Int), .int .u64 (y.d : Int)]] w fun e w' => e = .returned (.agg #[.int .u64 (z.a : Int), .int .u64 (z.b : Int), .int .u64 (z.c : Int), .int .u64 (z.d : Int)]) ∧ Below w.heap.size w w' := by
  have h := choose_any k x y w hk hx hy
  rw [show chooseP k x y = z from hz.symm] at h
  exact h
set_option maxRecDepth 100000 in
set_option maxHeartbeats 400000 in
theorem Pow_v (g : Nat) (n sq x y : P4) (f : Nat) (w : World) (hM0 : Blk w g 54 (modCells n sq f)) (md : Md n sq f) (hx : x.ok) (hy : y.ok) :
    Calls Try.prog 21 #[.pointer (some ⟨g, 0, none⟩), .agg #[.int .u64 (x.a : Int), .int .u64 (x.b : Int), .int .u64 (x.c : Int), .int .u64 (x.d : Int)], .agg #[.int .u64 (y.a : Int), .int .u64 (y.b : Int), .int .u64 (y.c : Int), .int .u64 (y.d : Int)]] w fun e w' => e = .returned (.agg #[.int .u64 ((redP n (x.val ^ y.val)).a : Int), .int .u64 ((redP n (x.val ^ y.val)).b : Int), .int .u64 ((redP n (x.val ^ y.val)).c : Int), .int .u64 ((redP n (x.val ^ y.val)).d : Int)]) ∧ Below w.heap.size w w' := by
  have h0 : 0 < n.val := by have := md.big; omega
  go_enter Try.func21, Try.ntmps21
  go_wp2_with fail
  have hX : Blk (((w.alloc (.cells #[.int .u64 (x.a : Int), .int .u64 (x.b : Int), .int .u64 (x.c : Int), .int .u64 (x.d : Int)] 24)).alloc (.cells #[.int .u64 (y.a : Int), .int .u64 (y.b : Int), .int .u64 (y.c : Int), .int .u64 (y.d : Int)] 24)).alloc (.cells #[.int .u64 0, .int .u64 0, .int .u64 0, .int .u64 0] 24)) w.heap.size 24 [.int .u64 (x.a : Int), .int .u64 (x.b : Int), .int .u64 (x.c : Int), .int .u64 (x.d : Int)] := ((Blk.new_of w _ _ _ rfl).alloc _).alloc _
  have hY : Blk (((w.alloc (.cells #[.int .u64 (x.a : Int), .int .u64 (x.b : Int), .int .u64 (x.c : Int), .int .u64 (x.d : Int)] 24)).alloc (.cells #[.int .u64 (y.a : Int), .int .u64 (y.b : Int), .int .u64 (y.c : Int), .int .u64 (y.d : Int)] 24)).alloc (.cells #[.int .u64 0, .int .u64 0, .int .u64 0, .int .u64 0] 24)) (w.heap.size + 1) 24 [.int .u64 (y.a : Int), .int .u64 (y.b : Int), .int .u64 (y.c : Int), .int .u64 (y.d : Int)] := (Blk.new2_of w _ _ _ _ rfl).alloc _
  have hR : Blk (((w.alloc (.cells #[.int .u64 (x.a : Int), .int .u64 (x.b : Int), .int .u64 (x.c : Int), .int .u64 (x.d : Int)] 24)).alloc (.cells #[.int .u64 (y.a : Int), .int .u64 (y.b : Int), .int .u64 (y.c : Int), .int .u64 (y.d : Int)] 24)).alloc (.cells #[.int .u64 0, .int .u64 0, .int .u64 0, .int .u64 0] 24)) (w.heap.size + 1 + 1) 24 [.int .u64 0, .int .u64 0, .int .u64 0, .int .u64 0] := Blk.new3_of w _ _ _ _ _ rfl
  have hM := ((hM0.alloc (.cells #[.int .u64 (x.a : Int), .int .u64 (x.b : Int), .int .u64 (x.c : Int), .int .u64 (x.d : Int)] 24)).alloc (.cells #[.int .u64 (y.a : Int), .int .u64 (y.b : Int), .int .u64 (y.c : Int), .int .u64 (y.d : Int)] 24)).alloc (.cells #[.int .u64 0, .int .u64 0, .int .u64 0, .int .u64 0] 24)
  have hb0 := fresh_three w (.cells #[.int .u64 (x.a : Int), .int .u64 (x.b : Int), .int .u64 (x.c : Int), .int .u64 (x.d : Int)] 24) (.cells #[.int .u64 (y.a : Int), .int .u64 (y.b : Int), .int .u64 (y.c : Int), .int .u64 (y.d : Int)] 24) (.cells #[.int .u64 0, .int .u64 0, .int .u64 0, .int .u64 0] 24)
  have lg := hM0.lt
  clear hM0
  generalize ((w.alloc (.cells #[.int .u64 (x.a : Int), .int .u64 (x.b : Int), .int .u64 (x.c : Int), .int .u64 (x.d : Int)] 24)).alloc (.cells #[.int .u64 (y.a : Int), .int .u64 (y.b : Int), .int .u64 (y.c : Int), .int .u64 (y.d : Int)] 24)).alloc (.cells #[.int .u64 0, .int .u64 0, .int .u64 0, .int .u64 0] 24) = w1 at *
  refine (empty_any g n sq f _ hM h0).mono ?_
  rintro e wz ⟨rfl, rfl⟩
  obtain ⟨x0, x1, x2, x3⟩ := hX.four
  go_wp2_with fail
  refine (parts_any x _).mono ?_
  rintro e w2 ⟨rfl, hbx⟩
  replace hX := hX.below hbx hX.lt
  replace hY := hY.below hbx hY.lt
  replace hR := hR.below hbx hR.lt
  replace hM := hM.below hbx hM.lt
  replace hb0 := hb0.trans (hbx.mono hb0.size)
  clear hbx x0 x1 x2 x3
  go_wp2_with fail
  refine (raised_v g n sq x f _ hM md hx).mono ?_
  rintro e w3 ⟨rfl, hbx⟩
  replace hX := hX.below hbx hX.lt
  replace hY := hY.below hbx hY.lt
  replace hR := hR.below hbx hR.lt
  replace hM := hM.below hbx hM.lt
  replace hb0 := hb0.trans (hbx.mono hb0.size)
  clear hbx
  have lR3 := hR.lt
  replace hX := hX.alloc (.cells #[.int .u64 ((redP n (B256 * x.val)).a : Int), .int .u64 ((redP n (B256 * x.val)).b : Int), .int .u64 ((redP n (B256 * x.val)).c : Int), .int .u64 ((redP n (B256 * x.val)).d : Int)] 50)
  replace hY := hY.alloc (.cells #[.int .u64 ((redP n (B256 * x.val)).a : Int), .int .u64 ((redP n (B256 * x.val)).b : Int), .int .u64 ((redP n (B256 * x.val)).c : Int), .int .u64 ((redP n (B256 * x.val)).d : Int)] 50)
  replace hR := hR.alloc (.cells #[.int .u64 ((redP n (B256 * x.val)).a : Int), .int .u64 ((redP n (B256 * x.val)).b : Int), .int .u64 ((redP n (B256 * x.val)).c : Int), .int .u64 ((redP n (B256 * x.val)).d : Int)] 50)
  replace hM := hM.alloc (.cells #[.int .u64 ((redP n (B256 * x.val)).a : Int), .int .u64 ((redP n (B256 * x.val)).b : Int), .int .u64 ((redP n (B256 * x.val)).c : Int), .int .u64 ((redP n (B256 * x.val)).d : Int)] 50)
  replace hb0 := hb0.alloc hb0.size (.cells #[.int .u64 ((redP n (B256 * x.val)).a : Int), .int .u64 ((redP n (B256 * x.val)).b : Int), .int .u64 ((redP n (B256 * x.val)).c : Int), .int .u64 ((redP n (B256 * x.val)).d : Int)] 50)
  have hF := Blk.new_of w3 50 #[.int .u64 ((redP n (B256 * x.val)).a : Int), .int .u64 ((redP n (B256 * x.val)).b : Int), .int .u64 ((redP n (B256 * x.val)).c : Int), .int .u64 ((redP n (B256 * x.val)).d : Int)] [.int .u64 ((redP n (B256 * x.val)).a : Int), .int .u64 ((redP n (B256 * x.val)).b : Int), .int .u64 ((redP n (B256 * x.val)).c : Int), .int .u64 ((redP n (B256 * x.val)).d : Int)] rfl
  go_wp2_with fail
  refine (raised_one g n sq f _ hM md).mono ?_
  rintro e w4 ⟨rfl, hbx⟩
  replace hX := hX.below hbx hX.lt
  replace hY := hY.below hbx hY.lt
  replace hR := hR.below hbx hR.lt
  replace hM := hM.below hbx hM.lt
  replace hb0 := hb0.trans (hbx.mono hb0.size)
  replace hF := hF.below hbx hF.lt
  clear hbx
  have lF := Nat.lt_of_lt_of_le (show w3.heap.size < (w3.alloc (.cells #[.int .u64 ((redP n (B256 * x.val)).a : Int), .int .u64 ((redP n (B256 * x.val)).b : Int), .int .u64 ((redP n (B256 * x.val)).c : Int), .int .u64 ((redP n (B256 * x.val)).d : Int)] 50)).heap.size by simp) (Nat.le_refl _)
  have lF2 := hF.lt
  have hG := Blk.new_of w4 50 #[.int .u64 ((redP n (B256 * 1)).a : Int), .int .u64 ((redP n (B256 * 1)).b : Int), .int .u64 ((redP n (B256 * 1)).c : Int), .int .u64 ((redP n (B256 * 1)).d : Int)] [.int .u64 ((redP n (B256 * 1)).a : Int), .int .u64 ((redP n (B256 * 1)).b : Int), .int .u64 ((redP n (B256 * 1)).c : Int), .int .u64 ((redP n (B256 * 1)).d : Int)] rfl
  replace hX := hX.alloc (.cells #[.int .u64 ((redP n (B256 * 1)).a : Int), .int .u64 ((redP n (B256 * 1)).b : Int), .int .u64 ((redP n (B256 * 1)).c : Int), .int .u64 ((redP n (B256 * 1)).d : Int)] 50)
  replace hY := hY.alloc (.cells #[.int .u64 ((redP n (B256 * 1)).a : Int), .int .u64 ((redP n (B256 * 1)).b : Int), .int .u64 ((redP n (B256 * 1)).c : Int), .int .u64 ((redP n (B256 * 1)).d : Int)] 50)
  replace hR := hR.alloc (.cells #[.int .u64 ((redP n (B256 * 1)).a : Int), .int .u64 ((redP n (B256 * 1)).b : Int), .int .u64 ((redP n (B256 * 1)).c : Int), .int .u64 ((redP n (B256 * 1)).d : Int)] 50)
  replace hM := hM.alloc (.cells #[.int .u64 ((redP n (B256 * 1)).a : Int), .int .u64 ((redP n (B256 * 1)).b : Int), .int .u64 ((redP n (B256 * 1)).c : Int), .int .u64 ((redP n (B256 * 1)).d : Int)] 50)
  replace hb0 := hb0.alloc hb0.size (.cells #[.int .u64 ((redP n (B256 * 1)).a : Int), .int .u64 ((redP n (B256 * 1)).b : Int), .int .u64 ((redP n (B256 * 1)).c : Int), .int .u64 ((redP n (B256 * 1)).d : Int)] 50)
  replace hF := hF.alloc (.cells #[.int .u64 ((redP n (B256 * 1)).a : Int), .int .u64 ((redP n (B256 * 1)).b : Int), .int .u64 ((redP n (B256 * 1)).c : Int), .int .u64 ((redP n (B256 * 1)).d : Int)] 50)
  go_wp2
  generalize w4.alloc (.cells #[.int .u64 ((redP n (B256 * 1)).a : Int), .int .u64 ((redP n (B256 * 1)).b : Int), .int .u64 ((redP n (B256 * 1)).c : Int), .int .u64 ((redP n (B256 * 1)).d : Int)] 50) = w5 at *
  have lR := hR.lt
  have hgp : w3.heap.size < w4.heap.size := lF2
  clear lF lF2
  generalize w4.heap.size = gP at *
  have hgf : w.heap.size + 1 + 1 < w3.heap.size := lR3
  generalize w3.heap.size = gF at *
  clear lR hX
  go_loopw [9] (fun i wr => ∃ j : Nat, j ≤ 256 ∧ i = .int .i64 ((j : Int) - 1) ∧ Blk wr gP 50 [.int .u64 ((redP n (B256 * x.val ^ (y.val / 2 ^ j))).a : Int), .int .u64 ((redP n (B256 * x.val ^ (y.val / 2 ^ j))).b : Int), .int .u64 ((redP n (B256 * x.val ^ (y.val / 2 ^ j))).c : Int), .int .u64 ((redP n (B256 * x.val ^ (y.val / 2 ^ j))).d : Int)] ∧ Blk wr gF 50 [.int .u64 ((redP n (B256 * x.val)).a : Int), .int .u64 ((redP n (B256 * x.val)).b : Int), .int .u64 ((redP n (B256 * x.val)).c : Int), .int .u64 ((redP n (B256 * x.val)).d : Int)] ∧ Blk wr (w.heap.size + 1 + 1) 24 [.int .u64 0, .int .u64 0, .int .u64 0, .int .u64 0] ∧ Blk wr (w.heap.size + 1) 24 [.int .u64 (y.a : Int), .int .u64 (y.b : Int), .int .u64 (y.c : Int), .int .u64 (y.d : Int)] ∧ Blk wr g 54 (modCells n sq f) ∧ Below w.heap.size w wr) (fun i _ => (intOf i + 1).toNat)
  case atStart => exact ⟨256, by omega, rfl, by rw [shift_all hy, Nat.pow_zero]; exact hG, hF, hR, hY, hM, hb0⟩
  case round =>
    obtain ⟨j, hj, rfl, hO', hF', hR', hY', hM', hb'⟩ := hrel
    clear hG hF hR hY hM hb0
    cases j with
    | zero =>
      have hd2 : decide ((0 : Int) ≤ ((0 : Nat) : Int) - 1) = false := by decide
      rw [show y.val / 2 ^ 0 = y.val by rw [Nat.pow_zero, Nat.div_one]] at hO'
      have L := fun (W : World) (h : Blk W g 54 (modCells n sq f)) => lowered_v g n sq (x.val ^ y.val) f W h md
      generalize redP n (B256 * x.val ^ y.val) = z at *
      have zok := redP_ok n (x.val ^ y.val)
      generalize hr0 : redP n (x.val ^ y.val) = r at *
      have HR0 := Lib.hid hr0
      clear hr0
      obtain ⟨z0, z1, z2, z3⟩ := hO'.four
      go_wp2_with (first
        | (go_at_call 43; refine (L _ hM').mono ?_; rintro e wa ⟨rfl, hba⟩; have hRa := hR'.below hba hR'.lt; have hbA := hb'.trans (hba.mono hb'.size); clear hba z0 z1 z2 z3)
        | (go_at_call 35; refine (num_any r _).mono ?_; rintro e wb ⟨rfl, hbb⟩; have hRb := hRa.below hbb hRa.lt; have hbB := hbA.trans (hbb.mono hbA.size); clear hbb)
        | ((with_reducible refine (?_ : wpList _ _ _ (Oper.mk none (.store 24 (.tmp 6) _) _ _ _ _ :: _) _ _)); go_loud (refine wpList_store_blk rfl 24 (.tmp 6) (.tmp 41) rfl rfl (w.heap.size + 1 + 1) [.int .u64 (r.a : Int), .int .u64 (r.b : Int), .int .u64 (r.c : Int), .int .u64 (r.d : Int)] rfl rfl 24 _ hRb info24 (Eq.trans (b := 4) rfl rfl) (by simp [Value.oneCell']) ?_); intro w4 hR4 hg4))
      refine bodyPost_ret (v := .agg _) (results_cell_row rfl _ _ (w.heap.size + 1 + 1) 24 _ (0, 0) _ rfl hR4.raw Try.underlying24 rfl info24) rfl ⟨by rw [HR0.out], below_new hbB hg4 (by omega) hbB.size⟩
    | succ j =>
      have e1 : (((j + 1 : Nat) : Int)) - 1 = (j : Int) := by omega
      simp only [e1]
      have hd2 : decide ((0 : Int) ≤ (j : Int)) = true := by simp
      have HV := Lib.hid (bits_from hy j (by omega))
      have S0 := fun (v : Nat) (W : World) (h : Blk W g 54 (modCells n sq f)) => product_v g n sq (x.val ^ v) (x.val ^ v) f W h md
      have S1 := fun (v : Nat) (W : World) (h : Blk W g 54 (modCells n sq f)) => product_v g n sq (x.val ^ (2 * v)) x.val f W h md
      generalize y.val / 2 ^ (j + 1) = v at *
      replace S0 := S0 v
      replace S1 := S1 v
      rw [show x.val ^ v * x.val ^ v = x.val ^ (2 * v) by rw [← Nat.pow_add, show v + v = 2 * v by omega]] at S0
      rw [show x.val ^ (2 * v) * x.val = x.val ^ (2 * v + 1) from (Nat.pow_succ ..).symm] at S1
      have BL := bitP_le y j
      have y0ok := redP_ok n (B256 * x.val ^ (2 * v))
      have y1ok := redP_ok n (B256 * x.val ^ (2 * v + 1))
      have HZ : Hid (redP n (B256 * x.val ^ (y.val / 2 ^ j)) = if bitP y j = 1 then redP n (B256 * x.val ^ (2 * v + 1)) else redP n (B256 * x.val ^ (2 * v))) := Lib.hid (by
        rw [HV.out]
        by_cases h : bitP y j = 1
        · rw [if_pos h, h]
        · rw [if_neg h, show bitP y j = 0 by omega, Nat.add_zero])
      have hcv : IntKind.u64.wrap (bitP y j : Int) = (bitP y j : Int) := by rw [IntKind.wrap_u64]; omega
      generalize hzz : redP n (B256 * x.val ^ (y.val / 2 ^ j)) = zz at *
      have HZZ := Lib.hid hzz
      clear hzz
      generalize redP n (B256 * x.val ^ (2 * v + 1)) = y1 at *
      generalize redP n (B256 * x.val ^ (2 * v)) = y0 at *
      generalize redP n (B256 * x.val ^ v) = z at *
      generalize redP n (B256 * x.val) = fa at *
      have CH := fun W => choose_y (bitP y j) y1 y0 zz W BL y1ok y0ok HZ.out
      have BI := fun W => Bit_in y j W hy (by omega)
      clear BL
      generalize bitP y j = bt at *
      obtain ⟨z0, z1, z2, z3⟩ := hO'.four
      go_wp2_with (first
        | (go_at_call 40; with_reducible refine (S0 _ hM').mono ?_; rintro e wa ⟨rfl, hba⟩; have hOa := hO'.below hba hO'.lt; have hFa := hF'.below hba hF'.lt; have hRa := hR'.below hba hR'.lt; have hYa := hY'.below hba hY'.lt; have hMa := hM'.below hba hM'.lt; have hbA := hb'.trans (hba.mono hb'.size); clear hba z0 z1 z2 z3)
        | ((with_reducible refine (?_ : wpList _ _ _ (Oper.mk none (.store 50 (.tmp 8) _) _ _ _ _ :: _) _ _)); go_loud (refine wpList_store_blk rfl 50 (.tmp 8) (.tmp 27) rfl rfl (gP) [.int .u64 (y0.a : Int), .int .u64 (y0.b : Int), .int .u64 (y0.c : Int), .int .u64 (y0.d : Int)] rfl rfl 50 _ hOa info50 (Eq.trans (b := 4) rfl rfl) (by simp [Value.oneCell']) ?_); intro wb hOb hgb; have hFb := hFa.grown hgb (fun h => by have := Option.some.inj h; omega); have hRb := hRa.grown hgb (fun h => by have := Option.some.inj h; omega); have hYb := hYa.grown hgb (fun h => by have := Option.some.inj h; omega); have hMb := hMa.grown hgb (fun h => by have := Option.some.inj h; omega); have hbB := below_new hbA hgb (by omega) hbA.size))
      clear hO' hF' hR' hY' hM' hb' hOa hFa hRa hYa hMa hbA hgb S0
      have lP := hOb.lt
      have lF := hFb.lt
      have lY := hYb.lt
      have lM := hMb.lt
      have lR := hRb.lt
      have hO4 := fun (V : World) (h : Below wb.heap.size wb V) => (hOb.below h lP).four
      have hF4 := fun (V : World) (h : Below wb.heap.size wb V) => (hFb.below h lF).four
      have hY4 := fun (V : World) (h : Below wb.heap.size wb V) => (hYb.below h lY).four
      apply wp_region_once_tail (m := 10) (Z := []) (D := [[], [], [0, 1], [0, 1, 2], [], [], [], [0, 1, 2, 4, 5, 6], [], [0, 1, 2, 3, 4, 5, 6, 7, 8], [0, 1, 2, 3, 4, 5, 6, 7, 8, 9]]) (J := [[], [], [0, 1], [2], [], [], [], [4, 5, 6], [], [3, 7, 8]]) (Je := [9]) (Rs := [Is _, Is _, Is _, Is _, Is _, Is _, Is _, Is _, Is _, Is _])
      · kernel_rfl
      · kernel_rfl
      · kernel_rfl
      · kernel_rfl
      · kernel_rfl
      · kernel_rfl
      · kernel_rfl
      · exact fun h => absurd rfl h
      · intro u
        simp only [List.take_succ_cons, List.take_zero, List.map_cons, List.map_nil, fillU, List.setIfInBounds_toArray, List.set_cons_zero, List.set_cons_succ, Nat.zero_add, Nat.reduceAdd]
        exact rfl
      · simp only [List.take_succ_cons, List.take_zero]
        refine ⟨fun u W hb hd K hK => ?_, ?_⟩
        · clear hd
          go_simp
          apply hK
          · simp only [Act.put, List.setIfInBounds_toArray, List.set_cons_zero, List.set_cons_succ]
            exact rfl
          · exact Below.refl _ _
          · exact IsOut
        refine ⟨fun u W hb hd K hK => ?_, ?_⟩
        · clear hd
          go_simp
          apply hK
          · simp only [Act.put, List.setIfInBounds_toArray, List.set_cons_zero, List.set_cons_succ]
            exact rfl
          · exact Below.refl _ _
          · exact IsOut
        refine ⟨fun u W hb hd K hK => ?_, ?_⟩
        · simp only [Facts, nthR, Is, and_true] at hd
          simp only [hd] at hK ⊢
          clear hd
          go_simp
          refine (BI W).mono ?_
          rintro e wy ⟨rfl, hby⟩
          exact hK _ _ _ rfl hby IsOut
        refine ⟨fun u W hb hd K hK => ?_, ?_⟩
        · simp only [Facts, nthR, Is, and_true] at hd
          simp only [hd] at hK ⊢
          clear hd
          go_simp
          apply hK
          · simp only [Act.put, List.setIfInBounds_toArray, List.set_cons_zero, List.set_cons_succ]
            exact rfl
          · exact Below.refl _ _
          · exact IsOut
        refine ⟨fun u W hb hd K hK => ?_, ?_⟩
        · clear hd
          go_simp
          apply hK
          · simp only [Act.put, List.setIfInBounds_toArray, List.set_cons_zero, List.set_cons_succ]
            exact rfl
          · exact Below.refl _ _
          · exact IsOut
        refine ⟨fun u W hb hd K hK => ?_, ?_⟩
        · clear hd
          go_simp
          apply hK
          · simp only [Act.put, List.setIfInBounds_toArray, List.set_cons_zero, List.set_cons_succ]
            exact rfl
          · exact Below.refl _ _
          · exact IsOut
        refine ⟨fun u W hb hd K hK => ?_, ?_⟩
        · clear hd
          go_simp
          apply hK
          · simp only [Act.put, List.setIfInBounds_toArray, List.set_cons_zero, List.set_cons_succ]
            exact rfl
          · exact Below.refl _ _
          · exact IsOut
        refine ⟨fun u W hb hd K hK => ?_, ?_⟩
        · simp only [Facts, nthR, Is, and_true] at hd
          simp only [hd] at hK ⊢
          clear hd
          go_simp
          refine (S1 W (hMb.below hb lM)).mono ?_
          rintro e wy ⟨rfl, hby⟩
          exact hK _ _ _ rfl hby IsOut
        refine ⟨fun u W hb hd K hK => ?_, ?_⟩
        · clear hd
          go_simp
          apply hK
          · simp only [Act.put, List.setIfInBounds_toArray, List.set_cons_zero, List.set_cons_succ]
            exact rfl
          · exact Below.refl _ _
          · exact IsOut
        refine ⟨fun u W hb hd K hK => ?_, ?_⟩
        · simp only [Facts, nthR, Is, and_true] at hd
          simp only [hd] at hK ⊢
          clear hd
          go_simp
          refine (CH W).mono ?_
          rintro e wy ⟨rfl, hby⟩
          exact hK _ _ _ rfl hby IsOut
        exact trivial
      · skip
        exact trivial
      · exact (.is (.is (.is (.is (.is (.is (.is (.is (.is (.is .nil))))))))))
      · intro u W hb hd
        simp only [List.drop_succ_cons, List.drop_zero]
        simp only [Facts, nthR, Is, and_true] at hd
        simp only [hd]
        replace hOb := hOb.below hb lP
        replace hFb := hFb.below hb lF
        replace hRb := hRb.below hb lR
        replace hYb := hYb.below hb lY
        replace hMb := hMb.below hb lM
        replace hbB := hbB.trans (hb.mono hbB.size)
        clear hO4 hF4 hY4 hb lP lF lY lM lR
        refine wpList_store_blk rfl 50 (.tmp 8) (.tmp 37) rfl rfl (gP) [.int .u64 (zz.a : Int), .int .u64 (zz.b : Int), .int .u64 (zz.c : Int), .int .u64 (zz.d : Int)] rfl rfl 50 _ hOb info50 (Eq.trans (b := 4) rfl rfl) (by simp [Value.oneCell']) ?_
        intro wc hOc hgc
        replace hFb := hFb.grown hgc (fun h => by have := Option.some.inj h; omega)
        replace hRb := hRb.grown hgc (fun h => by have := Option.some.inj h; omega)
        replace hYb := hYb.grown hgc (fun h => by have := Option.some.inj h; omega)
        replace hMb := hMb.grown hgc (fun h => by have := Option.some.inj h; omega)
        replace hbB := below_new hbB hgc (by omega) hbB.size
        clear hgc hOb
        go_wp2
        go_roundw
        case rel => exact ⟨j, by omega, by go_num, by rw [HZZ.out]; exact hOc, hFb, hRb, hYb, hMb, hbB⟩
        case measure => simp [intOf]
end Go.Proofs.Ytcjdpllhaebapaa
