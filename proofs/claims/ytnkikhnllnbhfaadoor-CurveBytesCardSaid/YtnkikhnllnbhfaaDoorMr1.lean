/-
  Mr1.
-/
import Derived.Test.YtnkikhnllnbhfaaDoorMw10
namespace Go.Proofs.YtnkikhnllnbhfaaDoor
open Go.RowKit
theorem infoT : (Tryd.prog.info? 29).map (·.size) = some 4 := by kernel_rfl
theorem less_at {x y : P4} (hx : x.ok) (hy : y.ok) (j : Nat) (hj : j < 4) (hne : x.limb j ≠ y.limb j) (he : ∀ i, j < i → i < 4 → x.limb i = y.limb i) : lessP x y = decide (x.limb j < y.limb j) := by
  rw [lessP_eq hx hy]
  obtain ⟨a1, a2, a3, a4⟩ := hx
  obtain ⟨b1, b2, b3, b4⟩ := hy
  have e1 := he 1
  have e2 := he 2
  have e3 := he 3
  unfold P4.val
  obtain rfl | rfl | rfl | rfl : j = 0 ∨ j = 1 ∨ j = 2 ∨ j = 3 := by omega
  all_goals (simp only [P4.limb] at *; congr 1; apply propext; constructor <;> omega)
theorem less_same {x y : P4} (hx : x.ok) (hy : y.ok) (he : ∀ i, i < 4 → x.limb i = y.limb i) : lessP x y = false := by
  rw [lessP_eq hx hy]
  have e0 := he 0
  have e1 := he 1
  have e2 := he 2
  have e3 := he 3
  unfold P4.val
  simp only [P4.limb] at *
  simp; omega
set_option maxRecDepth 100000 in
set_option maxHeartbeats 400000 in
theorem rLess_any (x y : P4) (w : World) (hx : x.ok) (hy : y.ok) : Calls Tryd.prog 37 #[.agg #[.int .u64 (x.a : Int), .int .u64 (x.b : Int), .int .u64 (x.c : Int), .int .u64 (x.d : Int)], .agg #[.int .u64 (y.a : Int), .int .u64 (y.b : Int), .int .u64 (y.c : Int), .int .u64 (y.d : Int)]] w fun e w' => e = .returned (.bool (lessP x y)) ∧ Below w.heap.size w w' := by
  go_enter Tryd.func37, Tryd.ntmps37
  go_wp2
  have hX : Blk ((w.alloc (.cells #[.int .u64 (x.a : Int), .int .u64 (x.b : Int), .int .u64 (x.c : Int), .int .u64 (x.d : Int)] 29)).alloc (.cells #[.int .u64 (y.a : Int), .int .u64 (y.b : Int), .int .u64 (y.c : Int), .int .u64 (y.d : Int)] 29)) w.heap.size 29 [.int .u64 (x.a : Int), .int .u64 (x.b : Int), .int .u64 (x.c : Int), .int .u64 (x.d : Int)] := (Blk.new_of w _ _ _ rfl).alloc _
  have hY : Blk ((w.alloc (.cells #[.int .u64 (x.a : Int), .int .u64 (x.b : Int), .int .u64 (x.c : Int), .int .u64 (x.d : Int)] 29)).alloc (.cells #[.int .u64 (y.a : Int), .int .u64 (y.b : Int), .int .u64 (y.c : Int), .int .u64 (y.d : Int)] 29)) (w.heap.size + 1) 29 [.int .u64 (y.a : Int), .int .u64 (y.b : Int), .int .u64 (y.c : Int), .int .u64 (y.d : Int)] := Blk.new2_of w _ _ _ _ rfl
  have hb0 := fresh_two w (.cells #[.int .u64 (x.a : Int), .int .u64 (x.b : Int), .int .u64 (x.c : Int), .int .u64 (x.d : Int)] 29) (.cells #[.int .u64 (y.a : Int), .int .u64 (y.b : Int), .int .u64 (y.c : Int), .int .u64 (y.d : Int)] 29)
  generalize (w.alloc (.cells #[.int .u64 (x.a : Int), .int .u64 (x.b : Int), .int .u64 (x.c : Int), .int .u64 (x.d : Int)] 29)).alloc (.cells #[.int .u64 (y.a : Int), .int .u64 (y.b : Int), .int .u64 (y.c : Int), .int .u64 (y.d : Int)] 29) = w1 at *
  go_loopw [5] (fun i wr => ∃ k : Nat, k ≤ 4 ∧ i = .int .i64 ((k : Int) - 1) ∧ Hid (∀ i, k ≤ i → i < 4 → x.limb i = y.limb i) ∧ Blk wr w.heap.size 29 [.int .u64 (x.a : Int), .int .u64 (x.b : Int), .int .u64 (x.c : Int), .int .u64 (x.d : Int)] ∧ Blk wr (w.heap.size + 1) 29 [.int .u64 (y.a : Int), .int .u64 (y.b : Int), .int .u64 (y.c : Int), .int .u64 (y.d : Int)] ∧ Below w.heap.size w wr) (fun i _ => (intOf i + 1).toNat)
  case atStart => exact ⟨4, by omega, rfl, Lib.hid (fun i h1 h2 => by omega), hX, hY, hb0⟩
  case round =>
    obtain ⟨k, hk, rfl, HE, hX', hY', hb'⟩ := hrel
    clear hX hY hb0
    cases k with
    | zero =>
      have hd2 : decide ((0 : Int) ≤ ((0 : Nat) : Int) - 1) = false := by decide
      go_wp2
      go_ret
      exact ⟨congrArg (fun b => Ending.returned (Value.bool b)) (less_same hx hy fun i h => HE.out i (Nat.zero_le _) h).symm, hb'⟩
    | succ j =>
      have e1 : (((j + 1 : Nat) : Int)) - 1 = (j : Int) := by omega
      simp only [e1]
      have hd2 : decide ((0 : Int) ≤ (j : Int)) = true := by simp
      have c0 := (hX'.cell j).trans (limb_at x j (by omega))
      have c1 := (hY'.cell j).trans (limb_at y j (by omega))
      have hj4 : ((j : Int)) < 4 := by omega
      go_wp2
      go_quiet (fail)
      replace hX' := hX'.drewN nq
      replace hY' := hY'.drewN nq
      replace hb' := below_drewN hb' nq
      clear c0 c1
      generalize wr.drewN nq = w2 at *
      clear nq
      by_cases hab : x.limb j = y.limb j
      · have hne : ((x.limb j : Int) != (y.limb j : Int)) = false := by simp [hab]
        have HAB := Lib.hid hab
        clear hab
        go_wp2
        go_roundw
        case rel =>
          refine ⟨j, by omega, by go_num, Lib.hid fun i h1 h2 => ?_, hX', hY', hb'⟩
          rcases Nat.lt_or_ge j i with h | h
          · exact HE.out i h h2
          · obtain rfl : i = j := by omega
            exact HAB.out
        case measure => simp [intOf]
      · have hne : ((x.limb j : Int) != (y.limb j : Int)) = true := by simp; omega
        have HAB := Lib.hid hab
        clear hab
        have c0 := (hX'.cell j).trans (limb_at x j (by omega))
        have c1 := (hY'.cell j).trans (limb_at y j (by omega))
        go_wp2
        go_quiet (fail)
        go_wp2
        go_ret
        refine ⟨congrArg (fun b => Ending.returned (Value.bool b)) ((less_at hx hy j (by omega) HAB.out fun i h1 h2 => HE.out i h1 h2).trans ?_).symm, below_drewN hb' _⟩
        simp
set_option maxRecDepth 100000 in
set_option maxHeartbeats 400000 in
theorem rOf_any (bs : List UInt8) (w : World) (hl : bs.length = 32) : Calls Tryd.prog 19 #[.agg (bs.map B8).toArray] w fun e w' => e = .returned (.agg #[.int .u64 ((ofTo bs 32).a : Int), .int .u64 ((ofTo bs 32).b : Int), .int .u64 ((ofTo bs 32).c : Int), .int .u64 ((ofTo bs 32).d : Int)]) ∧ Below w.heap.size w w' := by
  have HL := Lib.hid hl
  clear hl
  go_enter Tryd.func19, Tryd.ntmps19
  go_wp2
  have hI : Blk (((w.alloc (.cells (bs.map B8).toArray 22)).alloc (.cells #[.int .u64 0, .int .u64 0, .int .u64 0, .int .u64 0] 29)).alloc (.cells #[.int .u64 0, .int .u64 0, .int .u64 0, .int .u64 0] 29)) w.heap.size 22 (bs.map B8) := ((Blk.new_of w _ _ _ rfl).alloc _).alloc _
  have hR : Blk (((w.alloc (.cells (bs.map B8).toArray 22)).alloc (.cells #[.int .u64 0, .int .u64 0, .int .u64 0, .int .u64 0] 29)).alloc (.cells #[.int .u64 0, .int .u64 0, .int .u64 0, .int .u64 0] 29)) (w.heap.size + 1) 29 [.int .u64 0, .int .u64 0, .int .u64 0, .int .u64 0] := (Blk.new2_of w _ _ _ _ rfl).alloc _
  have hB : Blk (((w.alloc (.cells (bs.map B8).toArray 22)).alloc (.cells #[.int .u64 0, .int .u64 0, .int .u64 0, .int .u64 0] 29)).alloc (.cells #[.int .u64 0, .int .u64 0, .int .u64 0, .int .u64 0] 29)) (w.heap.size + 1 + 1) 29 [.int .u64 0, .int .u64 0, .int .u64 0, .int .u64 0] := Blk.new3_of w _ _ _ _ _ rfl
  have hb := fresh_three w (.cells (bs.map B8).toArray 22) (.cells #[.int .u64 0, .int .u64 0, .int .u64 0, .int .u64 0] 29) (.cells #[.int .u64 0, .int .u64 0, .int .u64 0, .int .u64 0] 29)
  generalize ((w.alloc (.cells (bs.map B8).toArray 22)).alloc (.cells #[.int .u64 0, .int .u64 0, .int .u64 0, .int .u64 0] 29)).alloc (.cells #[.int .u64 0, .int .u64 0, .int .u64 0, .int .u64 0] 29) = w1 at *
  go_loopw [4] (fun i wr => ∃ k : Nat, k ≤ 32 ∧ i = .int .i64 k ∧ Blk wr (w.heap.size + 1 + 1) 29 [.int .u64 ((ofTo bs k).a : Int), .int .u64 ((ofTo bs k).b : Int), .int .u64 ((ofTo bs k).c : Int), .int .u64 ((ofTo bs k).d : Int)] ∧ Blk wr (w.heap.size + 1) 29 [.int .u64 0, .int .u64 0, .int .u64 0, .int .u64 0] ∧ Blk wr w.heap.size 22 (bs.map B8) ∧ Below w.heap.size w wr) (fun i _ => 32 - (intOf i).toNat)
  case atStart => exact ⟨0, by omega, rfl, hB, hR, hI, hb⟩
  case round =>
    obtain ⟨k, hk, rfl, hB', hR', hI', hb'⟩ := hrel
    clear hB hR hI hb
    by_cases hlt : k < 32
    · have hd2 : decide ((k : Int) < 32) = true := by simp; omega
      have lB := hB'.lt
      have lI := hI'.lt
      have lR := hR'.lt
      have hk32 := HL.out
      have hbc := fun (V : World) (h : Below wr.heap.size wr V) => (hI'.below h lI).at8 k (by omega)
      clear hk32
      have HS : Hid (ofTo bs (k + 1) = (ofTo bs k).setLimb (3 - k / 8) (pushB ((ofTo bs k).limb (3 - k / 8)) (bs.getD k 0))) := Lib.hid rfl
      generalize ofTo bs k = z at *
      generalize bs.getD k 0 = b at *
      have hL := fun (V : World) (h : Below wr.heap.size wr V) => ((hB'.below h lB).cell (3 - k / 8)).trans (limb_at z (3 - k / 8) (by omega))
      have hwr : IntKind.i64.wrap (3 - IntKind.i64.wrap ((k : Int) / 8)) = ((3 - k / 8 : Nat) : Int) := by rw [IntKind.wrap_i64, IntKind.wrap_i64]; omega
      have hki : (k : Int) < 32 := by omega
      have hm4 : 3 - k / 8 < 4 := by omega
      have hm4' : ((3 - k / 8 : Nat) : Int) < 4 := by omega
      generalize 3 - k / 8 = m at *
      go_wp2
      apply wp_region_once_tail (m := 15) (Z := []) (D := [[], [0], [0, 1], [], [3], [3, 4], [3, 4, 5], [3, 4, 5, 6], [3, 4, 5, 6, 7], [], [9], [9, 10], [9, 10, 11], [3, 4, 5, 6, 7, 8, 9, 10, 11, 12], [0, 1, 2, 3, 4, 5, 6, 7, 8, 9, 10, 11, 12, 13], [0, 1, 2, 3, 4, 5, 6, 7, 8, 9, 10, 11, 12, 13, 14]]) (J := [[], [0], [1], [], [3], [4], [5], [6], [7], [], [9], [10], [11], [8, 12], [2]]) (Je := [14, 13]) (Rs := [Is _, Is _, Is _, Is _, Is _, Is _, Is _, Is _, Is _, Is _, Is _, Is _, Is _, Is _, Is _])
      · kernel_rfl
      · kernel_rfl
      · kernel_rfl
      · kernel_rfl
      · kernel_rfl
      · kernel_rfl
      · kernel_rfl
      · exact fun h => absurd rfl h
      · intro u
        simp only [List.take_succ_cons, List.take_zero, List.map_cons, List.map_nil, fillU, List.setIfInBounds_toArray, List.set_cons_zero, List.set_cons_succ, Nat.zero_add, Nat.reduceAdd]
        exact rfl
      · simp only [List.take_succ_cons, List.take_zero]
        refine ⟨fun u W hb hd K hK => ?_, ?_⟩
        · clear hd
          go_simp
          apply hK
          · simp only [Act.put, List.setIfInBounds_toArray, List.set_cons_zero, List.set_cons_succ]
            exact rfl
          · exact Below.refl _ _
          · exact IsOut
        refine ⟨fun u W hb hd K hK => ?_, ?_⟩
        · simp only [Facts, nthR, Is, and_true] at hd
          simp only [hd] at hK ⊢
          clear hd
          go_simp
          apply hK
          · simp only [Act.put, List.setIfInBounds_toArray, List.set_cons_zero, List.set_cons_succ]
            exact rfl
          · exact Below.refl _ _
          · exact IsOut
        refine ⟨fun u W hb hd K hK => ?_, ?_⟩
        · simp only [Facts, nthR, Is, and_true] at hd
          simp only [hd] at hK ⊢
          clear hd
          go_simp
          apply hK
          · simp only [Act.put, List.setIfInBounds_toArray, List.set_cons_zero, List.set_cons_succ]
            exact rfl
          · exact Below.refl _ _
          · exact IsOut
        refine ⟨fun u W hb hd K hK => ?_, ?_⟩
        · clear hd
          go_simp
          apply hK
          · simp only [Act.put, List.setIfInBounds_toArray, List.set_cons_zero, List.set_cons_succ]
            exact rfl
          · exact Below.refl _ _
          · exact IsOut
        refine ⟨fun u W hb hd K hK => ?_, ?_⟩
        · simp only [Facts, nthR, Is, and_true] at hd
          simp only [hd] at hK ⊢
          clear hd
          go_simp
          apply hK
          · simp only [Act.put, List.setIfInBounds_toArray, List.set_cons_zero, List.set_cons_succ]
            exact rfl
          · exact Below.refl _ _
          · exact IsOut
        refine ⟨fun u W hb hd K hK => ?_, ?_⟩
        · simp only [Facts, nthR, Is, and_true] at hd
          simp only [hd] at hK ⊢
          clear hd
          go_simp
          apply hK
          · simp only [Act.put, List.setIfInBounds_toArray, List.set_cons_zero, List.set_cons_succ]
            exact rfl
          · exact Below.refl _ _
          · exact IsOut
        refine ⟨fun u W hb hd K hK => ?_, ?_⟩
        · simp only [Facts, nthR, Is, and_true] at hd
          simp only [hd] at hK ⊢
          clear hd
          go_simp
          apply hK
          · simp only [Act.put, List.setIfInBounds_toArray, List.set_cons_zero, List.set_cons_succ]
            exact rfl
          · exact Below.refl _ _
          · exact IsOut
        refine ⟨fun u W hb hd K hK => ?_, ?_⟩
        · simp only [Facts, nthR, Is, and_true] at hd
          simp only [hd] at hK ⊢
          clear hd
          go_simp
          apply hK
          · simp only [Act.put, List.setIfInBounds_toArray, List.set_cons_zero, List.set_cons_succ]
            exact rfl
          · exact Below.refl _ _
          · exact IsOut
        refine ⟨fun u W hb hd K hK => ?_, ?_⟩
        · simp only [Facts, nthR, Is, and_true] at hd
          simp only [hd] at hK ⊢
          clear hd
          go_simp
          apply hK
          · simp only [Act.put, List.setIfInBounds_toArray, List.set_cons_zero, List.set_cons_succ]
            exact rfl
          · exact Below.refl _ _
          · exact IsOut
        refine ⟨fun u W hb hd K hK => ?_, ?_⟩
        · clear hd
          go_simp
          apply hK
          · simp only [Act.put, List.setIfInBounds_toArray, List.set_cons_zero, List.set_cons_succ]
            exact rfl
          · exact Below.refl _ _
          · exact IsOut
        refine ⟨fun u W hb hd K hK => ?_, ?_⟩
        · simp only [Facts, nthR, Is, and_true] at hd
          simp only [hd] at hK ⊢
          clear hd
          go_simp
          apply hK
          · simp only [Act.put, List.setIfInBounds_toArray, List.set_cons_zero, List.set_cons_succ]
            exact rfl
          · exact Below.refl _ _
          · exact IsOut
        refine ⟨fun u W hb hd K hK => ?_, ?_⟩
        · simp only [Facts, nthR, Is, and_true] at hd
          simp only [hd] at hK ⊢
          clear hd
          go_simp
          apply hK
          · simp only [Act.put, List.setIfInBounds_toArray, List.set_cons_zero, List.set_cons_succ]
            exact rfl
          · exact Below.refl _ _
          · exact IsOut
        refine ⟨fun u W hb hd K hK => ?_, ?_⟩
        · simp only [Facts, nthR, Is, and_true] at hd
          simp only [hd] at hK ⊢
          clear hd
          go_simp
          apply hK
          · simp only [Act.put, List.setIfInBounds_toArray, List.set_cons_zero, List.set_cons_succ]
            exact rfl
          · exact Below.refl _ _
          · exact IsOut
        refine ⟨fun u W hb hd K hK => ?_, ?_⟩
        · simp only [Facts, nthR, Is, and_true] at hd
          simp only [hd] at hK ⊢
          clear hd
          go_simp
          apply hK
          · simp only [Act.put, List.setIfInBounds_toArray, List.set_cons_zero, List.set_cons_succ]
            exact rfl
          · exact Below.refl _ _
          · exact IsOut
        refine ⟨fun u W hb hd K hK => ?_, ?_⟩
        · simp only [Facts, nthR, Is, and_true] at hd
          simp only [hd] at hK ⊢
          clear hd
          go_simp
          apply hK
          · simp only [Act.put, List.setIfInBounds_toArray, List.set_cons_zero, List.set_cons_succ]
            exact rfl
          · exact Below.refl _ _
          · exact IsOut
        exact trivial
      · skip
        exact trivial
      · exact (.is (.is (.is (.is (.is (.is (.is (.is (.is (.is (.is (.is (.is (.is (.is .nil)))))))))))))))
      · intro u W hb hd
        simp only [List.drop_succ_cons, List.drop_zero]
        simp only [Facts, nthR, Is, and_true] at hd
        simp only [hd]
        replace hB' := hB'.below hb lB
        replace hR' := hR'.below hb lR
        replace hI' := hI'.below hb lI
        replace hb' := hb'.trans (hb.mono hb'.size)
        clear hL hbc hb lB lI lR
        have f0 := hB'.frozen m
        have c0 := (hB'.cell m).trans (limb_at z m hm4)
        go_wp2
        go_roundw
        case rel =>
          refine ⟨k + 1, by omega, by go_num, ?_, hR'.far (by simp) _, hI'.far (by simp; omega) _, hb'.setCell (by simp; omega) _⟩
          rw [HS.out, ← set_limb _ _ _ hm4, pushB_val]
          exact hB'.set_ _ _
        case measure => simp [intOf]; omega
    · have hd2 : decide ((k : Int) < 32) = false := by simp; omega
      obtain rfl : k = 32 := by omega
      obtain ⟨z0, z1, z2, z3⟩ := hB'.four
      go_wp2_with ((with_reducible refine (?_ : wpList _ _ _ (Oper.mk none (.store 29 (.tmp 2) _) _ _ _ _ :: _) _ _)); go_loud (refine wpList_store_blk rfl 29 (.tmp 2) (.tmp 24) rfl rfl (w.heap.size + 1) [.int .u64 ((ofTo bs 32).a : Int), .int .u64 ((ofTo bs 32).b : Int), .int .u64 ((ofTo bs 32).c : Int), .int .u64 ((ofTo bs 32).d : Int)] rfl rfl 29 _ hR' infoT (Eq.trans (b := 4) rfl rfl) (by simp [Value.oneCell']) ?_); intro w4 hR4 hg4)
      refine bodyPost_ret (v := .agg _) (results_cell_row rfl _ _ (w.heap.size + 1) 29 _ (0, 0) _ rfl hR4.raw Tryd.underlying29 rfl infoT) rfl ⟨rfl, below_new hb' hg4 (by omega) hb'.size⟩

end Go.Proofs.YtnkikhnllnbhfaaDoor
