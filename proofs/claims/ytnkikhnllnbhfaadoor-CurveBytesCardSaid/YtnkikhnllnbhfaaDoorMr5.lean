/-
  Mr5.
-/
import Derived.Test.YtnkikhnllnbhfaaDoorMr4
import Derived.Test.YtnkikhnllnbhfaaDoorFree
namespace Go.Proofs.YtnkikhnllnbhfaaDoor
open Go.RowKit
theorem st_add {n : P4} (hn : n.ok) (h0 : 0 < n.val) (x y : Nat) : redP n ((redP n x).val + (redP n y).val) = redP n (x + y) := redP_congr (by rw [redP_val hn h0, redP_val hn h0, ← Nat.add_mod])
theorem st_sub1 {n x y : P4} (hn : n.ok) (h0 : 0 < n.val) (h : lessP (redP n x.val) (redP n y.val) = true) : plusP (redP n x.val) (minusP n (redP n y.val)) = redP n (x.val % n.val + n.val - y.val % n.val) := by
  rw [lessP_eq (redP_ok _ _) (redP_ok _ _), redP_val hn h0, redP_val hn h0] at h
  have h1 : x.val % n.val < y.val % n.val := by simpa using h
  have ly := Nat.mod_lt y.val h0
  have hm := minus_val hn (redP_ok n y.val) (by rw [redP_val hn h0]; omega)
  have hp := plus_eq (redP n x.val) (minusP n (redP n y.val))
  have hlt := P4.lt hn
  rw [hm, redP_val hn h0, redP_val hn h0] at hp
  refine redP_of hn h0 (plusP_ok _ _) ?_
  rw [Nat.mod_eq_of_lt (by omega)]
  have : plusC (redP n x.val) (minusP n (redP n y.val)) = 0 := by
    rcases Nat.eq_zero_or_pos (plusC (redP n x.val) (minusP n (redP n y.val))) with h | h
    · exact h
    · exfalso
      have : B256 * 1 ≤ B256 * plusC (redP n x.val) (minusP n (redP n y.val)) := Nat.mul_le_mul_left _ h
      omega
  rw [this, Nat.mul_zero] at hp
  omega
theorem st_sub0 {n x y : P4} (hn : n.ok) (h0 : 0 < n.val) (h : lessP (redP n x.val) (redP n y.val) = false) : minusP (redP n x.val) (redP n y.val) = redP n (x.val % n.val + n.val - y.val % n.val) := by
  rw [lessP_eq (redP_ok _ _) (redP_ok _ _), redP_val hn h0, redP_val hn h0] at h
  have h1 : ¬ x.val % n.val < y.val % n.val := by simpa using h
  have lx := Nat.mod_lt x.val h0
  have hm := minus_val (redP_ok n x.val) (redP_ok n y.val) (by rw [redP_val hn h0, redP_val hn h0]; omega)
  rw [redP_val hn h0, redP_val hn h0] at hm
  refine redP_of hn h0 (minusP_ok _ _) ?_
  rw [hm]
  generalize x.val % n.val = A at *
  generalize y.val % n.val = B at *
  rw [show A + n.val - B = (A - B) + n.val by omega, Nat.add_mod_right, Nat.mod_eq_of_lt (by omega)]
set_option maxRecDepth 100000 in
set_option maxHeartbeats 400000 in
theorem rAdd_any (x y n : P4) (w : World) (hx : x.ok) (hy : y.ok) (hn : n.ok) (hbig : 1 < n.val) : Calls Tryd.prog 26 #[.agg #[.int .u64 (x.a : Int), .int .u64 (x.b : Int), .int .u64 (x.c : Int), .int .u64 (x.d : Int)], .agg #[.int .u64 (y.a : Int), .int .u64 (y.b : Int), .int .u64 (y.c : Int), .int .u64 (y.d : Int)], .agg #[.int .u64 (n.a : Int), .int .u64 (n.b : Int), .int .u64 (n.c : Int), .int .u64 (n.d : Int)]] w fun e w' => e = .returned (.agg #[.int .u64 ((redP n (x.val + y.val)).a : Int), .int .u64 ((redP n (x.val + y.val)).b : Int), .int .u64 ((redP n (x.val + y.val)).c : Int), .int .u64 ((redP n (x.val + y.val)).d : Int)]) ∧ Below w.heap.size w w' := by
  have h0 : 0 < n.val := by omega
  have A := fun W => radd_v (redP n x.val) (redP n y.val) n W (redP_ok _ _) (redP_ok _ _) hn (redP_lt hn h0 _) (redP_lt hn h0 _)
  rw [st_add hn h0] at A
  go_enter Tryd.func26, Tryd.ntmps26
  go_wp2
  have hX : Blk ((((w.alloc (.cells #[.int .u64 (x.a : Int), .int .u64 (x.b : Int), .int .u64 (x.c : Int), .int .u64 (x.d : Int)] 29)).alloc (.cells #[.int .u64 (y.a : Int), .int .u64 (y.b : Int), .int .u64 (y.c : Int), .int .u64 (y.d : Int)] 29)).alloc (.cells #[.int .u64 (n.a : Int), .int .u64 (n.b : Int), .int .u64 (n.c : Int), .int .u64 (n.d : Int)] 29)).alloc (.cells #[.int .u64 0, .int .u64 0, .int .u64 0, .int .u64 0] 29)) (w.heap.size) 29 [.int .u64 (x.a : Int), .int .u64 (x.b : Int), .int .u64 (x.c : Int), .int .u64 (x.d : Int)] := (((Blk.new_of w _ _ _ rfl).alloc _).alloc _).alloc _
  have hY : Blk ((((w.alloc (.cells #[.int .u64 (x.a : Int), .int .u64 (x.b : Int), .int .u64 (x.c : Int), .int .u64 (x.d : Int)] 29)).alloc (.cells #[.int .u64 (y.a : Int), .int .u64 (y.b : Int), .int .u64 (y.c : Int), .int .u64 (y.d : Int)] 29)).alloc (.cells #[.int .u64 (n.a : Int), .int .u64 (n.b : Int), .int .u64 (n.c : Int), .int .u64 (n.d : Int)] 29)).alloc (.cells #[.int .u64 0, .int .u64 0, .int .u64 0, .int .u64 0] 29)) (w.heap.size + 1) 29 [.int .u64 (y.a : Int), .int .u64 (y.b : Int), .int .u64 (y.c : Int), .int .u64 (y.d : Int)] := ((Blk.new2_of w _ _ _ _ rfl).alloc _).alloc _
  have hN : Blk ((((w.alloc (.cells #[.int .u64 (x.a : Int), .int .u64 (x.b : Int), .int .u64 (x.c : Int), .int .u64 (x.d : Int)] 29)).alloc (.cells #[.int .u64 (y.a : Int), .int .u64 (y.b : Int), .int .u64 (y.c : Int), .int .u64 (y.d : Int)] 29)).alloc (.cells #[.int .u64 (n.a : Int), .int .u64 (n.b : Int), .int .u64 (n.c : Int), .int .u64 (n.d : Int)] 29)).alloc (.cells #[.int .u64 0, .int .u64 0, .int .u64 0, .int .u64 0] 29)) (w.heap.size + 1 + 1) 29 [.int .u64 (n.a : Int), .int .u64 (n.b : Int), .int .u64 (n.c : Int), .int .u64 (n.d : Int)] := (Blk.new3_of w _ _ _ _ _ rfl).alloc _
  have hR : Blk ((((w.alloc (.cells #[.int .u64 (x.a : Int), .int .u64 (x.b : Int), .int .u64 (x.c : Int), .int .u64 (x.d : Int)] 29)).alloc (.cells #[.int .u64 (y.a : Int), .int .u64 (y.b : Int), .int .u64 (y.c : Int), .int .u64 (y.d : Int)] 29)).alloc (.cells #[.int .u64 (n.a : Int), .int .u64 (n.b : Int), .int .u64 (n.c : Int), .int .u64 (n.d : Int)] 29)).alloc (.cells #[.int .u64 0, .int .u64 0, .int .u64 0, .int .u64 0] 29)) (w.heap.size + 1 + 1 + 1) 29 [.int .u64 0, .int .u64 0, .int .u64 0, .int .u64 0] := Blk.new4_of w _ _ _ _ _ _ rfl
  have hb0 := (fresh_three w (.cells #[.int .u64 (x.a : Int), .int .u64 (x.b : Int), .int .u64 (x.c : Int), .int .u64 (x.d : Int)] 29) (.cells #[.int .u64 (y.a : Int), .int .u64 (y.b : Int), .int .u64 (y.c : Int), .int .u64 (y.d : Int)] 29) (.cells #[.int .u64 (n.a : Int), .int .u64 (n.b : Int), .int .u64 (n.c : Int), .int .u64 (n.d : Int)] 29)).trans ((fresh_one (((w.alloc (.cells #[.int .u64 (x.a : Int), .int .u64 (x.b : Int), .int .u64 (x.c : Int), .int .u64 (x.d : Int)] 29)).alloc (.cells #[.int .u64 (y.a : Int), .int .u64 (y.b : Int), .int .u64 (y.c : Int), .int .u64 (y.d : Int)] 29)).alloc (.cells #[.int .u64 (n.a : Int), .int .u64 (n.b : Int), .int .u64 (n.c : Int), .int .u64 (n.d : Int)] 29)) (.cells #[.int .u64 0, .int .u64 0, .int .u64 0, .int .u64 0] 29)).mono (fresh_three w _ _ _).size)
  generalize (((w.alloc (.cells #[.int .u64 (x.a : Int), .int .u64 (x.b : Int), .int .u64 (x.c : Int), .int .u64 (x.d : Int)] 29)).alloc (.cells #[.int .u64 (y.a : Int), .int .u64 (y.b : Int), .int .u64 (y.c : Int), .int .u64 (y.d : Int)] 29)).alloc (.cells #[.int .u64 (n.a : Int), .int .u64 (n.b : Int), .int .u64 (n.c : Int), .int .u64 (n.d : Int)] 29)).alloc (.cells #[.int .u64 0, .int .u64 0, .int .u64 0, .int .u64 0] 29) = w1 at *
  have lhX := hX.lt
  have hX4 := fun (V : World) (h : Below w1.heap.size w1 V) => (hX.below h lhX).four
  have lhY := hY.lt
  have hY4 := fun (V : World) (h : Below w1.heap.size w1 V) => (hY.below h lhY).four
  have lhN := hN.lt
  have hN4 := fun (V : World) (h : Below w1.heap.size w1 V) => (hN.below h lhN).four
  have lR := hR.lt
  apply wp_region_once_tail (m := 8) (Z := []) (D := [[], [], [0, 1], [], [], [0, 1, 2, 3, 4], [], [0, 1, 2, 3, 4, 5, 6], [0, 1, 2, 3, 4, 5, 6, 7]]) (J := [[], [], [0, 1], [], [], [3, 4], [], [2, 5, 6]]) (Je := [7]) (Rs := [Is _, Is _, Is _, Is _, Is _, Is _, Is _, Is _])
  · kernel_rfl
  · kernel_rfl
  · kernel_rfl
  · kernel_rfl
  · kernel_rfl
  · kernel_rfl
  · kernel_rfl
  · exact fun h => absurd rfl h
  · intro u
    simp only [List.take_succ_cons, List.take_zero, List.map_cons, List.map_nil, fillU, List.setIfInBounds_toArray, List.set_cons_zero, List.set_cons_succ, Nat.zero_add, Nat.reduceAdd]
    exact rfl
  · simp only [List.take_succ_cons, List.take_zero]
    refine ⟨fun u W hb hd K hK => ?_, ?_⟩
    · clear hd
      go_simp
      apply hK
      · simp only [Act.put, List.setIfInBounds_toArray, List.set_cons_zero, List.set_cons_succ]
        exact rfl
      · exact Below.refl _ _
      · exact IsOut
    refine ⟨fun u W hb hd K hK => ?_, ?_⟩
    · clear hd
      go_simp
      apply hK
      · simp only [Act.put, List.setIfInBounds_toArray, List.set_cons_zero, List.set_cons_succ]
        exact rfl
      · exact Below.refl _ _
      · exact IsOut
    refine ⟨fun u W hb hd K hK => ?_, ?_⟩
    · simp only [Facts, nthR, Is, and_true] at hd
      simp only [hd] at hK ⊢
      clear hd
      go_simp
      refine (rRest_any x n W hx hn hbig).mono ?_
      rintro e wy ⟨rfl, hby⟩
      exact hK _ _ _ rfl hby IsOut
    refine ⟨fun u W hb hd K hK => ?_, ?_⟩
    · clear hd
      go_simp
      apply hK
      · simp only [Act.put, List.setIfInBounds_toArray, List.set_cons_zero, List.set_cons_succ]
        exact rfl
      · exact Below.refl _ _
      · exact IsOut
    refine ⟨fun u W hb hd K hK => ?_, ?_⟩
    · clear hd
      go_simp
      apply hK
      · simp only [Act.put, List.setIfInBounds_toArray, List.set_cons_zero, List.set_cons_succ]
        exact rfl
      · exact Below.refl _ _
      · exact IsOut
    refine ⟨fun u W hb hd K hK => ?_, ?_⟩
    · simp only [Facts, nthR, Is, and_true] at hd
      simp only [hd] at hK ⊢
      clear hd
      go_simp
      refine (rRest_any y n W hy hn hbig).mono ?_
      rintro e wy ⟨rfl, hby⟩
      exact hK _ _ _ rfl hby IsOut
    refine ⟨fun u W hb hd K hK => ?_, ?_⟩
    · clear hd
      go_simp
      apply hK
      · simp only [Act.put, List.setIfInBounds_toArray, List.set_cons_zero, List.set_cons_succ]
        exact rfl
      · exact Below.refl _ _
      · exact IsOut
    refine ⟨fun u W hb hd K hK => ?_, ?_⟩
    · simp only [Facts, nthR, Is, and_true] at hd
      simp only [hd] at hK ⊢
      clear hd
      go_simp
      refine (A W).mono ?_
      rintro e wy ⟨rfl, hby⟩
      exact hK _ _ _ rfl hby IsOut
    exact trivial
  · skip
    exact trivial
  · exact (.is (.is (.is (.is (.is (.is (.is (.is .nil))))))))
  · intro u W hb hd
    simp only [List.drop_succ_cons, List.drop_zero]
    simp only [Facts, nthR, Is, and_true] at hd
    simp only [hd]
    replace hR := hR.below hb lR
    replace hb0 := hb0.trans (hb.mono hb0.size)
    clear hX4 hY4 hN4
    go_wp2_with ((with_reducible refine (?_ : wpList _ _ _ (Oper.mk none (.store 29 (.tmp 6) _) _ _ _ _ :: _) _ _)); go_loud (refine wpList_store_blk rfl 29 (.tmp 6) (.tmp 14) rfl rfl (w.heap.size + 1 + 1 + 1) [.int .u64 ((redP n (x.val + y.val)).a : Int), .int .u64 ((redP n (x.val + y.val)).b : Int), .int .u64 ((redP n (x.val + y.val)).c : Int), .int .u64 ((redP n (x.val + y.val)).d : Int)] rfl rfl 29 _ hR infoT (Eq.trans (b := 4) rfl rfl) (by simp [Value.oneCell']) ?_); intro w4 hR4 hg4)
    refine bodyPost_ret (v := .agg _) (results_cell_row rfl _ _ (w.heap.size + 1 + 1 + 1) 29 _ (0, 0) _ rfl hR4.raw Tryd.underlying29 rfl infoT) rfl ⟨rfl, below_new hb0 hg4 (by omega) hb0.size⟩
set_option maxRecDepth 100000 in
set_option maxHeartbeats 400000 in
theorem rSub_ge (x y n : P4) (w : World) (hx : x.ok) (hy : y.ok) (hn : n.ok) (hbig : 1 < n.val) (hl : lessP (redP n x.val) (redP n y.val) = false) : Calls Tryd.prog 23 #[.agg #[.int .u64 (x.a : Int), .int .u64 (x.b : Int), .int .u64 (x.c : Int), .int .u64 (x.d : Int)], .agg #[.int .u64 (y.a : Int), .int .u64 (y.b : Int), .int .u64 (y.c : Int), .int .u64 (y.d : Int)], .agg #[.int .u64 (n.a : Int), .int .u64 (n.b : Int), .int .u64 (n.c : Int), .int .u64 (n.d : Int)]] w fun e w' => e = .returned (.agg #[.int .u64 ((minusP (redP n x.val) (redP n y.val)).a : Int), .int .u64 ((minusP (redP n x.val) (redP n y.val)).b : Int), .int .u64 ((minusP (redP n x.val) (redP n y.val)).c : Int), .int .u64 ((minusP (redP n x.val) (redP n y.val)).d : Int)]) ∧ Below w.heap.size w w' := by
  have h0 : 0 < n.val := by omega
  have L := fun W => rLess_any (redP n x.val) (redP n y.val) W (redP_ok _ _) (redP_ok _ _)
  rw [hl] at L
  clear hl
  have rx := redP_ok n x.val
  have ry := redP_ok n y.val
  have RX := fun W => rRest_any x n W hx hn hbig
  have RY := fun W => rRest_any y n W hy hn hbig
  generalize hrx : (redP n x.val) = a at *
  generalize hry : (redP n y.val) = b at *
  have HX := Lib.hid hrx
  have HY := Lib.hid hry
  clear hrx hry
  go_enter Tryd.func23, Tryd.ntmps23
  go_wp2
  have hX : Blk ((((w.alloc (.cells #[.int .u64 (x.a : Int), .int .u64 (x.b : Int), .int .u64 (x.c : Int), .int .u64 (x.d : Int)] 29)).alloc (.cells #[.int .u64 (y.a : Int), .int .u64 (y.b : Int), .int .u64 (y.c : Int), .int .u64 (y.d : Int)] 29)).alloc (.cells #[.int .u64 (n.a : Int), .int .u64 (n.b : Int), .int .u64 (n.c : Int), .int .u64 (n.d : Int)] 29)).alloc (.cells #[.int .u64 0, .int .u64 0, .int .u64 0, .int .u64 0] 29)) (w.heap.size) 29 [.int .u64 (x.a : Int), .int .u64 (x.b : Int), .int .u64 (x.c : Int), .int .u64 (x.d : Int)] := (((Blk.new_of w _ _ _ rfl).alloc _).alloc _).alloc _
  have hY : Blk ((((w.alloc (.cells #[.int .u64 (x.a : Int), .int .u64 (x.b : Int), .int .u64 (x.c : Int), .int .u64 (x.d : Int)] 29)).alloc (.cells #[.int .u64 (y.a : Int), .int .u64 (y.b : Int), .int .u64 (y.c : Int), .int .u64 (y.d : Int)] 29)).alloc (.cells #[.int .u64 (n.a : Int), .int .u64 (n.b : Int), .int .u64 (n.c : Int), .int .u64 (n.d : Int)] 29)).alloc (.cells #[.int .u64 0, .int .u64 0, .int .u64 0, .int .u64 0] 29)) (w.heap.size + 1) 29 [.int .u64 (y.a : Int), .int .u64 (y.b : Int), .int .u64 (y.c : Int), .int .u64 (y.d : Int)] := ((Blk.new2_of w _ _ _ _ rfl).alloc _).alloc _
  have hN : Blk ((((w.alloc (.cells #[.int .u64 (x.a : Int), .int .u64 (x.b : Int), .int .u64 (x.c : Int), .int .u64 (x.d : Int)] 29)).alloc (.cells #[.int .u64 (y.a : Int), .int .u64 (y.b : Int), .int .u64 (y.c : Int), .int .u64 (y.d : Int)] 29)).alloc (.cells #[.int .u64 (n.a : Int), .int .u64 (n.b : Int), .int .u64 (n.c : Int), .int .u64 (n.d : Int)] 29)).alloc (.cells #[.int .u64 0, .int .u64 0, .int .u64 0, .int .u64 0] 29)) (w.heap.size + 1 + 1) 29 [.int .u64 (n.a : Int), .int .u64 (n.b : Int), .int .u64 (n.c : Int), .int .u64 (n.d : Int)] := (Blk.new3_of w _ _ _ _ _ rfl).alloc _
  have hR : Blk ((((w.alloc (.cells #[.int .u64 (x.a : Int), .int .u64 (x.b : Int), .int .u64 (x.c : Int), .int .u64 (x.d : Int)] 29)).alloc (.cells #[.int .u64 (y.a : Int), .int .u64 (y.b : Int), .int .u64 (y.c : Int), .int .u64 (y.d : Int)] 29)).alloc (.cells #[.int .u64 (n.a : Int), .int .u64 (n.b : Int), .int .u64 (n.c : Int), .int .u64 (n.d : Int)] 29)).alloc (.cells #[.int .u64 0, .int .u64 0, .int .u64 0, .int .u64 0] 29)) (w.heap.size + 1 + 1 + 1) 29 [.int .u64 0, .int .u64 0, .int .u64 0, .int .u64 0] := Blk.new4_of w _ _ _ _ _ _ rfl
  have hb0 := (fresh_three w (.cells #[.int .u64 (x.a : Int), .int .u64 (x.b : Int), .int .u64 (x.c : Int), .int .u64 (x.d : Int)] 29) (.cells #[.int .u64 (y.a : Int), .int .u64 (y.b : Int), .int .u64 (y.c : Int), .int .u64 (y.d : Int)] 29) (.cells #[.int .u64 (n.a : Int), .int .u64 (n.b : Int), .int .u64 (n.c : Int), .int .u64 (n.d : Int)] 29)).trans ((fresh_one (((w.alloc (.cells #[.int .u64 (x.a : Int), .int .u64 (x.b : Int), .int .u64 (x.c : Int), .int .u64 (x.d : Int)] 29)).alloc (.cells #[.int .u64 (y.a : Int), .int .u64 (y.b : Int), .int .u64 (y.c : Int), .int .u64 (y.d : Int)] 29)).alloc (.cells #[.int .u64 (n.a : Int), .int .u64 (n.b : Int), .int .u64 (n.c : Int), .int .u64 (n.d : Int)] 29)) (.cells #[.int .u64 0, .int .u64 0, .int .u64 0, .int .u64 0] 29)).mono (fresh_three w _ _ _).size)
  generalize (((w.alloc (.cells #[.int .u64 (x.a : Int), .int .u64 (x.b : Int), .int .u64 (x.c : Int), .int .u64 (x.d : Int)] 29)).alloc (.cells #[.int .u64 (y.a : Int), .int .u64 (y.b : Int), .int .u64 (y.c : Int), .int .u64 (y.d : Int)] 29)).alloc (.cells #[.int .u64 (n.a : Int), .int .u64 (n.b : Int), .int .u64 (n.c : Int), .int .u64 (n.d : Int)] 29)).alloc (.cells #[.int .u64 0, .int .u64 0, .int .u64 0, .int .u64 0] 29) = w1 at *
  have lhX := hX.lt
  have hX4 := fun (V : World) (h : Below w1.heap.size w1 V) => (hX.below h lhX).four
  have lhY := hY.lt
  have hY4 := fun (V : World) (h : Below w1.heap.size w1 V) => (hY.below h lhY).four
  have lhN := hN.lt
  have hN4 := fun (V : World) (h : Below w1.heap.size w1 V) => (hN.below h lhN).four
  have lR := hR.lt
  apply wp_region_once_tail (m := 6) (Z := []) (D := [[], [], [0, 1], [], [], [0, 1, 2, 3, 4], [0, 1, 2, 3, 4, 5], [0, 1, 2, 3, 4, 5, 6]]) (J := [[], [], [0, 1], [], [], [3, 4]]) (Je := [2, 5]) (Rs := [Is _, Is _, Is _, Is _, Is _, Is _])
  · kernel_rfl
  · kernel_rfl
  · kernel_rfl
  · kernel_rfl
  · kernel_rfl
  · kernel_rfl
  · kernel_rfl
  · exact fun h => absurd rfl h
  · intro u
    simp only [List.take_succ_cons, List.take_zero, List.map_cons, List.map_nil, fillU, List.setIfInBounds_toArray, List.set_cons_zero, List.set_cons_succ, Nat.zero_add, Nat.reduceAdd]
    exact rfl
  · simp only [List.take_succ_cons, List.take_zero]
    refine ⟨fun u W hb hd K hK => ?_, ?_⟩
    · clear hd
      go_simp
      apply hK
      · simp only [Act.put, List.setIfInBounds_toArray, List.set_cons_zero, List.set_cons_succ]
        exact rfl
      · exact Below.refl _ _
      · exact IsOut
    refine ⟨fun u W hb hd K hK => ?_, ?_⟩
    · clear hd
      go_simp
      apply hK
      · simp only [Act.put, List.setIfInBounds_toArray, List.set_cons_zero, List.set_cons_succ]
        exact rfl
      · exact Below.refl _ _
      · exact IsOut
    refine ⟨fun u W hb hd K hK => ?_, ?_⟩
    · simp only [Facts, nthR, Is, and_true] at hd
      simp only [hd] at hK ⊢
      clear hd
      go_simp
      refine (RX W).mono ?_
      rintro e wy ⟨rfl, hby⟩
      exact hK _ _ _ rfl hby IsOut
    refine ⟨fun u W hb hd K hK => ?_, ?_⟩
    · clear hd
      go_simp
      apply hK
      · simp only [Act.put, List.setIfInBounds_toArray, List.set_cons_zero, List.set_cons_succ]
        exact rfl
      · exact Below.refl _ _
      · exact IsOut
    refine ⟨fun u W hb hd K hK => ?_, ?_⟩
    · clear hd
      go_simp
      apply hK
      · simp only [Act.put, List.setIfInBounds_toArray, List.set_cons_zero, List.set_cons_succ]
        exact rfl
      · exact Below.refl _ _
      · exact IsOut
    refine ⟨fun u W hb hd K hK => ?_, ?_⟩
    · simp only [Facts, nthR, Is, and_true] at hd
      simp only [hd] at hK ⊢
      clear hd
      go_simp
      refine (RY W).mono ?_
      rintro e wy ⟨rfl, hby⟩
      exact hK _ _ _ rfl hby IsOut
    exact trivial
  · skip
    exact trivial
  · exact (.is (.is (.is (.is (.is (.is .nil))))))
  · intro u W hb hd
    simp only [List.drop_succ_cons, List.drop_zero]
    simp only [Facts, nthR, Is, and_true] at hd
    simp only [hd]
    replace hX := hX.below hb lhX
    replace hY := hY.below hb lhY
    replace hN := hN.below hb lhN
    replace hR := hR.below hb lR
    replace hb0 := hb0.trans (hb.mono hb0.size)
    clear hX4 hY4 hN4 hb lhX lhY lhN lR
    go_wp2_with (first
      | ((with_reducible refine (?_ : wpList _ _ _ (Oper.mk none (.store 29 (.tmp 3) _) _ _ _ _ :: _) _ _)); go_loud (refine wpList_store_blk rfl 29 (.tmp 3) (.tmp 11) rfl rfl (w.heap.size) [.int .u64 (a.a : Int), .int .u64 (a.b : Int), .int .u64 (a.c : Int), .int .u64 (a.d : Int)] rfl rfl 29 _ hX infoT (Eq.trans (b := 4) rfl rfl) (by simp [Value.oneCell']) ?_); intro wa hXa hga; have hYa := hY.grown hga (fun h => by have := Option.some.inj h; omega); have hNa := hN.grown hga (fun h => by have := Option.some.inj h; omega); have hRa := hR.grown hga (fun h => by have := Option.some.inj h; omega); have hba := below_new hb0 hga (by omega) hb0.size; obtain ⟨x0, x1, x2, x3⟩ := hXa.four)
      | ((with_reducible refine (?_ : wpList _ _ _ (Oper.mk none (.store 29 (.tmp 4) _) _ _ _ _ :: _) _ _)); go_loud (refine wpList_store_blk rfl 29 (.tmp 4) (.tmp 14) rfl rfl (w.heap.size + 1) [.int .u64 (b.a : Int), .int .u64 (b.b : Int), .int .u64 (b.c : Int), .int .u64 (b.d : Int)] rfl rfl 29 _ hYa infoT (Eq.trans (b := 4) rfl rfl) (by simp [Value.oneCell']) ?_); intro wb hYb hgb; have hXb := hXa.grown hgb (fun h => by have := Option.some.inj h; omega); have hNb := hNa.grown hgb (fun h => by have := Option.some.inj h; omega); have hRb := hRa.grown hgb (fun h => by have := Option.some.inj h; omega); have hbb := below_new hba hgb (by omega) hba.size; clear x0 x1 x2 x3; obtain ⟨x0, x1, x2, x3⟩ := hXb.four; obtain ⟨y0, y1, y2, y3⟩ := hYb.four)
      | (go_at_call 37; refine (L _).mono ?_; rintro e wc ⟨rfl, hbc⟩; have hXc := hXb.below hbc hXb.lt; have hYc := hYb.below hbc hYb.lt; have hNc := hNb.below hbc hNb.lt; have hRc := hRb.below hbc hRb.lt; have hbC := hbb.trans (hbc.mono hbb.size); clear hbc x0 x1 x2 x3 y0 y1 y2 y3; obtain ⟨x0, x1, x2, x3⟩ := hXc.four; obtain ⟨y0, y1, y2, y3⟩ := hYc.four)
      | (go_at_call 45; refine (rminus_any a b _ rx ry).mono ?_; rintro e wd ⟨rfl, hbd⟩; have hRd := hRc.below hbd hRc.lt; have hbD := hbC.trans (hbd.mono hbC.size); clear hbd)
      | ((with_reducible refine (?_ : wpList _ _ _ (Oper.mk none (.store 29 (.tmp 6) _) _ _ _ _ :: _) _ _)); go_loud (refine wpList_store_blk rfl 29 (.tmp 6) (.tmp 29) rfl rfl (w.heap.size + 1 + 1 + 1) [.int .u64 ((minusP a b).a : Int), .int .u64 ((minusP a b).b : Int), .int .u64 ((minusP a b).c : Int), .int .u64 ((minusP a b).d : Int)] rfl rfl 29 _ hRd infoT (Eq.trans (b := 4) rfl rfl) (by simp [Value.oneCell']) ?_); intro w4 hR4 hg4))
    refine bodyPost_ret (v := .agg _) (results_cell_row rfl _ _ (w.heap.size + 1 + 1 + 1) 29 _ (0, 0) _ rfl hR4.raw Tryd.underlying29 rfl infoT) rfl ⟨rfl, below_new hbD hg4 (by omega) hbD.size⟩
set_option maxRecDepth 100000 in
set_option maxHeartbeats 400000 in
theorem rSub_lt (x y n : P4) (w : World) (hx : x.ok) (hy : y.ok) (hn : n.ok) (hbig : 1 < n.val) (hl : lessP (redP n x.val) (redP n y.val) = true) : Calls Tryd.prog 23 #[.agg #[.int .u64 (x.a : Int), .int .u64 (x.b : Int), .int .u64 (x.c : Int), .int .u64 (x.d : Int)], .agg #[.int .u64 (y.a : Int), .int .u64 (y.b : Int), .int .u64 (y.c : Int), .int .u64 (y.d : Int)], .agg #[.int .u64 (n.a : Int), .int .u64 (n.b : Int), .int .u64 (n.c : Int), .int .u64 (n.d : Int)]] w fun e w' => e = .returned (.agg #[.int .u64 ((plusP (redP n x.val) (minusP n (redP n y.val))).a : Int), .int .u64 ((plusP (redP n x.val) (minusP n (redP n y.val))).b : Int), .int .u64 ((plusP (redP n x.val) (minusP n (redP n y.val))).c : Int), .int .u64 ((plusP (redP n x.val) (minusP n (redP n y.val))).d : Int)]) ∧ Below w.heap.size w w' := by
  have h0 : 0 < n.val := by omega
  have L := fun W => rLess_any (redP n x.val) (redP n y.val) W (redP_ok _ _) (redP_ok _ _)
  rw [hl] at L
  clear hl
  have rx := redP_ok n x.val
  have ry := redP_ok n y.val
  have RX := fun W => rRest_any x n W hx hn hbig
  have RY := fun W => rRest_any y n W hy hn hbig
  generalize hrx : (redP n x.val) = a at *
  generalize hry : (redP n y.val) = b at *
  have HX := Lib.hid hrx
  have HY := Lib.hid hry
  clear hrx hry
  go_enter Tryd.func23, Tryd.ntmps23
  go_wp2
  have hX : Blk ((((w.alloc (.cells #[.int .u64 (x.a : Int), .int .u64 (x.b : Int), .int .u64 (x.c : Int), .int .u64 (x.d : Int)] 29)).alloc (.cells #[.int .u64 (y.a : Int), .int .u64 (y.b : Int), .int .u64 (y.c : Int), .int .u64 (y.d : Int)] 29)).alloc (.cells #[.int .u64 (n.a : Int), .int .u64 (n.b : Int), .int .u64 (n.c : Int), .int .u64 (n.d : Int)] 29)).alloc (.cells #[.int .u64 0, .int .u64 0, .int .u64 0, .int .u64 0] 29)) (w.heap.size) 29 [.int .u64 (x.a : Int), .int .u64 (x.b : Int), .int .u64 (x.c : Int), .int .u64 (x.d : Int)] := (((Blk.new_of w _ _ _ rfl).alloc _).alloc _).alloc _
  have hY : Blk ((((w.alloc (.cells #[.int .u64 (x.a : Int), .int .u64 (x.b : Int), .int .u64 (x.c : Int), .int .u64 (x.d : Int)] 29)).alloc (.cells #[.int .u64 (y.a : Int), .int .u64 (y.b : Int), .int .u64 (y.c : Int), .int .u64 (y.d : Int)] 29)).alloc (.cells #[.int .u64 (n.a : Int), .int .u64 (n.b : Int), .int .u64 (n.c : Int), .int .u64 (n.d : Int)] 29)).alloc (.cells #[.int .u64 0, .int .u64 0, .int .u64 0, .int .u64 0] 29)) (w.heap.size + 1) 29 [.int .u64 (y.a : Int), .int .u64 (y.b : Int), .int .u64 (y.c : Int), .int .u64 (y.d : Int)] := ((Blk.new2_of w _ _ _ _ rfl).alloc _).alloc _
  have hN : Blk ((((w.alloc (.cells #[.int .u64 (x.a : Int), .int .u64 (x.b : Int), .int .u64 (x.c : Int), .int .u64 (x.d : Int)] 29)).alloc (.cells #[.int .u64 (y.a : Int), .int .u64 (y.b : Int), .int .u64 (y.c : Int), .int .u64 (y.d : Int)] 29)).alloc (.cells #[.int .u64 (n.a : Int), .int .u64 (n.b : Int), .int .u64 (n.c : Int), .int .u64 (n.d : Int)] 29)).alloc (.cells #[.int .u64 0, .int .u64 0, .int .u64 0, .int .u64 0] 29)) (w.heap.size + 1 + 1) 29 [.int .u64 (n.a : Int), .int .u64 (n.b : Int), .int .u64 (n.c : Int), .int .u64 (n.d : Int)] := (Blk.new3_of w _ _ _ _ _ rfl).alloc _
  have hR : Blk ((((w.alloc (.cells #[.int .u64 (x.a : Int), .int .u64 (x.b : Int), .int .u64 (x.c : Int), .int .u64 (x.d : Int)] 29)).alloc (.cells #[.int .u64 (y.a : Int), .int .u64 (y.b : Int), .int .u64 (y.c : Int), .int .u64 (y.d : Int)] 29)).alloc (.cells #[.int .u64 (n.a : Int), .int .u64 (n.b : Int), .int .u64 (n.c : Int), .int .u64 (n.d : Int)] 29)).alloc (.cells #[.int .u64 0, .int .u64 0, .int .u64 0, .int .u64 0] 29)) (w.heap.size + 1 + 1 + 1) 29 [.int .u64 0, .int .u64 0, .int .u64 0, .int .u64 0] := Blk.new4_of w _ _ _ _ _ _ rfl
  have hb0 := (fresh_three w (.cells #[.int .u64 (x.a : Int), .int .u64 (x.b : Int), .int .u64 (x.c : Int), .int .u64 (x.d : Int)] 29) (.cells #[.int .u64 (y.a : Int), .int .u64 (y.b : Int), .int .u64 (y.c : Int), .int .u64 (y.d : Int)] 29) (.cells #[.int .u64 (n.a : Int), .int .u64 (n.b : Int), .int .u64 (n.c : Int), .int .u64 (n.d : Int)] 29)).trans ((fresh_one (((w.alloc (.cells #[.int .u64 (x.a : Int), .int .u64 (x.b : Int), .int .u64 (x.c : Int), .int .u64 (x.d : Int)] 29)).alloc (.cells #[.int .u64 (y.a : Int), .int .u64 (y.b : Int), .int .u64 (y.c : Int), .int .u64 (y.d : Int)] 29)).alloc (.cells #[.int .u64 (n.a : Int), .int .u64 (n.b : Int), .int .u64 (n.c : Int), .int .u64 (n.d : Int)] 29)) (.cells #[.int .u64 0, .int .u64 0, .int .u64 0, .int .u64 0] 29)).mono (fresh_three w _ _ _).size)
  generalize (((w.alloc (.cells #[.int .u64 (x.a : Int), .int .u64 (x.b : Int), .int .u64 (x.c : Int), .int .u64 (x.d : Int)] 29)).alloc (.cells #[.int .u64 (y.a : Int), .int .u64 (y.b : Int), .int .u64 (y.c : Int), .int .u64 (y.d : Int)] 29)).alloc (.cells #[.int .u64 (n.a : Int), .int .u64 (n.b : Int), .int .u64 (n.c : Int), .int .u64 (n.d : Int)] 29)).alloc (.cells #[.int .u64 0, .int .u64 0, .int .u64 0, .int .u64 0] 29) = w1 at *
  have lhX := hX.lt
  have hX4 := fun (V : World) (h : Below w1.heap.size w1 V) => (hX.below h lhX).four
  have lhY := hY.lt
  have hY4 := fun (V : World) (h : Below w1.heap.size w1 V) => (hY.below h lhY).four
  have lhN := hN.lt
  have hN4 := fun (V : World) (h : Below w1.heap.size w1 V) => (hN.below h lhN).four
  have lR := hR.lt
  apply wp_region_once_tail (m := 6) (Z := []) (D := [[], [], [0, 1], [], [], [0, 1, 2, 3, 4], [0, 1, 2, 3, 4, 5], [0, 1, 2, 3, 4, 5, 6]]) (J := [[], [], [0, 1], [], [], [3, 4]]) (Je := [2, 5]) (Rs := [Is _, Is _, Is _, Is _, Is _, Is _])
  · kernel_rfl
  · kernel_rfl
  · kernel_rfl
  · kernel_rfl
  · kernel_rfl
  · kernel_rfl
  · kernel_rfl
  · exact fun h => absurd rfl h
  · intro u
    simp only [List.take_succ_cons, List.take_zero, List.map_cons, List.map_nil, fillU, List.setIfInBounds_toArray, List.set_cons_zero, List.set_cons_succ, Nat.zero_add, Nat.reduceAdd]
    exact rfl
  · simp only [List.take_succ_cons, List.take_zero]
    refine ⟨fun u W hb hd K hK => ?_, ?_⟩
    · clear hd
      go_simp
      apply hK
      · simp only [Act.put, List.setIfInBounds_toArray, List.set_cons_zero, List.set_cons_succ]
        exact rfl
      · exact Below.refl _ _
      · exact IsOut
    refine ⟨fun u W hb hd K hK => ?_, ?_⟩
    · clear hd
      go_simp
      apply hK
      · simp only [Act.put, List.setIfInBounds_toArray, List.set_cons_zero, List.set_cons_succ]
        exact rfl
      · exact Below.refl _ _
      · exact IsOut
    refine ⟨fun u W hb hd K hK => ?_, ?_⟩
    · simp only [Facts, nthR, Is, and_true] at hd
      simp only [hd] at hK ⊢
      clear hd
      go_simp
      refine (RX W).mono ?_
      rintro e wy ⟨rfl, hby⟩
      exact hK _ _ _ rfl hby IsOut
    refine ⟨fun u W hb hd K hK => ?_, ?_⟩
    · clear hd
      go_simp
      apply hK
      · simp only [Act.put, List.setIfInBounds_toArray, List.set_cons_zero, List.set_cons_succ]
        exact rfl
      · exact Below.refl _ _
      · exact IsOut
    refine ⟨fun u W hb hd K hK => ?_, ?_⟩
    · clear hd
      go_simp
      apply hK
      · simp only [Act.put, List.setIfInBounds_toArray, List.set_cons_zero, List.set_cons_succ]
        exact rfl
      · exact Below.refl _ _
      · exact IsOut
    refine ⟨fun u W hb hd K hK => ?_, ?_⟩
    · simp only [Facts, nthR, Is, and_true] at hd
      simp only [hd] at hK ⊢
      clear hd
      go_simp
      refine (RY W).mono ?_
      rintro e wy ⟨rfl, hby⟩
      exact hK _ _ _ rfl hby IsOut
    exact trivial
  · skip
    exact trivial
  · exact (.is (.is (.is (.is (.is (.is .nil))))))
  · intro u W hb hd
    simp only [List.drop_succ_cons, List.drop_zero]
    simp only [Facts, nthR, Is, and_true] at hd
    simp only [hd]
    replace hX := hX.below hb lhX
    replace hY := hY.below hb lhY
    replace hN := hN.below hb lhN
    replace hR := hR.below hb lR
    replace hb0 := hb0.trans (hb.mono hb0.size)
    clear hX4 hY4 hN4 hb lhX lhY lhN lR
    go_wp2_with (first
      | ((with_reducible refine (?_ : wpList _ _ _ (Oper.mk none (.store 29 (.tmp 3) _) _ _ _ _ :: _) _ _)); go_loud (refine wpList_store_blk rfl 29 (.tmp 3) (.tmp 11) rfl rfl (w.heap.size) [.int .u64 (a.a : Int), .int .u64 (a.b : Int), .int .u64 (a.c : Int), .int .u64 (a.d : Int)] rfl rfl 29 _ hX infoT (Eq.trans (b := 4) rfl rfl) (by simp [Value.oneCell']) ?_); intro wa hXa hga; have hYa := hY.grown hga (fun h => by have := Option.some.inj h; omega); have hNa := hN.grown hga (fun h => by have := Option.some.inj h; omega); have hRa := hR.grown hga (fun h => by have := Option.some.inj h; omega); have hba := below_new hb0 hga (by omega) hb0.size; obtain ⟨x0, x1, x2, x3⟩ := hXa.four)
      | ((with_reducible refine (?_ : wpList _ _ _ (Oper.mk none (.store 29 (.tmp 4) _) _ _ _ _ :: _) _ _)); go_loud (refine wpList_store_blk rfl 29 (.tmp 4) (.tmp 14) rfl rfl (w.heap.size + 1) [.int .u64 (b.a : Int), .int .u64 (b.b : Int), .int .u64 (b.c : Int), .int .u64 (b.d : Int)] rfl rfl 29 _ hYa infoT (Eq.trans (b := 4) rfl rfl) (by simp [Value.oneCell']) ?_); intro wb hYb hgb; have hXb := hXa.grown hgb (fun h => by have := Option.some.inj h; omega); have hNb := hNa.grown hgb (fun h => by have := Option.some.inj h; omega); have hRb := hRa.grown hgb (fun h => by have := Option.some.inj h; omega); have hbb := below_new hba hgb (by omega) hba.size; clear x0 x1 x2 x3; obtain ⟨x0, x1, x2, x3⟩ := hXb.four; obtain ⟨y0, y1, y2, y3⟩ := hYb.four)
      | (go_at_call 37; refine (L _).mono ?_; rintro e wc ⟨rfl, hbc⟩; have hXc := hXb.below hbc hXb.lt; have hYc := hYb.below hbc hYb.lt; have hNc := hNb.below hbc hNb.lt; have hRc := hRb.below hbc hRb.lt; have hbC := hbb.trans (hbc.mono hbb.size); clear hbc x0 x1 x2 x3 y0 y1 y2 y3; obtain ⟨x0, x1, x2, x3⟩ := hXc.four; obtain ⟨y0, y1, y2, y3⟩ := hYc.four))
    clear x0 x1 x2 x3 y0 y1 y2 y3
    have lX := hXc.lt
    have lY := hYc.lt
    have lN := hNc.lt
    have lR := hRc.lt
    have hX4 := fun (V : World) (h : Below wc.heap.size wc V) => (hXc.below h lX).four
    have hY4 := fun (V : World) (h : Below wc.heap.size wc V) => (hYc.below h lY).four
    have hN4 := fun (V : World) (h : Below wc.heap.size wc V) => (hNc.below h lN).four
    have mok := minusP_ok n b
    have P := fun W => rplus_any a (minusP n b) W rx mok
    refine wp_region_noPanic ?_
    apply wp_region_once_tail (m := 9) (Z := [7]) (D := [[], [], [], [1, 2], [0, 1, 2, 3], [0, 1, 2, 3, 4], [0, 1, 2, 3, 4, 5], [0, 1, 2, 3, 4, 5], [], [0, 1, 2, 3, 4, 5, 6, 8], [0, 1, 2, 3, 4, 5, 6, 7, 8, 9]]) (J := [[], [], [], [1, 2], [0, 3], [4], [5], [5], []]) (Je := [6, 7, 8]) (Rs := [Is _, Is _, Is _, Is _, Is _, Is _, Is _, Is _, fun v V => ∃ g', v = .pointer (some ⟨g', 0, none⟩) ∧ wc.heap.size ≤ g' ∧ Blk V g' 29 [.int .u64 0, .int .u64 0, .int .u64 0, .int .u64 0]])
    · kernel_rfl
    · kernel_rfl
    · kernel_rfl
    · kernel_rfl
    · kernel_rfl
    · kernel_rfl
    · kernel_rfl
    · exact fun _ _ _ _ _ _ h => h
    · intro u
      simp only [List.take_succ_cons, List.take_zero, List.map_cons, List.map_nil, fillU, List.setIfInBounds_toArray, List.set_cons_zero, List.set_cons_succ, Nat.zero_add, Nat.reduceAdd]
      exact rfl
    · simp only [List.take_succ_cons, List.take_zero]
      refine ⟨fun u W hb hd K hK => ?_, ?_⟩
      · clear hd
        go_simp
        apply hK
        · simp only [Act.put, List.setIfInBounds_toArray, List.set_cons_zero, List.set_cons_succ]
          exact rfl
        · exact Below.refl _ _
        · exact IsOut
      refine ⟨fun u W hb hd K hK => ?_, ?_⟩
      · clear hd
        go_simp
        apply hK
        · simp only [Act.put, List.setIfInBounds_toArray, List.set_cons_zero, List.set_cons_succ]
          exact rfl
        · exact Below.refl _ _
        · exact IsOut
      refine ⟨fun u W hb hd K hK => ?_, ?_⟩
      · clear hd
        go_simp
        apply hK
        · simp only [Act.put, List.setIfInBounds_toArray, List.set_cons_zero, List.set_cons_succ]
          exact rfl
        · exact Below.refl _ _
        · exact IsOut
      refine ⟨fun u W hb hd K hK => ?_, ?_⟩
      · simp only [Facts, nthR, Is, and_true] at hd
        simp only [hd] at hK ⊢
        clear hd
        go_simp
        refine (rminus_any n b W hn ry).mono ?_
        rintro e wy ⟨rfl, hby⟩
        exact hK _ _ _ rfl hby IsOut
      refine ⟨fun u W hb hd K hK => ?_, ?_⟩
      · simp only [Facts, nthR, Is, and_true] at hd
        simp only [hd] at hK ⊢
        clear hd
        go_simp
        refine (P W).mono ?_
        rintro e wy ⟨rfl, hby⟩
        exact hK _ _ _ rfl hby IsOut
      refine ⟨fun u W hb hd K hK => ?_, ?_⟩
      · simp only [Facts, nthR, Is, and_true] at hd
        simp only [hd] at hK ⊢
        clear hd
        go_simp
        apply hK
        · simp only [Act.put, List.setIfInBounds_toArray, List.set_cons_zero, List.set_cons_succ]
          exact rfl
        · exact Below.refl _ _
        · exact IsOut
      refine ⟨fun u W hb hd K hK => ?_, ?_⟩
      · simp only [Facts, nthR, Is, and_true] at hd
        simp only [hd] at hK ⊢
        clear hd
        go_simp
        apply hK
        · simp only [Act.put, List.setIfInBounds_toArray, List.set_cons_zero, List.set_cons_succ]
          exact rfl
        · exact Below.refl _ _
        · exact IsOut
      refine ⟨fun u W hb hd K hK => ?_, ?_⟩
      · simp only [Facts, nthR, Is, and_true] at hd
        simp only [hd] at hK ⊢
        clear hd
        go_simp
        apply hK
        · simp only [Act.put, List.setIfInBounds_toArray, List.set_cons_zero, List.set_cons_succ]
          exact rfl
        · exact Below.refl _ _
        · exact IsOut
      refine ⟨fun u W hb hd K hK => ?_, ?_⟩
      · clear hd
        go_simp
        apply hK
        · simp only [Act.put, List.setIfInBounds_toArray, List.set_cons_zero, List.set_cons_succ]
          exact rfl
        · exact (Below.refl _ _).alloc (Nat.le_refl _) _
        · exact ⟨_, rfl, hb.size, Blk.new_of _ _ _ _ rfl⟩
      exact trivial
    · skip
      refine ⟨fun o ho u W hb hd => ?_, ?_⟩
      · obtain rfl := Option.some.inj ho
        simp only [Facts, nthR, Is, and_true, List.getD_cons_succ, List.getD_cons_zero] at hd
        simp only [hd]
        clear hd
        exact ⟨_, .inl ⟨by rfl, fun w' => by go_simp⟩, IsOut (w := W)⟩
      exact trivial
    · exact (.is (.is (.is (.is (.is (.is (.is (.is (.cons (fun v V V' ⟨g', h1, h2, h3⟩ hb => ⟨g', h1, h2, h3.below hb h3.lt⟩) .nil)))))))))
    · intro u W hb hd
      simp only [List.drop_succ_cons, List.drop_zero]
      simp only [Facts, nthR, Is, and_true] at hd
      obtain ⟨h7, h8, g', h9, hg', hG⟩ := hd
      simp only [h7, h8, h9]
      clear h7 h8 h9
      replace hRc := hRc.below hb lR
      have hbE := hbC.trans (hb.mono hbC.size)
      have hz := hbC.size
      refine wpList_store_blk rfl 29 (.tmp 7) (.tmp 24) rfl rfl (g') [.int .u64 ((plusP a (minusP n b)).a : Int), .int .u64 ((plusP a (minusP n b)).b : Int), .int .u64 ((plusP a (minusP n b)).c : Int), .int .u64 ((plusP a (minusP n b)).d : Int)] rfl rfl 29 _ hG infoT (Eq.trans (b := 4) rfl rfl) (by simp [Value.oneCell']) ?_
      intro we hGe hge
      have hRe := hRc.grown hge (fun h => by have := Option.some.inj h; omega)
      have hbe := below_new hbE hge (by omega) hbE.size
      obtain ⟨z0, z1, z2, z3⟩ := hGe.four
      go_wp2
      refine NoPanic.normal ?_
      go_wp2_with ((with_reducible refine (?_ : wpList _ _ _ (Oper.mk none (.store 29 (.tmp 6) _) _ _ _ _ :: _) _ _)); go_loud (refine wpList_store_blk rfl 29 (.tmp 6) (.tmp 26) rfl rfl (w.heap.size + 1 + 1 + 1) [.int .u64 ((plusP a (minusP n b)).a : Int), .int .u64 ((plusP a (minusP n b)).b : Int), .int .u64 ((plusP a (minusP n b)).c : Int), .int .u64 ((plusP a (minusP n b)).d : Int)] rfl rfl 29 _ hRe infoT (Eq.trans (b := 4) rfl rfl) (by simp [Value.oneCell']) ?_); intro w4 hR4 hg4)
      refine bodyPost_ret (v := .agg _) (results_cell_row rfl _ _ (w.heap.size + 1 + 1 + 1) 29 _ (0, 0) _ rfl hR4.raw Tryd.underlying29 rfl infoT) rfl ⟨rfl, below_new hbe hg4 (by omega) hbe.size⟩
theorem rSub_any (x y n : P4) (w : World) (hx : x.ok) (hy : y.ok) (hn : n.ok) (hbig : 1 < n.val) : Calls Tryd.prog 23 #[.agg #[.int .u64 (x.a : Int), .int .u64 (x.b : Int), .int .u64 (x.c : Int), .int .u64 (x.d : Int)], .agg #[.int .u64 (y.a : Int), .int .u64 (y.b : Int), .int .u64 (y.c : Int), .int .u64 (y.d : Int)], .agg #[.int .u64 (n.a : Int), .int .u64 (n.b : Int), .int .u64 (n.c : Int), .int .u64 (n.d : Int)]] w fun e w' => e = .returned (.agg #[.int .u64 ((redP n (x.val % n.val + n.val - y.val % n.val)).a : Int), .int .u64 ((redP n (x.val % n.val + n.val - y.val % n.val)).b : Int), .int .u64 ((redP n (x.val % n.val + n.val - y.val % n.val)).c : Int), .int .u64 ((redP n (x.val % n.val + n.val - y.val % n.val)).d : Int)]) ∧ Below w.heap.size w w' := by
  have h0 : 0 < n.val := by omega
  cases hl : lessP (redP n x.val) (redP n y.val) with
  | true => rw [← st_sub1 hn h0 hl]; exact rSub_lt x y n w hx hy hn hbig hl
  | false => rw [← st_sub0 hn h0 hl]; exact rSub_ge x y n w hx hy hn hbig hl

end Go.Proofs.YtnkikhnllnbhfaaDoor
