/-
  Mw6.
-/
import Derived.Test.YtnkikhnllnbhfaaDoorMw5
namespace Go.Proofs.YtnkikhnllnbhfaaDoor
open Go.RowKit
set_option maxRecDepth 100000 in
set_option maxHeartbeats 400000 in
theorem empty_nil (w : World) : Calls Tryd.prog 64 #[.pointer none] w fun e w' => e = .returned (.bool true) ∧ w' = w := by
  go_enter Tryd.func64, Tryd.ntmps64
  go_wp2
  go_ret
  exact ⟨rfl, rfl⟩
set_option maxRecDepth 100000 in
set_option maxHeartbeats 400000 in
theorem empty_any (g : Nat) (n sq : P4) (f : Nat) (w : World) (hm : Blk w g 89 (modCells n sq f)) (hn : 0 < n.val) :
    Calls Tryd.prog 64 #[.pointer (some ⟨g, 0, none⟩)] w fun e w' => e = .returned (.bool false) ∧ w' = w := by
  have hm9 := hm.mod
  go_enter Tryd.func64, Tryd.ntmps64
  go_wp2
  all_goals first | (go_ret; exact ⟨rfl, rfl⟩) | (exfalso; unfold P4.val at hn; omega)
theorem info24 : (Tryd.prog.info? 59).map (·.size) = some 4 := by kernel_rfl
set_option maxRecDepth 100000 in
set_option maxHeartbeats 400000 in
theorem Add_nil (x y : P4) (w : World) : Calls Tryd.prog 52 #[.pointer none, .agg #[.int .u64 (x.a : Int), .int .u64 (x.b : Int), .int .u64 (x.c : Int), .int .u64 (x.d : Int)], .agg #[.int .u64 (y.a : Int), .int .u64 (y.b : Int), .int .u64 (y.c : Int), .int .u64 (y.d : Int)]] w fun e w' => e = .returned (.agg #[.int .u64 0, .int .u64 0, .int .u64 0, .int .u64 0]) ∧ Below w.heap.size w w' := by
  go_enter Tryd.func52, Tryd.ntmps52
  go_wp2_with fail
  refine (empty_nil _).mono ?_
  rintro e w2 ⟨rfl, rfl⟩
  have hR : Blk (((w.alloc (.cells #[.int .u64 (x.a : Int), .int .u64 (x.b : Int), .int .u64 (x.c : Int), .int .u64 (x.d : Int)] 59)).alloc (.cells #[.int .u64 (y.a : Int), .int .u64 (y.b : Int), .int .u64 (y.c : Int), .int .u64 (y.d : Int)] 59)).alloc (.cells #[.int .u64 0, .int .u64 0, .int .u64 0, .int .u64 0] 59)) (w.heap.size + 1 + 1) 59 [.int .u64 0, .int .u64 0, .int .u64 0, .int .u64 0] := Blk.new3_of w _ _ _ _ _ rfl
  have hb := fresh_three w (.cells #[.int .u64 (x.a : Int), .int .u64 (x.b : Int), .int .u64 (x.c : Int), .int .u64 (x.d : Int)] 59) (.cells #[.int .u64 (y.a : Int), .int .u64 (y.b : Int), .int .u64 (y.c : Int), .int .u64 (y.d : Int)] 59) (.cells #[.int .u64 0, .int .u64 0, .int .u64 0, .int .u64 0] 59)
  generalize ((w.alloc (.cells #[.int .u64 (x.a : Int), .int .u64 (x.b : Int), .int .u64 (x.c : Int), .int .u64 (x.d : Int)] 59)).alloc (.cells #[.int .u64 (y.a : Int), .int .u64 (y.b : Int), .int .u64 (y.c : Int), .int .u64 (y.d : Int)] 59)).alloc (.cells #[.int .u64 0, .int .u64 0, .int .u64 0, .int .u64 0] 59) = w1 at *
  go_wp2_with ((with_reducible refine (?_ : wpList _ _ _ (Oper.mk none (.store 59 (.tmp 6) _) _ _ _ _ :: _) _ _)); go_loud (refine wpList_store_blk rfl 59 (.tmp 6) (.tmp 9) rfl rfl (w.heap.size + 1 + 1) [.int .u64 0, .int .u64 0, .int .u64 0, .int .u64 0] rfl rfl 59 _ hR info24 (Eq.trans (b := 4) rfl rfl) (by simp [Value.oneCell']) ?_); intro w4 hR4 hg4)
  refine bodyPost_ret (v := .agg _) (results_cell_row rfl _ _ (w.heap.size + 1 + 1) 59 _ (0, 0) _ rfl hR4.raw Tryd.underlying59 rfl info24) rfl ⟨rfl, below_new hb hg4 (by omega) hb.size⟩
def addP (n sq : P4) (f : Nat) (x y : P4) : P4 := lessenedP n (plusP (restP n sq f x) (restP n sq f y)) (plusC (restP n sq f x) (restP n sq f y))
def subP (n sq : P4) (f : Nat) (x y : P4) : P4 := diffP n (restP n sq f x) (restP n sq f y)
def mulP (n sq : P4) (f : Nat) (x y : P4) : P4 := productP n f x (productP n f y sq)
set_option maxRecDepth 100000 in
set_option maxHeartbeats 400000 in
theorem Add_any (g : Nat) (n sq x y : P4) (f : Nat) (w : World) (hm : Blk w g 89 (modCells n sq f)) (md : Md n sq f) (hx : x.ok) (hy : y.ok) :
    Calls Tryd.prog 52 #[.pointer (some ⟨g, 0, none⟩), .agg #[.int .u64 (x.a : Int), .int .u64 (x.b : Int), .int .u64 (x.c : Int), .int .u64 (x.d : Int)], .agg #[.int .u64 (y.a : Int), .int .u64 (y.b : Int), .int .u64 (y.c : Int), .int .u64 (y.d : Int)]] w fun e w' => e = .returned (.agg #[.int .u64 ((addP n sq f x y).a : Int), .int .u64 ((addP n sq f x y).b : Int), .int .u64 ((addP n sq f x y).c : Int), .int .u64 ((addP n sq f x y).d : Int)]) ∧ Below w.heap.size w w' := by
  go_enter Tryd.func52, Tryd.ntmps52
  go_wp2_with fail
  have hX : Blk (((w.alloc (.cells #[.int .u64 (x.a : Int), .int .u64 (x.b : Int), .int .u64 (x.c : Int), .int .u64 (x.d : Int)] 59)).alloc (.cells #[.int .u64 (y.a : Int), .int .u64 (y.b : Int), .int .u64 (y.c : Int), .int .u64 (y.d : Int)] 59)).alloc (.cells #[.int .u64 0, .int .u64 0, .int .u64 0, .int .u64 0] 59)) (w.heap.size) 59 [.int .u64 (x.a : Int), .int .u64 (x.b : Int), .int .u64 (x.c : Int), .int .u64 (x.d : Int)] := ((Blk.new_of w _ _ _ rfl).alloc _).alloc _
  have hY : Blk (((w.alloc (.cells #[.int .u64 (x.a : Int), .int .u64 (x.b : Int), .int .u64 (x.c : Int), .int .u64 (x.d : Int)] 59)).alloc (.cells #[.int .u64 (y.a : Int), .int .u64 (y.b : Int), .int .u64 (y.c : Int), .int .u64 (y.d : Int)] 59)).alloc (.cells #[.int .u64 0, .int .u64 0, .int .u64 0, .int .u64 0] 59)) (w.heap.size + 1) 59 [.int .u64 (y.a : Int), .int .u64 (y.b : Int), .int .u64 (y.c : Int), .int .u64 (y.d : Int)] := (Blk.new2_of w _ _ _ _ rfl).alloc _
  have hR : Blk (((w.alloc (.cells #[.int .u64 (x.a : Int), .int .u64 (x.b : Int), .int .u64 (x.c : Int), .int .u64 (x.d : Int)] 59)).alloc (.cells #[.int .u64 (y.a : Int), .int .u64 (y.b : Int), .int .u64 (y.c : Int), .int .u64 (y.d : Int)] 59)).alloc (.cells #[.int .u64 0, .int .u64 0, .int .u64 0, .int .u64 0] 59)) (w.heap.size + 1 + 1) 59 [.int .u64 0, .int .u64 0, .int .u64 0, .int .u64 0] := Blk.new3_of w _ _ _ _ _ rfl
  have hM := ((hm.alloc (.cells #[.int .u64 (x.a : Int), .int .u64 (x.b : Int), .int .u64 (x.c : Int), .int .u64 (x.d : Int)] 59)).alloc (.cells #[.int .u64 (y.a : Int), .int .u64 (y.b : Int), .int .u64 (y.c : Int), .int .u64 (y.d : Int)] 59)).alloc (.cells #[.int .u64 0, .int .u64 0, .int .u64 0, .int .u64 0] 59)
  have hb0 := fresh_three w (.cells #[.int .u64 (x.a : Int), .int .u64 (x.b : Int), .int .u64 (x.c : Int), .int .u64 (x.d : Int)] 59) (.cells #[.int .u64 (y.a : Int), .int .u64 (y.b : Int), .int .u64 (y.c : Int), .int .u64 (y.d : Int)] 59) (.cells #[.int .u64 0, .int .u64 0, .int .u64 0, .int .u64 0] 59)
  generalize ((w.alloc (.cells #[.int .u64 (x.a : Int), .int .u64 (x.b : Int), .int .u64 (x.c : Int), .int .u64 (x.d : Int)] 59)).alloc (.cells #[.int .u64 (y.a : Int), .int .u64 (y.b : Int), .int .u64 (y.c : Int), .int .u64 (y.d : Int)] 59)).alloc (.cells #[.int .u64 0, .int .u64 0, .int .u64 0, .int .u64 0] 59) = w1 at *
  have lhX := hX.lt
  have lhY := hY.lt
  have lhR := hR.lt
  have lM := hM.lt
  refine (empty_any g n sq f _ hM (by have := md.big; omega)).mono ?_
  rintro e wz ⟨rfl, rfl⟩
  rename World => w1
  have hx4 := fun (V : World) (h : Below w1.heap.size w1 V) => (hX.below h lhX).four
  have hy4 := fun (V : World) (h : Below w1.heap.size w1 V) => (hY.below h lhY).four
  go_wp2
  apply wp_region_once_tail (m := 9) (Z := []) (D := [[], [], [], [1, 2], [], [], [1, 2, 3, 4, 5], [0, 1, 2, 3, 4, 5, 6], [0, 1, 2, 3, 4, 5, 6, 7], [0, 1, 2, 3, 4, 5, 6, 7, 8]]) (J := [[], [], [], [1, 2], [], [], [4, 5], [0, 3, 6], [7]]) (Je := [8]) (Rs := [Is _, Is _, Is _, Is _, Is _, Is _, Is _, Is _, Is _])
  · kernel_rfl
  · kernel_rfl
  · kernel_rfl
  · kernel_rfl
  · kernel_rfl
  · kernel_rfl
  · kernel_rfl
  · exact fun h => absurd rfl h
  · intro u
    simp only [List.take_succ_cons, List.take_zero, List.map_cons, List.map_nil, fillU, List.setIfInBounds_toArray, List.set_cons_zero, List.set_cons_succ, Nat.zero_add, Nat.reduceAdd]
    exact rfl
  · simp only [List.take_succ_cons, List.take_zero]
    refine ⟨fun u W hb hd K hK => ?_, ?_⟩
    · clear hd
      go_simp
      apply hK
      · simp only [Act.put, List.setIfInBounds_toArray, List.set_cons_zero, List.set_cons_succ]
        exact rfl
      · exact Below.refl _ _
      · exact IsOut
    refine ⟨fun u W hb hd K hK => ?_, ?_⟩
    · clear hd
      go_simp
      apply hK
      · simp only [Act.put, List.setIfInBounds_toArray, List.set_cons_zero, List.set_cons_succ]
        exact rfl
      · exact Below.refl _ _
      · exact IsOut
    refine ⟨fun u W hb hd K hK => ?_, ?_⟩
    · clear hd
      go_simp
      apply hK
      · simp only [Act.put, List.setIfInBounds_toArray, List.set_cons_zero, List.set_cons_succ]
        exact rfl
      · exact Below.refl _ _
      · exact IsOut
    refine ⟨fun u W hb hd K hK => ?_, ?_⟩
    · simp only [Facts, nthR, Is, and_true] at hd
      simp only [hd] at hK ⊢
      clear hd
      go_simp
      refine (rest_any g n sq x f W (hM.below hb lM) md.ok md.sqok hx).mono ?_
      rintro e wy ⟨rfl, hby⟩
      exact hK _ _ _ rfl hby IsOut
    refine ⟨fun u W hb hd K hK => ?_, ?_⟩
    · clear hd
      go_simp
      apply hK
      · simp only [Act.put, List.setIfInBounds_toArray, List.set_cons_zero, List.set_cons_succ]
        exact rfl
      · exact Below.refl _ _
      · exact IsOut
    refine ⟨fun u W hb hd K hK => ?_, ?_⟩
    · clear hd
      go_simp
      apply hK
      · simp only [Act.put, List.setIfInBounds_toArray, List.set_cons_zero, List.set_cons_succ]
        exact rfl
      · exact Below.refl _ _
      · exact IsOut
    refine ⟨fun u W hb hd K hK => ?_, ?_⟩
    · simp only [Facts, nthR, Is, and_true] at hd
      simp only [hd] at hK ⊢
      clear hd
      go_simp
      refine (rest_any g n sq y f W (hM.below hb lM) md.ok md.sqok hy).mono ?_
      rintro e wy ⟨rfl, hby⟩
      exact hK _ _ _ rfl hby IsOut
    refine ⟨fun u W hb hd K hK => ?_, ?_⟩
    · simp only [Facts, nthR, Is, and_true] at hd
      simp only [hd] at hK ⊢
      clear hd
      go_simp
      refine (sum_any g n sq (restP n sq f x) (restP n sq f y) f W (hM.below hb lM) (restP_ok md.ok md.sqok hx) (restP_ok md.ok md.sqok hy)).mono ?_
      rintro e wy ⟨rfl, hby⟩
      exact hK _ _ _ rfl hby IsOut
    refine ⟨fun u W hb hd K hK => ?_, ?_⟩
    · simp only [Facts, nthR, Is, and_true] at hd
      simp only [hd] at hK ⊢
      clear hd
      go_simp
      refine (num_any (addP n sq f x y) W).mono ?_
      rintro e wy ⟨rfl, hby⟩
      exact hK _ _ _ rfl hby IsOut
    exact trivial
  · skip
    exact trivial
  · exact (.is (.is (.is (.is (.is (.is (.is (.is (.is .nil)))))))))
  · intro u W hb hd
    simp only [List.drop_succ_cons, List.drop_zero]
    simp only [Facts, nthR, Is, and_true] at hd
    simp only [hd]
    refine wpList_store_blk rfl 59 (.tmp 6) (.tmp 18) rfl rfl (w.heap.size + 1 + 1) [.int .u64 ((addP n sq f x y).a : Int), .int .u64 ((addP n sq f x y).b : Int), .int .u64 ((addP n sq f x y).c : Int), .int .u64 ((addP n sq f x y).d : Int)] rfl rfl 59 _ (hR.below hb lhR) info24 (Eq.trans (b := 4) rfl rfl) (by simp [Value.oneCell']) ?_
    intro w2 hR2 hg2
    go_wp2
    refine bodyPost_ret (v := .agg _) (results_cell_row rfl _ _ (w.heap.size + 1 + 1) 59 _ (0, 0) _ rfl hR2.raw Tryd.underlying59 rfl info24) rfl ⟨rfl, below_new (hb0.trans (hb.mono hb0.size)) hg2 (by omega) (by have := hb.size; have := hb0.size; omega)⟩
set_option maxRecDepth 100000 in
set_option maxHeartbeats 400000 in
theorem Sub_any (g : Nat) (n sq x y : P4) (f : Nat) (w : World) (hm : Blk w g 89 (modCells n sq f)) (md : Md n sq f) (hx : x.ok) (hy : y.ok) :
    Calls Tryd.prog 54 #[.pointer (some ⟨g, 0, none⟩), .agg #[.int .u64 (x.a : Int), .int .u64 (x.b : Int), .int .u64 (x.c : Int), .int .u64 (x.d : Int)], .agg #[.int .u64 (y.a : Int), .int .u64 (y.b : Int), .int .u64 (y.c : Int), .int .u64 (y.d : Int)]] w fun e w' => e = .returned (.agg #[.int .u64 ((subP n sq f x y).a : Int), .int .u64 ((subP n sq f x y).b : Int), .int .u64 ((subP n sq f x y).c : Int), .int .u64 ((subP n sq f x y).d : Int)]) ∧ Below w.heap.size w w' := by
  go_enter Tryd.func54, Tryd.ntmps54
  go_wp2_with fail
  have hX : Blk (((w.alloc (.cells #[.int .u64 (x.a : Int), .int .u64 (x.b : Int), .int .u64 (x.c : Int), .int .u64 (x.d : Int)] 59)).alloc (.cells #[.int .u64 (y.a : Int), .int .u64 (y.b : Int), .int .u64 (y.c : Int), .int .u64 (y.d : Int)] 59)).alloc (.cells #[.int .u64 0, .int .u64 0, .int .u64 0, .int .u64 0] 59)) (w.heap.size) 59 [.int .u64 (x.a : Int), .int .u64 (x.b : Int), .int .u64 (x.c : Int), .int .u64 (x.d : Int)] := ((Blk.new_of w _ _ _ rfl).alloc _).alloc _
  have hY : Blk (((w.alloc (.cells #[.int .u64 (x.a : Int), .int .u64 (x.b : Int), .int .u64 (x.c : Int), .int .u64 (x.d : Int)] 59)).alloc (.cells #[.int .u64 (y.a : Int), .int .u64 (y.b : Int), .int .u64 (y.c : Int), .int .u64 (y.d : Int)] 59)).alloc (.cells #[.int .u64 0, .int .u64 0, .int .u64 0, .int .u64 0] 59)) (w.heap.size + 1) 59 [.int .u64 (y.a : Int), .int .u64 (y.b : Int), .int .u64 (y.c : Int), .int .u64 (y.d : Int)] := (Blk.new2_of w _ _ _ _ rfl).alloc _
  have hR : Blk (((w.alloc (.cells #[.int .u64 (x.a : Int), .int .u64 (x.b : Int), .int .u64 (x.c : Int), .int .u64 (x.d : Int)] 59)).alloc (.cells #[.int .u64 (y.a : Int), .int .u64 (y.b : Int), .int .u64 (y.c : Int), .int .u64 (y.d : Int)] 59)).alloc (.cells #[.int .u64 0, .int .u64 0, .int .u64 0, .int .u64 0] 59)) (w.heap.size + 1 + 1) 59 [.int .u64 0, .int .u64 0, .int .u64 0, .int .u64 0] := Blk.new3_of w _ _ _ _ _ rfl
  have hM := ((hm.alloc (.cells #[.int .u64 (x.a : Int), .int .u64 (x.b : Int), .int .u64 (x.c : Int), .int .u64 (x.d : Int)] 59)).alloc (.cells #[.int .u64 (y.a : Int), .int .u64 (y.b : Int), .int .u64 (y.c : Int), .int .u64 (y.d : Int)] 59)).alloc (.cells #[.int .u64 0, .int .u64 0, .int .u64 0, .int .u64 0] 59)
  have hb0 := fresh_three w (.cells #[.int .u64 (x.a : Int), .int .u64 (x.b : Int), .int .u64 (x.c : Int), .int .u64 (x.d : Int)] 59) (.cells #[.int .u64 (y.a : Int), .int .u64 (y.b : Int), .int .u64 (y.c : Int), .int .u64 (y.d : Int)] 59) (.cells #[.int .u64 0, .int .u64 0, .int .u64 0, .int .u64 0] 59)
  generalize ((w.alloc (.cells #[.int .u64 (x.a : Int), .int .u64 (x.b : Int), .int .u64 (x.c : Int), .int .u64 (x.d : Int)] 59)).alloc (.cells #[.int .u64 (y.a : Int), .int .u64 (y.b : Int), .int .u64 (y.c : Int), .int .u64 (y.d : Int)] 59)).alloc (.cells #[.int .u64 0, .int .u64 0, .int .u64 0, .int .u64 0] 59) = w1 at *
  have lhX := hX.lt
  have lhY := hY.lt
  have lhR := hR.lt
  have lM := hM.lt
  refine (empty_any g n sq f _ hM (by have := md.big; omega)).mono ?_
  rintro e wz ⟨rfl, rfl⟩
  rename World => w1
  have hx4 := fun (V : World) (h : Below w1.heap.size w1 V) => (hX.below h lhX).four
  have hy4 := fun (V : World) (h : Below w1.heap.size w1 V) => (hY.below h lhY).four
  go_wp2
  apply wp_region_once_tail (m := 9) (Z := []) (D := [[], [], [], [1, 2], [], [], [1, 2, 3, 4, 5], [0, 1, 2, 3, 4, 5, 6], [0, 1, 2, 3, 4, 5, 6, 7], [0, 1, 2, 3, 4, 5, 6, 7, 8]]) (J := [[], [], [], [1, 2], [], [], [4, 5], [0, 3, 6], [7]]) (Je := [8]) (Rs := [Is _, Is _, Is _, Is _, Is _, Is _, Is _, Is _, Is _])
  · kernel_rfl
  · kernel_rfl
  · kernel_rfl
  · kernel_rfl
  · kernel_rfl
  · kernel_rfl
  · kernel_rfl
  · exact fun h => absurd rfl h
  · intro u
    simp only [List.take_succ_cons, List.take_zero, List.map_cons, List.map_nil, fillU, List.setIfInBounds_toArray, List.set_cons_zero, List.set_cons_succ, Nat.zero_add, Nat.reduceAdd]
    exact rfl
  · simp only [List.take_succ_cons, List.take_zero]
    refine ⟨fun u W hb hd K hK => ?_, ?_⟩
    · clear hd
      go_simp
      apply hK
      · simp only [Act.put, List.setIfInBounds_toArray, List.set_cons_zero, List.set_cons_succ]
        exact rfl
      · exact Below.refl _ _
      · exact IsOut
    refine ⟨fun u W hb hd K hK => ?_, ?_⟩
    · clear hd
      go_simp
      apply hK
      · simp only [Act.put, List.setIfInBounds_toArray, List.set_cons_zero, List.set_cons_succ]
        exact rfl
      · exact Below.refl _ _
      · exact IsOut
    refine ⟨fun u W hb hd K hK => ?_, ?_⟩
    · clear hd
      go_simp
      apply hK
      · simp only [Act.put, List.setIfInBounds_toArray, List.set_cons_zero, List.set_cons_succ]
        exact rfl
      · exact Below.refl _ _
      · exact IsOut
    refine ⟨fun u W hb hd K hK => ?_, ?_⟩
    · simp only [Facts, nthR, Is, and_true] at hd
      simp only [hd] at hK ⊢
      clear hd
      go_simp
      refine (rest_any g n sq x f W (hM.below hb lM) md.ok md.sqok hx).mono ?_
      rintro e wy ⟨rfl, hby⟩
      exact hK _ _ _ rfl hby IsOut
    refine ⟨fun u W hb hd K hK => ?_, ?_⟩
    · clear hd
      go_simp
      apply hK
      · simp only [Act.put, List.setIfInBounds_toArray, List.set_cons_zero, List.set_cons_succ]
        exact rfl
      · exact Below.refl _ _
      · exact IsOut
    refine ⟨fun u W hb hd K hK => ?_, ?_⟩
    · clear hd
      go_simp
      apply hK
      · simp only [Act.put, List.setIfInBounds_toArray, List.set_cons_zero, List.set_cons_succ]
        exact rfl
      · exact Below.refl _ _
      · exact IsOut
    refine ⟨fun u W hb hd K hK => ?_, ?_⟩
    · simp only [Facts, nthR, Is, and_true] at hd
      simp only [hd] at hK ⊢
      clear hd
      go_simp
      refine (rest_any g n sq y f W (hM.below hb lM) md.ok md.sqok hy).mono ?_
      rintro e wy ⟨rfl, hby⟩
      exact hK _ _ _ rfl hby IsOut
    refine ⟨fun u W hb hd K hK => ?_, ?_⟩
    · simp only [Facts, nthR, Is, and_true] at hd
      simp only [hd] at hK ⊢
      clear hd
      go_simp
      refine (difference_any g n sq (restP n sq f x) (restP n sq f y) f W (hM.below hb lM) md.ok).mono ?_
      rintro e wy ⟨rfl, hby⟩
      exact hK _ _ _ rfl hby IsOut
    refine ⟨fun u W hb hd K hK => ?_, ?_⟩
    · simp only [Facts, nthR, Is, and_true] at hd
      simp only [hd] at hK ⊢
      clear hd
      go_simp
      refine (num_any (subP n sq f x y) W).mono ?_
      rintro e wy ⟨rfl, hby⟩
      exact hK _ _ _ rfl hby IsOut
    exact trivial
  · skip
    exact trivial
  · exact (.is (.is (.is (.is (.is (.is (.is (.is (.is .nil)))))))))
  · intro u W hb hd
    simp only [List.drop_succ_cons, List.drop_zero]
    simp only [Facts, nthR, Is, and_true] at hd
    simp only [hd]
    refine wpList_store_blk rfl 59 (.tmp 6) (.tmp 18) rfl rfl (w.heap.size + 1 + 1) [.int .u64 ((subP n sq f x y).a : Int), .int .u64 ((subP n sq f x y).b : Int), .int .u64 ((subP n sq f x y).c : Int), .int .u64 ((subP n sq f x y).d : Int)] rfl rfl 59 _ (hR.below hb lhR) info24 (Eq.trans (b := 4) rfl rfl) (by simp [Value.oneCell']) ?_
    intro w2 hR2 hg2
    go_wp2
    refine bodyPost_ret (v := .agg _) (results_cell_row rfl _ _ (w.heap.size + 1 + 1) 59 _ (0, 0) _ rfl hR2.raw Tryd.underlying59 rfl info24) rfl ⟨rfl, below_new (hb0.trans (hb.mono hb0.size)) hg2 (by omega) (by have := hb.size; have := hb0.size; omega)⟩
set_option maxRecDepth 100000 in
set_option maxHeartbeats 400000 in
theorem Mul_any (g : Nat) (n sq x y : P4) (f : Nat) (w : World) (hm : Blk w g 89 (modCells n sq f)) (md : Md n sq f) (hx : x.ok) (hy : y.ok) :
    Calls Tryd.prog 53 #[.pointer (some ⟨g, 0, none⟩), .agg #[.int .u64 (x.a : Int), .int .u64 (x.b : Int), .int .u64 (x.c : Int), .int .u64 (x.d : Int)], .agg #[.int .u64 (y.a : Int), .int .u64 (y.b : Int), .int .u64 (y.c : Int), .int .u64 (y.d : Int)]] w fun e w' => e = .returned (.agg #[.int .u64 ((mulP n sq f x y).a : Int), .int .u64 ((mulP n sq f x y).b : Int), .int .u64 ((mulP n sq f x y).c : Int), .int .u64 ((mulP n sq f x y).d : Int)]) ∧ Below w.heap.size w w' := by
  go_enter Tryd.func53, Tryd.ntmps53
  go_wp2_with fail
  have hX : Blk (((w.alloc (.cells #[.int .u64 (x.a : Int), .int .u64 (x.b : Int), .int .u64 (x.c : Int), .int .u64 (x.d : Int)] 59)).alloc (.cells #[.int .u64 (y.a : Int), .int .u64 (y.b : Int), .int .u64 (y.c : Int), .int .u64 (y.d : Int)] 59)).alloc (.cells #[.int .u64 0, .int .u64 0, .int .u64 0, .int .u64 0] 59)) (w.heap.size) 59 [.int .u64 (x.a : Int), .int .u64 (x.b : Int), .int .u64 (x.c : Int), .int .u64 (x.d : Int)] := ((Blk.new_of w _ _ _ rfl).alloc _).alloc _
  have hY : Blk (((w.alloc (.cells #[.int .u64 (x.a : Int), .int .u64 (x.b : Int), .int .u64 (x.c : Int), .int .u64 (x.d : Int)] 59)).alloc (.cells #[.int .u64 (y.a : Int), .int .u64 (y.b : Int), .int .u64 (y.c : Int), .int .u64 (y.d : Int)] 59)).alloc (.cells #[.int .u64 0, .int .u64 0, .int .u64 0, .int .u64 0] 59)) (w.heap.size + 1) 59 [.int .u64 (y.a : Int), .int .u64 (y.b : Int), .int .u64 (y.c : Int), .int .u64 (y.d : Int)] := (Blk.new2_of w _ _ _ _ rfl).alloc _
  have hR : Blk (((w.alloc (.cells #[.int .u64 (x.a : Int), .int .u64 (x.b : Int), .int .u64 (x.c : Int), .int .u64 (x.d : Int)] 59)).alloc (.cells #[.int .u64 (y.a : Int), .int .u64 (y.b : Int), .int .u64 (y.c : Int), .int .u64 (y.d : Int)] 59)).alloc (.cells #[.int .u64 0, .int .u64 0, .int .u64 0, .int .u64 0] 59)) (w.heap.size + 1 + 1) 59 [.int .u64 0, .int .u64 0, .int .u64 0, .int .u64 0] := Blk.new3_of w _ _ _ _ _ rfl
  have hM := ((hm.alloc (.cells #[.int .u64 (x.a : Int), .int .u64 (x.b : Int), .int .u64 (x.c : Int), .int .u64 (x.d : Int)] 59)).alloc (.cells #[.int .u64 (y.a : Int), .int .u64 (y.b : Int), .int .u64 (y.c : Int), .int .u64 (y.d : Int)] 59)).alloc (.cells #[.int .u64 0, .int .u64 0, .int .u64 0, .int .u64 0] 59)
  have hb0 := fresh_three w (.cells #[.int .u64 (x.a : Int), .int .u64 (x.b : Int), .int .u64 (x.c : Int), .int .u64 (x.d : Int)] 59) (.cells #[.int .u64 (y.a : Int), .int .u64 (y.b : Int), .int .u64 (y.c : Int), .int .u64 (y.d : Int)] 59) (.cells #[.int .u64 0, .int .u64 0, .int .u64 0, .int .u64 0] 59)
  generalize ((w.alloc (.cells #[.int .u64 (x.a : Int), .int .u64 (x.b : Int), .int .u64 (x.c : Int), .int .u64 (x.d : Int)] 59)).alloc (.cells #[.int .u64 (y.a : Int), .int .u64 (y.b : Int), .int .u64 (y.c : Int), .int .u64 (y.d : Int)] 59)).alloc (.cells #[.int .u64 0, .int .u64 0, .int .u64 0, .int .u64 0] 59) = w1 at *
  have lhX := hX.lt
  have lhY := hY.lt
  have lhR := hR.lt
  have lM := hM.lt
  refine (empty_any g n sq f _ hM (by have := md.big; omega)).mono ?_
  rintro e wz ⟨rfl, rfl⟩
  rename World => w1
  have hx4 := fun (V : World) (h : Below w1.heap.size w1 V) => (hX.below h lhX).four
  have hy4 := fun (V : World) (h : Below w1.heap.size w1 V) => (hY.below h lhY).four
  go_wp2
  apply wp_region_once_tail (m := 9) (Z := []) (D := [[], [], [1], [], [], [1, 2, 4], [1, 2, 3, 4, 5], [0, 1, 2, 3, 4, 5, 6], [0, 1, 2, 3, 4, 5, 6, 7], [0, 1, 2, 3, 4, 5, 6, 7, 8]]) (J := [[], [], [1], [], [], [4], [3, 5], [0, 2, 6], [7]]) (Je := [8]) (Rs := [Is _, Is _, Is _, Is _, Is _, Is _, Is _, Is _, Is _])
  · kernel_rfl
  · kernel_rfl
  · kernel_rfl
  · kernel_rfl
  · kernel_rfl
  · kernel_rfl
  · kernel_rfl
  · exact fun h => absurd rfl h
  · intro u
    simp only [List.take_succ_cons, List.take_zero, List.map_cons, List.map_nil, fillU, List.setIfInBounds_toArray, List.set_cons_zero, List.set_cons_succ, Nat.zero_add, Nat.reduceAdd]
    exact rfl
  · simp only [List.take_succ_cons, List.take_zero]
    refine ⟨fun u W hb hd K hK => ?_, ?_⟩
    · clear hd
      go_simp
      apply hK
      · simp only [Act.put, List.setIfInBounds_toArray, List.set_cons_zero, List.set_cons_succ]
        exact rfl
      · exact Below.refl _ _
      · exact IsOut
    refine ⟨fun u W hb hd K hK => ?_, ?_⟩
    · clear hd
      go_simp
      apply hK
      · simp only [Act.put, List.setIfInBounds_toArray, List.set_cons_zero, List.set_cons_succ]
        exact rfl
      · exact Below.refl _ _
      · exact IsOut
    refine ⟨fun u W hb hd K hK => ?_, ?_⟩
    · simp only [Facts, nthR, Is, and_true] at hd
      simp only [hd] at hK ⊢
      clear hd
      go_simp
      refine (parts_any x W).mono ?_
      rintro e wy ⟨rfl, hby⟩
      exact hK _ _ _ rfl hby IsOut
    refine ⟨fun u W hb hd K hK => ?_, ?_⟩
    · clear hd
      go_simp
      apply hK
      · simp only [Act.put, List.setIfInBounds_toArray, List.set_cons_zero, List.set_cons_succ]
        exact rfl
      · exact Below.refl _ _
      · exact IsOut
    refine ⟨fun u W hb hd K hK => ?_, ?_⟩
    · clear hd
      go_simp
      apply hK
      · simp only [Act.put, List.setIfInBounds_toArray, List.set_cons_zero, List.set_cons_succ]
        exact rfl
      · exact Below.refl _ _
      · exact IsOut
    refine ⟨fun u W hb hd K hK => ?_, ?_⟩
    · simp only [Facts, nthR, Is, and_true] at hd
      simp only [hd] at hK ⊢
      clear hd
      go_simp
      refine (parts_any y W).mono ?_
      rintro e wy ⟨rfl, hby⟩
      exact hK _ _ _ rfl hby IsOut
    refine ⟨fun u W hb hd K hK => ?_, ?_⟩
    · simp only [Facts, nthR, Is, and_true] at hd
      simp only [hd] at hK ⊢
      clear hd
      go_simp
      refine (raised_any g n sq y f W (hM.below hb lM) md.ok md.sqok hy).mono ?_
      rintro e wy ⟨rfl, hby⟩
      exact hK _ _ _ rfl hby IsOut
    refine ⟨fun u W hb hd K hK => ?_, ?_⟩
    · simp only [Facts, nthR, Is, and_true] at hd
      simp only [hd] at hK ⊢
      clear hd
      go_simp
      refine (product_any g n sq x (productP n f y sq) f W (hM.below hb lM) md.ok hx (productP_ok md.ok hy md.sqok)).mono ?_
      rintro e wy ⟨rfl, hby⟩
      exact hK _ _ _ rfl hby IsOut
    refine ⟨fun u W hb hd K hK => ?_, ?_⟩
    · simp only [Facts, nthR, Is, and_true] at hd
      simp only [hd] at hK ⊢
      clear hd
      go_simp
      refine (num_any (mulP n sq f x y) W).mono ?_
      rintro e wy ⟨rfl, hby⟩
      exact hK _ _ _ rfl hby IsOut
    exact trivial
  · skip
    exact trivial
  · exact (.is (.is (.is (.is (.is (.is (.is (.is (.is .nil)))))))))
  · intro u W hb hd
    simp only [List.drop_succ_cons, List.drop_zero]
    simp only [Facts, nthR, Is, and_true] at hd
    simp only [hd]
    refine wpList_store_blk rfl 59 (.tmp 6) (.tmp 18) rfl rfl (w.heap.size + 1 + 1) [.int .u64 ((mulP n sq f x y).a : Int), .int .u64 ((mulP n sq f x y).b : Int), .int .u64 ((mulP n sq f x y).c : Int), .int .u64 ((mulP n sq f x y).d : Int)] rfl rfl 59 _ (hR.below hb lhR) info24 (Eq.trans (b := 4) rfl rfl) (by simp [Value.oneCell']) ?_
    intro w2 hR2 hg2
    go_wp2
    refine bodyPost_ret (v := .agg _) (results_cell_row rfl _ _ (w.heap.size + 1 + 1) 59 _ (0, 0) _ rfl hR2.raw Tryd.underlying59 rfl info24) rfl ⟨rfl, below_new (hb0.trans (hb.mono hb0.size)) hg2 (by omega) (by have := hb.size; have := hb0.size; omega)⟩

end Go.Proofs.YtnkikhnllnbhfaaDoor
