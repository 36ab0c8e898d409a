/-
  Mw5.
-/
import Derived.Test.YtnkikhnllnbhfaaDoorMw4
namespace Go.Proofs.YtnkikhnllnbhfaaDoor
open Go.RowKit
theorem choose_any0 (k : Nat) (x : P4) (w : World) (hk : k ≤ 1) (hx : x.ok) :
    Calls Tryd.prog 77 #[.int .u64 (k : Int), .agg #[.int .u64 (x.a : Int), .int .u64 (x.b : Int), .int .u64 (x.c : Int), .int .u64 (x.d : Int)], .agg #[.int .u64 0, .int .u64 0, .int .u64 0, .int .u64 0]] w fun e w' => e = .returned (.agg #[.int .u64 ((chooseP k x zeroP).a : Int), .int .u64 ((chooseP k x zeroP).b : Int), .int .u64 ((chooseP k x zeroP).c : Int), .int .u64 ((chooseP k x zeroP).d : Int)]) ∧ Below w.heap.size w w' := choose_any k x zeroP w hk hx zeroP_ok
def diffP (n x y : P4) : P4 := plusP (minusP x y) (chooseP (minusC x y) n zeroP)
def hlfP (n x : P4) : P4 := halfP (plusP x (chooseP (x.a % 2) n zeroP)) (plusC x (chooseP (x.a % 2) n zeroP))
theorem diffP_ok (n x y : P4) : (diffP n x y).ok := plusP_ok _ _
theorem hlfP_ok (n x : P4) : (hlfP n x).ok := halfP_ok (plusP_ok _ _) _
def lowP (n : P4) (f : Nat) (x : P4) : P4 := productP n f x oneP
def restP (n sq : P4) (f : Nat) (x : P4) : P4 := if lessP x n = true then x else lowP n f (productP n f x sq)
theorem lowP_ok {n : P4} {f : Nat} {x : P4} (hn : n.ok) (hx : x.ok) : (lowP n f x).ok := productP_ok hn hx oneP_ok
theorem restP_ok {n sq : P4} {f : Nat} {x : P4} (hn : n.ok) (hsq : sq.ok) (hx : x.ok) : (restP n sq f x).ok := by
  unfold restP; split
  · exact hx
  · exact lowP_ok hn (productP_ok hn hx hsq)
theorem bits_and1 (x : Nat) (hx : x < 18446744073709551616) : bits .and .u64 (x : Int) 1 = ((x % 2 : Nat) : Int) := by
  rw [show (1 : Int) = ((1 : Nat) : Int) by rfl, u64_and_nat x 1 hx (by decide), Nat.and_one_is_mod]

set_option maxRecDepth 100000 in
set_option maxHeartbeats 400000 in
theorem raised_any (g : Nat) (n sq x : P4) (f : Nat) (w : World) (hm : Blk w g 89 (modCells n sq f)) (hn : n.ok) (hsq : sq.ok) (hx : x.ok) :
    Calls Tryd.prog 68 #[.pointer (some ⟨g, 0, none⟩), .agg #[.int .u64 (x.a : Int), .int .u64 (x.b : Int), .int .u64 (x.c : Int), .int .u64 (x.d : Int)]] w fun e w' => e = .returned (.agg #[.int .u64 ((productP n f x sq).a : Int), .int .u64 ((productP n f x sq).b : Int), .int .u64 ((productP n f x sq).c : Int), .int .u64 ((productP n f x sq).d : Int)]) ∧ Below w.heap.size w w' := by
  go_enter Tryd.func68, Tryd.ntmps68
  go_wp2
  have hX : Blk ((w.alloc (.cells #[.int .u64 (x.a : Int), .int .u64 (x.b : Int), .int .u64 (x.c : Int), .int .u64 (x.d : Int)] 85)).alloc (.cells #[.int .u64 0, .int .u64 0, .int .u64 0, .int .u64 0] 85)) (w.heap.size) 85 [.int .u64 (x.a : Int), .int .u64 (x.b : Int), .int .u64 (x.c : Int), .int .u64 (x.d : Int)] := (Blk.new_of w _ _ _ rfl).alloc _
  have hR : Blk ((w.alloc (.cells #[.int .u64 (x.a : Int), .int .u64 (x.b : Int), .int .u64 (x.c : Int), .int .u64 (x.d : Int)] 85)).alloc (.cells #[.int .u64 0, .int .u64 0, .int .u64 0, .int .u64 0] 85)) (w.heap.size + 1) 85 [.int .u64 0, .int .u64 0, .int .u64 0, .int .u64 0] := Blk.new2_of w _ _ _ _ rfl
  have hM := (hm.alloc (.cells #[.int .u64 (x.a : Int), .int .u64 (x.b : Int), .int .u64 (x.c : Int), .int .u64 (x.d : Int)] 85)).alloc (.cells #[.int .u64 0, .int .u64 0, .int .u64 0, .int .u64 0] 85)
  have hb0 := fresh_two w (.cells #[.int .u64 (x.a : Int), .int .u64 (x.b : Int), .int .u64 (x.c : Int), .int .u64 (x.d : Int)] 85) (.cells #[.int .u64 0, .int .u64 0, .int .u64 0, .int .u64 0] 85)
  generalize (w.alloc (.cells #[.int .u64 (x.a : Int), .int .u64 (x.b : Int), .int .u64 (x.c : Int), .int .u64 (x.d : Int)] 85)).alloc (.cells #[.int .u64 0, .int .u64 0, .int .u64 0, .int .u64 0] 85) = w1 at *
  have lhX := hX.lt
  have lhR := hR.lt
  have lM := hM.lt
  have hx4 := fun (V : World) (h : Below w1.heap.size w1 V) => (hX.below h lhX).four
  have hm9 := fun (V : World) (h : Below w1.heap.size w1 V) => (hM.below h lM).mod
  apply wp_region_once_tail (m := 7) (Z := []) (D := [[], [], [], [2], [2, 3], [2, 3, 4], [0, 1, 2, 3, 4, 5], [0, 1, 2, 3, 4, 5, 6]]) (J := [[], [], [], [2], [3], [4], [0, 1, 5]]) (Je := [6]) (Rs := [Is _, Is _, Is _, Is _, Is _, Is _, Is _])
  · kernel_rfl
  · kernel_rfl
  · kernel_rfl
  · kernel_rfl
  · kernel_rfl
  · kernel_rfl
  · kernel_rfl
  · exact fun h => absurd rfl h
  · intro u
    simp only [List.take_succ_cons, List.take_zero, List.map_cons, List.map_nil, fillU, List.setIfInBounds_toArray, List.set_cons_zero, List.set_cons_succ, Nat.zero_add, Nat.reduceAdd]
    exact rfl
  · simp only [List.take_succ_cons, List.take_zero]
    refine ⟨fun u W hb hd K hK => ?_, ?_⟩
    · clear hd
      go_simp
      apply hK
      · simp only [Act.put, List.setIfInBounds_toArray, List.set_cons_zero, List.set_cons_succ]
        exact rfl
      · exact Below.refl _ _
      · exact IsOut
    refine ⟨fun u W hb hd K hK => ?_, ?_⟩
    · clear hd
      go_simp
      apply hK
      · simp only [Act.put, List.setIfInBounds_toArray, List.set_cons_zero, List.set_cons_succ]
        exact rfl
      · exact Below.refl _ _
      · exact IsOut
    refine ⟨fun u W hb hd K hK => ?_, ?_⟩
    · clear hd
      go_simp
      apply hK
      · simp only [Act.put, List.setIfInBounds_toArray, List.set_cons_zero, List.set_cons_succ]
        exact rfl
      · exact Below.refl _ _
      · exact IsOut
    refine ⟨fun u W hb hd K hK => ?_, ?_⟩
    · simp only [Facts, nthR, Is, and_true] at hd
      simp only [hd] at hK ⊢
      clear hd
      go_simp
      apply hK
      · simp only [Act.put, List.setIfInBounds_toArray, List.set_cons_zero, List.set_cons_succ]
        exact rfl
      · exact Below.refl _ _
      · exact IsOut
    refine ⟨fun u W hb hd K hK => ?_, ?_⟩
    · simp only [Facts, nthR, Is, and_true] at hd
      simp only [hd] at hK ⊢
      clear hd
      go_simp
      apply hK
      · simp only [Act.put, List.setIfInBounds_toArray, List.set_cons_zero, List.set_cons_succ]
        exact rfl
      · exact Below.refl _ _
      · exact IsOut
    refine ⟨fun u W hb hd K hK => ?_, ?_⟩
    · simp only [Facts, nthR, Is, and_true] at hd
      simp only [hd] at hK ⊢
      clear hd
      go_simp
      apply hK
      · simp only [Act.put, List.setIfInBounds_toArray, List.set_cons_zero, List.set_cons_succ]
        exact rfl
      · exact Below.refl _ _
      · exact IsOut
    refine ⟨fun u W hb hd K hK => ?_, ?_⟩
    · simp only [Facts, nthR, Is, and_true] at hd
      simp only [hd] at hK ⊢
      clear hd
      go_simp
      refine (product_any g n sq x sq f W (hM.below hb lM) hn hx hsq).mono ?_
      rintro e wy ⟨rfl, hby⟩
      exact hK _ _ _ rfl hby IsOut
    exact trivial
  · skip
    exact trivial
  · exact (.is (.is (.is (.is (.is (.is (.is .nil)))))))
  · intro u W hb hd
    simp only [List.drop_succ_cons, List.drop_zero]
    simp only [Facts, nthR, Is, and_true] at hd
    simp only [hd]
    refine wpList_store_blk rfl 85 (.tmp 4) (.tmp 11) rfl rfl (w.heap.size + 1) [.int .u64 ((productP n f x sq).a : Int), .int .u64 ((productP n f x sq).b : Int), .int .u64 ((productP n f x sq).c : Int), .int .u64 ((productP n f x sq).d : Int)] rfl rfl 85 _ (hR.below hb lhR) info50 (Eq.trans (b := 4) rfl rfl) (by simp [Value.oneCell']) ?_
    intro w2 hR2 hg2
    go_wp2
    refine bodyPost_ret (v := .agg _) (results_cell_row rfl _ _ (w.heap.size + 1) 85 _ (0, 0) _ rfl hR2.raw Tryd.underlying85 rfl info50) rfl ⟨rfl, below_new (hb0.trans (hb.mono hb0.size)) hg2 (by omega) (by have := hb.size; have := hb0.size; omega)⟩
theorem product_one (g : Nat) (n sq x : P4) (f : Nat) (w : World) (hm : Blk w g 89 (modCells n sq f)) (hn : n.ok) (hx : x.ok) :
    Calls Tryd.prog 67 #[.pointer (some ⟨g, 0, none⟩), .agg #[.int .u64 (x.a : Int), .int .u64 (x.b : Int), .int .u64 (x.c : Int), .int .u64 (x.d : Int)], .agg #[.int .u64 1, .int .u64 0, .int .u64 0, .int .u64 0]] w fun e w' => e = .returned (.agg #[.int .u64 ((lowP n f x).a : Int), .int .u64 ((lowP n f x).b : Int), .int .u64 ((lowP n f x).c : Int), .int .u64 ((lowP n f x).d : Int)]) ∧ Below w.heap.size w w' := product_any g n sq x oneP f w hm hn hx oneP_ok
set_option maxRecDepth 100000 in
set_option maxHeartbeats 400000 in
theorem lowered_any (g : Nat) (n sq x : P4) (f : Nat) (w : World) (hm : Blk w g 89 (modCells n sq f)) (hn : n.ok) (hx : x.ok) :
    Calls Tryd.prog 74 #[.pointer (some ⟨g, 0, none⟩), .agg #[.int .u64 (x.a : Int), .int .u64 (x.b : Int), .int .u64 (x.c : Int), .int .u64 (x.d : Int)]] w fun e w' => e = .returned (.agg #[.int .u64 ((lowP n f x).a : Int), .int .u64 ((lowP n f x).b : Int), .int .u64 ((lowP n f x).c : Int), .int .u64 ((lowP n f x).d : Int)]) ∧ Below w.heap.size w w' := by
  go_enter Tryd.func74, Tryd.ntmps74
  go_wp2_with (first
    | (go_at_call 67; refine (product_one g n sq x f _ ((hm.alloc _).alloc _) hn hx).mono ?_; rintro e w3 ⟨rfl, hb3⟩; have hR3 := (Blk.new2_of w (.cells #[.int .u64 (x.a : Int), .int .u64 (x.b : Int), .int .u64 (x.c : Int), .int .u64 (x.d : Int)] 85) 85 #[.int .u64 0, .int .u64 0, .int .u64 0, .int .u64 0] [.int .u64 0, .int .u64 0, .int .u64 0, .int .u64 0] rfl).below hb3 (by simp); have hb4 := (fresh_two w (.cells #[.int .u64 (x.a : Int), .int .u64 (x.b : Int), .int .u64 (x.c : Int), .int .u64 (x.d : Int)] 85) (.cells #[.int .u64 0, .int .u64 0, .int .u64 0, .int .u64 0] 85)).trans (hb3.mono (fresh_two w _ _).size); clear hb3)
    | ((with_reducible refine (?_ : wpList _ _ _ (Oper.mk none (.store 85 (.tmp 4) _) _ _ _ _ :: _) _ _)); go_loud (refine wpList_store_blk rfl 85 (.tmp 4) (.tmp 8) rfl rfl (w.heap.size + 1) [.int .u64 ((lowP n f x).a : Int), .int .u64 ((lowP n f x).b : Int), .int .u64 ((lowP n f x).c : Int), .int .u64 ((lowP n f x).d : Int)] rfl rfl 85 _ hR3 info50 (Eq.trans (b := 4) rfl rfl) (by simp [Value.oneCell']) ?_); intro w4 hR4 hg4))
  refine bodyPost_ret (v := .agg _) (results_cell_row rfl _ _ (w.heap.size + 1) 85 _ (0, 0) _ rfl hR4.raw Tryd.underlying85 rfl info50) rfl ⟨rfl, below_new hb4 hg4 (by omega) hb4.size⟩
set_option maxRecDepth 100000 in
set_option maxHeartbeats 400000 in
theorem difference_any (g : Nat) (n sq x y : P4) (f : Nat) (w : World) (hm : Blk w g 89 (modCells n sq f)) (hn : n.ok) :
    Calls Tryd.prog 69 #[.pointer (some ⟨g, 0, none⟩), .agg #[.int .u64 (x.a : Int), .int .u64 (x.b : Int), .int .u64 (x.c : Int), .int .u64 (x.d : Int)], .agg #[.int .u64 (y.a : Int), .int .u64 (y.b : Int), .int .u64 (y.c : Int), .int .u64 (y.d : Int)]] w fun e w' => e = .returned (.agg #[.int .u64 ((diffP n x y).a : Int), .int .u64 ((diffP n x y).b : Int), .int .u64 ((diffP n x y).c : Int), .int .u64 ((diffP n x y).d : Int)]) ∧ Below w.heap.size w w' := by
  go_enter Tryd.func69, Tryd.ntmps69
  go_wp2_with fail
  have hR : Blk (((w.alloc (.cells #[.int .u64 (x.a : Int), .int .u64 (x.b : Int), .int .u64 (x.c : Int), .int .u64 (x.d : Int)] 85)).alloc (.cells #[.int .u64 (y.a : Int), .int .u64 (y.b : Int), .int .u64 (y.c : Int), .int .u64 (y.d : Int)] 85)).alloc (.cells #[.int .u64 0, .int .u64 0, .int .u64 0, .int .u64 0] 85)) (w.heap.size + 1 + 1) 85 [.int .u64 0, .int .u64 0, .int .u64 0, .int .u64 0] := Blk.new3_of w _ _ _ _ _ rfl
  have hM := ((hm.alloc (.cells #[.int .u64 (x.a : Int), .int .u64 (x.b : Int), .int .u64 (x.c : Int), .int .u64 (x.d : Int)] 85)).alloc (.cells #[.int .u64 (y.a : Int), .int .u64 (y.b : Int), .int .u64 (y.c : Int), .int .u64 (y.d : Int)] 85)).alloc (.cells #[.int .u64 0, .int .u64 0, .int .u64 0, .int .u64 0] 85)
  have hb0 := fresh_three w (.cells #[.int .u64 (x.a : Int), .int .u64 (x.b : Int), .int .u64 (x.c : Int), .int .u64 (x.d : Int)] 85) (.cells #[.int .u64 (y.a : Int), .int .u64 (y.b : Int), .int .u64 (y.c : Int), .int .u64 (y.d : Int)] 85) (.cells #[.int .u64 0, .int .u64 0, .int .u64 0, .int .u64 0] 85)
  generalize ((w.alloc (.cells #[.int .u64 (x.a : Int), .int .u64 (x.b : Int), .int .u64 (x.c : Int), .int .u64 (x.d : Int)] 85)).alloc (.cells #[.int .u64 (y.a : Int), .int .u64 (y.b : Int), .int .u64 (y.c : Int), .int .u64 (y.d : Int)] 85)).alloc (.cells #[.int .u64 0, .int .u64 0, .int .u64 0, .int .u64 0] 85) = w1 at *
  have lhR := hR.lt
  have lM := hM.lt
  refine (minus_any x y _).mono ?_
  rintro e w2 ⟨rfl, hb1⟩
  replace hR := hR.below hb1 lhR
  replace hM := hM.below hb1 lM
  replace hb0 := hb0.trans (hb1.mono hb0.size)
  clear hb1 lhR lM
  go_wp2
  have hD : Blk (w2.alloc (.cells #[.int .u64 ((minusP x y).a : Int), .int .u64 ((minusP x y).b : Int), .int .u64 ((minusP x y).c : Int), .int .u64 ((minusP x y).d : Int)] 85)) w2.heap.size 85 [.int .u64 ((minusP x y).a : Int), .int .u64 ((minusP x y).b : Int), .int .u64 ((minusP x y).c : Int), .int .u64 ((minusP x y).d : Int)] := Blk.new_of w2 _ _ _ rfl
  have lR := hR.lt
  have lM := hM.lt
  replace hR := hR.alloc (.cells #[.int .u64 ((minusP x y).a : Int), .int .u64 ((minusP x y).b : Int), .int .u64 ((minusP x y).c : Int), .int .u64 ((minusP x y).d : Int)] 85)
  replace hM := hM.alloc (.cells #[.int .u64 ((minusP x y).a : Int), .int .u64 ((minusP x y).b : Int), .int .u64 ((minusP x y).c : Int), .int .u64 ((minusP x y).d : Int)] 85)
  replace hb0 := hb0.alloc hb0.size (.cells #[.int .u64 ((minusP x y).a : Int), .int .u64 ((minusP x y).b : Int), .int .u64 ((minusP x y).c : Int), .int .u64 ((minusP x y).d : Int)] 85)
  have hG : w.heap.size + 1 + 1 < w2.heap.size := lR
  have lD := hD.lt
  generalize w2.alloc (.cells #[.int .u64 ((minusP x y).a : Int), .int .u64 ((minusP x y).b : Int), .int .u64 ((minusP x y).c : Int), .int .u64 ((minusP x y).d : Int)] 85) = w1 at *
  generalize w2.heap.size = G at *
  clear w2
  have lR := hR.lt
  have lM := hM.lt
  have hd4 := fun (V : World) (h : Below w1.heap.size w1 V) => (hD.below h lD).four
  have hm9 := fun (V : World) (h : Below w1.heap.size w1 V) => (hM.below h lM).mod
  refine wp_region_noPanic ?_
  apply wp_region_once_tail (m := 12) (Z := [11]) (D := [[], [], [], [2], [2, 3], [2, 3, 4], [], [1, 2, 3, 4, 5, 6], [0, 1, 2, 3, 4, 5, 6, 7], [0, 1, 2, 3, 4, 5, 6, 7, 8], [0, 1, 2, 3, 4, 5, 6, 7, 8, 9], [0, 1, 2, 3, 4, 5, 6, 7, 8, 9], [0, 1, 2, 3, 4, 5, 6, 7, 8, 9, 10]]) (J := [[], [], [], [2], [3], [4], [], [1, 5, 6], [0, 7], [8], [9], [9]]) (Je := [10]) (Rs := [Is _, Is _, Is _, Is _, Is _, Is _, Is _, Is _, Is _, Is _, Is _, Is _])
  · kernel_rfl
  · kernel_rfl
  · kernel_rfl
  · kernel_rfl
  · kernel_rfl
  · kernel_rfl
  · kernel_rfl
  · exact fun _ _ _ _ _ _ h => h
  · intro u
    simp only [List.take_succ_cons, List.take_zero, List.map_cons, List.map_nil, fillU, List.setIfInBounds_toArray, List.set_cons_zero, List.set_cons_succ, Nat.zero_add, Nat.reduceAdd]
    exact rfl
  · simp only [List.take_succ_cons, List.take_zero]
    refine ⟨fun u W hb hd K hK => ?_, ?_⟩
    · clear hd
      go_simp
      apply hK
      · simp only [Act.put, List.setIfInBounds_toArray, List.set_cons_zero, List.set_cons_succ]
        exact rfl
      · exact Below.refl _ _
      · exact IsOut
    refine ⟨fun u W hb hd K hK => ?_, ?_⟩
    · clear hd
      go_simp
      apply hK
      · simp only [Act.put, List.setIfInBounds_toArray, List.set_cons_zero, List.set_cons_succ]
        exact rfl
      · exact Below.refl _ _
      · exact IsOut
    refine ⟨fun u W hb hd K hK => ?_, ?_⟩
    · clear hd
      go_simp
      apply hK
      · simp only [Act.put, List.setIfInBounds_toArray, List.set_cons_zero, List.set_cons_succ]
        exact rfl
      · exact Below.refl _ _
      · exact IsOut
    refine ⟨fun u W hb hd K hK => ?_, ?_⟩
    · simp only [Facts, nthR, Is, and_true] at hd
      simp only [hd] at hK ⊢
      clear hd
      go_simp
      apply hK
      · simp only [Act.put, List.setIfInBounds_toArray, List.set_cons_zero, List.set_cons_succ]
        exact rfl
      · exact Below.refl _ _
      · exact IsOut
    refine ⟨fun u W hb hd K hK => ?_, ?_⟩
    · simp only [Facts, nthR, Is, and_true] at hd
      simp only [hd] at hK ⊢
      clear hd
      go_simp
      apply hK
      · simp only [Act.put, List.setIfInBounds_toArray, List.set_cons_zero, List.set_cons_succ]
        exact rfl
      · exact Below.refl _ _
      · exact IsOut
    refine ⟨fun u W hb hd K hK => ?_, ?_⟩
    · simp only [Facts, nthR, Is, and_true] at hd
      simp only [hd] at hK ⊢
      clear hd
      go_simp
      apply hK
      · simp only [Act.put, List.setIfInBounds_toArray, List.set_cons_zero, List.set_cons_succ]
        exact rfl
      · exact Below.refl _ _
      · exact IsOut
    refine ⟨fun u W hb hd K hK => ?_, ?_⟩
    · clear hd
      go_simp
      apply hK
      · simp only [Act.put, List.setIfInBounds_toArray, List.set_cons_zero, List.set_cons_succ]
        exact rfl
      · exact Below.refl _ _
      · exact IsOut
    refine ⟨fun u W hb hd K hK => ?_, ?_⟩
    · simp only [Facts, nthR, Is, and_true] at hd
      simp only [hd] at hK ⊢
      clear hd
      go_simp
      refine (choose_any0 (minusC x y) n W (minusC_le x y) hn).mono ?_
      rintro e wy ⟨rfl, hby⟩
      exact hK _ _ _ rfl hby IsOut
    refine ⟨fun u W hb hd K hK => ?_, ?_⟩
    · simp only [Facts, nthR, Is, and_true] at hd
      simp only [hd] at hK ⊢
      clear hd
      go_simp
      refine (plus_any (minusP x y) (chooseP (minusC x y) n zeroP) W (minusP_ok x y) (chooseP_ok hn zeroP_ok)).mono ?_
      rintro e wy ⟨rfl, hby⟩
      exact hK _ _ _ rfl hby IsOut
    refine ⟨fun u W hb hd K hK => ?_, ?_⟩
    · simp only [Facts, nthR, Is, and_true] at hd
      simp only [hd] at hK ⊢
      clear hd
      go_simp
      apply hK
      · simp only [Act.put, List.setIfInBounds_toArray, List.set_cons_zero, List.set_cons_succ]
        exact rfl
      · exact Below.refl _ _
      · exact IsOut
    refine ⟨fun u W hb hd K hK => ?_, ?_⟩
    · simp only [Facts, nthR, Is, and_true] at hd
      simp only [hd] at hK ⊢
      clear hd
      go_simp
      apply hK
      · simp only [Act.put, List.setIfInBounds_toArray, List.set_cons_zero, List.set_cons_succ]
        exact rfl
      · exact Below.refl _ _
      · exact IsOut
    refine ⟨fun u W hb hd K hK => ?_, ?_⟩
    · simp only [Facts, nthR, Is, and_true] at hd
      simp only [hd] at hK ⊢
      clear hd
      go_simp
      apply hK
      · simp only [Act.put, List.setIfInBounds_toArray, List.set_cons_zero, List.set_cons_succ]
        exact rfl
      · exact Below.refl _ _
      · exact IsOut
    exact trivial
  · skip
    refine ⟨fun o ho u W hb hd => ?_, ?_⟩
    · obtain rfl := Option.some.inj ho
      simp only [Facts, nthR, Is, and_true, List.getD_cons_succ, List.getD_cons_zero] at hd
      simp only [hd]
      clear hd
      exact ⟨_, .inl ⟨by rfl, fun w' => by go_simp⟩, IsOut (w := W)⟩
    exact trivial
  · exact (.is (.is (.is (.is (.is (.is (.is (.is (.is (.is (.is (.is .nil))))))))))))
  · intro u W hb hd
    simp only [List.drop_succ_cons, List.drop_zero]
    simp only [Facts, nthR, Is, and_true] at hd
    simp only [hd]
    clear hd
    refine wpList_store_blk rfl 85 (.tmp 7) (.tmp 25) rfl rfl (G) [.int .u64 ((diffP n x y).a : Int), .int .u64 ((diffP n x y).b : Int), .int .u64 ((diffP n x y).c : Int), .int .u64 ((diffP n x y).d : Int)] rfl rfl 85 _ (hD.below hb lD) info50 (Eq.trans (b := 4) rfl rfl) (by simp [Value.oneCell']) ?_
    intro w2 hD2 hg2
    have hR2 := (hR.below hb lR).grown hg2 (by simp; omega)
    have hb2 := below_new (hb0.trans (hb.mono hb0.size)) hg2 (by omega) (by have := hb.size; have := hb0.size; omega)
    obtain ⟨d0, d1, d2, d3⟩ := hD2.four
    clear hm9 hd4 hD hR hM hb hg2
    go_wp2
    refine NoPanic.normal ?_
    go_wp2_with ((with_reducible refine (?_ : wpList _ _ _ (Oper.mk none (.store 85 (.tmp 6) _) _ _ _ _ :: _) _ _)); go_loud (refine wpList_store_blk rfl 85 (.tmp 6) (.tmp 27) rfl rfl (w.heap.size + 1 + 1) [.int .u64 ((diffP n x y).a : Int), .int .u64 ((diffP n x y).b : Int), .int .u64 ((diffP n x y).c : Int), .int .u64 ((diffP n x y).d : Int)] rfl rfl 85 _ hR2 info50 (Eq.trans (b := 4) rfl rfl) (by simp [Value.oneCell']) ?_); intro w4 hR4 hg4)
    refine bodyPost_ret (v := .agg _) (results_cell_row rfl _ _ (w.heap.size + 1 + 1) 85 _ (0, 0) _ rfl hR4.raw Tryd.underlying85 rfl info50) rfl ⟨rfl, below_new hb2 hg4 (by omega) hb2.size⟩
set_option maxRecDepth 100000 in
set_option maxHeartbeats 400000 in
theorem mhalf_any (g : Nat) (n sq x : P4) (f : Nat) (w : World) (hm : Blk w g 89 (modCells n sq f)) (hn : n.ok) (hx : x.ok) :
    Calls Tryd.prog 79 #[.pointer (some ⟨g, 0, none⟩), .agg #[.int .u64 (x.a : Int), .int .u64 (x.b : Int), .int .u64 (x.c : Int), .int .u64 (x.d : Int)]] w fun e w' => e = .returned (.agg #[.int .u64 ((hlfP n x).a : Int), .int .u64 ((hlfP n x).b : Int), .int .u64 ((hlfP n x).c : Int), .int .u64 ((hlfP n x).d : Int)]) ∧ Below w.heap.size w w' := by
  have hcc := plusC_le hx (chooseP_ok (k := x.a % 2) hn zeroP_ok)
  go_enter Tryd.func79, Tryd.ntmps79
  go_wp2
  have hX : Blk ((w.alloc (.cells #[.int .u64 (x.a : Int), .int .u64 (x.b : Int), .int .u64 (x.c : Int), .int .u64 (x.d : Int)] 85)).alloc (.cells #[.int .u64 0, .int .u64 0, .int .u64 0, .int .u64 0] 85)) (w.heap.size) 85 [.int .u64 (x.a : Int), .int .u64 (x.b : Int), .int .u64 (x.c : Int), .int .u64 (x.d : Int)] := (Blk.new_of w _ _ _ rfl).alloc _
  have hR : Blk ((w.alloc (.cells #[.int .u64 (x.a : Int), .int .u64 (x.b : Int), .int .u64 (x.c : Int), .int .u64 (x.d : Int)] 85)).alloc (.cells #[.int .u64 0, .int .u64 0, .int .u64 0, .int .u64 0] 85)) (w.heap.size + 1) 85 [.int .u64 0, .int .u64 0, .int .u64 0, .int .u64 0] := Blk.new2_of w _ _ _ _ rfl
  have hM := (hm.alloc (.cells #[.int .u64 (x.a : Int), .int .u64 (x.b : Int), .int .u64 (x.c : Int), .int .u64 (x.d : Int)] 85)).alloc (.cells #[.int .u64 0, .int .u64 0, .int .u64 0, .int .u64 0] 85)
  have hb0 := fresh_two w (.cells #[.int .u64 (x.a : Int), .int .u64 (x.b : Int), .int .u64 (x.c : Int), .int .u64 (x.d : Int)] 85) (.cells #[.int .u64 0, .int .u64 0, .int .u64 0, .int .u64 0] 85)
  generalize (w.alloc (.cells #[.int .u64 (x.a : Int), .int .u64 (x.b : Int), .int .u64 (x.c : Int), .int .u64 (x.d : Int)] 85)).alloc (.cells #[.int .u64 0, .int .u64 0, .int .u64 0, .int .u64 0] 85) = w1 at *
  have lhX := hX.lt
  have lhR := hR.lt
  have lM := hM.lt
  have hx4 := fun (V : World) (h : Below w1.heap.size w1 V) => (hX.below h lhX).four
  have hm9 := fun (V : World) (h : Below w1.heap.size w1 V) => (hM.below h lM).mod
  refine wp_region_noPanic ?_
  apply wp_region_once_tail (m := 15) (Z := [13]) (D := [[], [], [1], [1, 2], [], [4], [4, 5], [4, 5, 6], [], [1, 2, 3, 4, 5, 6, 7, 8], [0, 1, 2, 3, 4, 5, 6, 7, 8, 9], [0, 1, 2, 3, 4, 5, 6, 7, 8, 9, 10], [0, 1, 2, 3, 4, 5, 6, 7, 8, 9, 10, 11], [0, 1, 2, 3, 4, 5, 6, 7, 8, 9, 10, 11], [], [0, 1, 2, 3, 4, 5, 6, 7, 8, 9, 10, 11, 12, 14], [0, 1, 2, 3, 4, 5, 6, 7, 8, 9, 10, 11, 12, 13, 14, 15]]) (J := [[], [], [1], [2], [], [4], [5], [6], [], [3, 7, 8], [0, 9], [10], [11], [11], []]) (Je := [12, 13, 14]) (Rs := [Is _, Is _, Is _, Is _, Is _, Is _, Is _, Is _, Is _, Is _, Is _, Is _, Is _, Is _, fun v V => ∃ g', v = .pointer (some ⟨g', 0, none⟩) ∧ w1.heap.size ≤ g' ∧ Blk V g' 85 [.int .u64 0, .int .u64 0, .int .u64 0, .int .u64 0]])
  · kernel_rfl
  · kernel_rfl
  · kernel_rfl
  · kernel_rfl
  · kernel_rfl
  · kernel_rfl
  · kernel_rfl
  · exact fun _ _ _ _ _ _ h => h
  · intro u
    simp only [List.take_succ_cons, List.take_zero, List.map_cons, List.map_nil, fillU, List.setIfInBounds_toArray, List.set_cons_zero, List.set_cons_succ, Nat.zero_add, Nat.reduceAdd]
    exact rfl
  · simp only [List.take_succ_cons, List.take_zero]
    refine ⟨fun u W hb hd K hK => ?_, ?_⟩
    · clear hd
      go_simp
      apply hK
      · simp only [Act.put, List.setIfInBounds_toArray, List.set_cons_zero, List.set_cons_succ]
        exact rfl
      · exact Below.refl _ _
      · exact IsOut
    refine ⟨fun u W hb hd K hK => ?_, ?_⟩
    · clear hd
      go_simp
      apply hK
      · simp only [Act.put, List.setIfInBounds_toArray, List.set_cons_zero, List.set_cons_succ]
        exact rfl
      · exact Below.refl _ _
      · exact IsOut
    refine ⟨fun u W hb hd K hK => ?_, ?_⟩
    · simp only [Facts, nthR, Is, and_true] at hd
      simp only [hd] at hK ⊢
      clear hd
      go_simp
      apply hK
      · simp only [Act.put, List.setIfInBounds_toArray, List.set_cons_zero, List.set_cons_succ]
        exact rfl
      · exact Below.refl _ _
      · exact IsOut
    refine ⟨fun u W hb hd K hK => ?_, ?_⟩
    · simp only [Facts, nthR, Is, and_true] at hd
      simp only [hd] at hK ⊢
      clear hd
      go_simp
      rw [bits_and1 x.a hx.a]
      apply hK
      · simp only [Act.put, List.setIfInBounds_toArray, List.set_cons_zero, List.set_cons_succ]
        exact rfl
      · exact Below.refl _ _
      · exact IsOut
    refine ⟨fun u W hb hd K hK => ?_, ?_⟩
    · clear hd
      go_simp
      apply hK
      · simp only [Act.put, List.setIfInBounds_toArray, List.set_cons_zero, List.set_cons_succ]
        exact rfl
      · exact Below.refl _ _
      · exact IsOut
    refine ⟨fun u W hb hd K hK => ?_, ?_⟩
    · simp only [Facts, nthR, Is, and_true] at hd
      simp only [hd] at hK ⊢
      clear hd
      go_simp
      apply hK
      · simp only [Act.put, List.setIfInBounds_toArray, List.set_cons_zero, List.set_cons_succ]
        exact rfl
      · exact Below.refl _ _
      · exact IsOut
    refine ⟨fun u W hb hd K hK => ?_, ?_⟩
    · simp only [Facts, nthR, Is, and_true] at hd
      simp only [hd] at hK ⊢
      clear hd
      go_simp
      apply hK
      · simp only [Act.put, List.setIfInBounds_toArray, List.set_cons_zero, List.set_cons_succ]
        exact rfl
      · exact Below.refl _ _
      · exact IsOut
    refine ⟨fun u W hb hd K hK => ?_, ?_⟩
    · simp only [Facts, nthR, Is, and_true] at hd
      simp only [hd] at hK ⊢
      clear hd
      go_simp
      apply hK
      · simp only [Act.put, List.setIfInBounds_toArray, List.set_cons_zero, List.set_cons_succ]
        exact rfl
      · exact Below.refl _ _
      · exact IsOut
    refine ⟨fun u W hb hd K hK => ?_, ?_⟩
    · clear hd
      go_simp
      apply hK
      · simp only [Act.put, List.setIfInBounds_toArray, List.set_cons_zero, List.set_cons_succ]
        exact rfl
      · exact Below.refl _ _
      · exact IsOut
    refine ⟨fun u W hb hd K hK => ?_, ?_⟩
    · simp only [Facts, nthR, Is, and_true] at hd
      simp only [hd] at hK ⊢
      clear hd
      go_simp
      refine (choose_any0 (x.a % 2) n W (by omega) hn).mono ?_
      rintro e wy ⟨rfl, hby⟩
      exact hK _ _ _ rfl hby IsOut
    refine ⟨fun u W hb hd K hK => ?_, ?_⟩
    · simp only [Facts, nthR, Is, and_true] at hd
      simp only [hd] at hK ⊢
      clear hd
      go_simp
      refine (plus_any x (chooseP (x.a % 2) n zeroP) W hx (chooseP_ok hn zeroP_ok)).mono ?_
      rintro e wy ⟨rfl, hby⟩
      exact hK _ _ _ rfl hby IsOut
    refine ⟨fun u W hb hd K hK => ?_, ?_⟩
    · simp only [Facts, nthR, Is, and_true] at hd
      simp only [hd] at hK ⊢
      clear hd
      go_simp
      apply hK
      · simp only [Act.put, List.setIfInBounds_toArray, List.set_cons_zero, List.set_cons_succ]
        exact rfl
      · exact Below.refl _ _
      · exact IsOut
    refine ⟨fun u W hb hd K hK => ?_, ?_⟩
    · simp only [Facts, nthR, Is, and_true] at hd
      simp only [hd] at hK ⊢
      clear hd
      go_simp
      apply hK
      · simp only [Act.put, List.setIfInBounds_toArray, List.set_cons_zero, List.set_cons_succ]
        exact rfl
      · exact Below.refl _ _
      · exact IsOut
    refine ⟨fun u W hb hd K hK => ?_, ?_⟩
    · simp only [Facts, nthR, Is, and_true] at hd
      simp only [hd] at hK ⊢
      clear hd
      go_simp
      apply hK
      · simp only [Act.put, List.setIfInBounds_toArray, List.set_cons_zero, List.set_cons_succ]
        exact rfl
      · exact Below.refl _ _
      · exact IsOut
    refine ⟨fun u W hb hd K hK => ?_, ?_⟩
    · clear hd
      go_simp
      apply hK
      · simp only [Act.put, List.setIfInBounds_toArray, List.set_cons_zero, List.set_cons_succ]
        exact rfl
      · exact (Below.refl _ _).alloc (Nat.le_refl _) _
      · exact ⟨_, rfl, hb.size, Blk.new_of _ _ _ _ rfl⟩
    exact trivial
  · skip
    refine ⟨fun o ho u W hb hd => ?_, ?_⟩
    · obtain rfl := Option.some.inj ho
      simp only [Facts, nthR, Is, and_true, List.getD_cons_succ, List.getD_cons_zero] at hd
      simp only [hd]
      clear hd
      exact ⟨_, .inl ⟨by rfl, fun w' => by go_simp⟩, IsOut (w := W)⟩
    exact trivial
  · exact (.is (.is (.is (.is (.is (.is (.is (.is (.is (.is (.is (.is (.is (.is (.cons (fun v V V' ⟨g', h1, h2, h3⟩ hb => ⟨g', h1, h2, h3.below hb h3.lt⟩) .nil)))))))))))))))
  · intro u W hb hd
    simp only [List.drop_succ_cons, List.drop_zero]
    simp only [Facts, nthR, Is, and_true] at hd
    obtain ⟨h12, h13, g', h14, hg', hG⟩ := hd
    simp only [h12, h13, h14]
    clear h12 h13 h14
    refine wpList_store_blk rfl 85 (.tmp 5) (.tmp 19) rfl rfl (g') [.int .u64 ((plusP x (chooseP (x.a % 2) n zeroP)).a : Int), .int .u64 ((plusP x (chooseP (x.a % 2) n zeroP)).b : Int), .int .u64 ((plusP x (chooseP (x.a % 2) n zeroP)).c : Int), .int .u64 ((plusP x (chooseP (x.a % 2) n zeroP)).d : Int)] rfl rfl 85 _ hG info50 (Eq.trans (b := 4) rfl rfl) (by simp [Value.oneCell']) ?_
    intro w2 hG2 hg2
    have hb2 := below_new hb hg2 hg' hb.size
    have hR2 := hR.below hb2 lhR
    obtain ⟨d0, d1, d2, d3⟩ := hG2.four
    have hbw := hb0.trans (hb2.mono hb0.size)
    clear hm9 hx4 hX hR hM hb hg2 hb2 hb0 hG
    go_wp2
    refine NoPanic.normal ?_
    go_wp2_with (first
      | (go_at_call 78; refine (half_any (plusP x (chooseP (x.a % 2) n zeroP)) (plusC x (chooseP (x.a % 2) n zeroP)) _ (plusP_ok _ _) hcc).mono ?_; rintro e w3 ⟨rfl, hb3⟩; have hR3 := hR2.below hb3 hR2.lt; have hbw3 := hbw.trans (hb3.mono hbw.size); clear hb3 d0 d1 d2 d3)
      | ((with_reducible refine (?_ : wpList _ _ _ (Oper.mk none (.store 85 (.tmp 4) _) _ _ _ _ :: _) _ _)); go_loud (refine wpList_store_blk rfl 85 (.tmp 4) (.tmp 23) rfl rfl (w.heap.size + 1) [.int .u64 ((hlfP n x).a : Int), .int .u64 ((hlfP n x).b : Int), .int .u64 ((hlfP n x).c : Int), .int .u64 ((hlfP n x).d : Int)] rfl rfl 85 _ hR3 info50 (Eq.trans (b := 4) rfl rfl) (by simp [Value.oneCell']) ?_); intro w4 hR4 hg4))
    refine bodyPost_ret (v := .agg _) (results_cell_row rfl _ _ (w.heap.size + 1) 85 _ (0, 0) _ rfl hR4.raw Tryd.underlying85 rfl info50) rfl ⟨rfl, below_new hbw3 hg4 (by omega) hbw3.size⟩
set_option maxRecDepth 100000 in
set_option maxHeartbeats 400000 in
theorem rest_any (g : Nat) (n sq x : P4) (f : Nat) (w : World) (hm : Blk w g 89 (modCells n sq f)) (hn : n.ok) (hsq : sq.ok) (hx : x.ok) :
    Calls Tryd.prog 65 #[.pointer (some ⟨g, 0, none⟩), .agg #[.int .u64 (x.a : Int), .int .u64 (x.b : Int), .int .u64 (x.c : Int), .int .u64 (x.d : Int)]] w fun e w' => e = .returned (.agg #[.int .u64 ((restP n sq f x).a : Int), .int .u64 ((restP n sq f x).b : Int), .int .u64 ((restP n sq f x).c : Int), .int .u64 ((restP n sq f x).d : Int)]) ∧ Below w.heap.size w w' := by
  go_enter Tryd.func65, Tryd.ntmps65
  have hn4 := fun (Y : Obj) => ((Blk.new_of w 59 #[.int .u64 (x.a : Int), .int .u64 (x.b : Int), .int .u64 (x.c : Int), .int .u64 (x.d : Int)] [.int .u64 (x.a : Int), .int .u64 (x.b : Int), .int .u64 (x.c : Int), .int .u64 (x.d : Int)] rfl).alloc Y).four
  go_wp2_with fail
  have hR : Blk ((w.alloc (.cells #[.int .u64 (x.a : Int), .int .u64 (x.b : Int), .int .u64 (x.c : Int), .int .u64 (x.d : Int)] 59)).alloc (.cells #[.int .u64 0, .int .u64 0, .int .u64 0, .int .u64 0] 85)) (w.heap.size + 1) 85 [.int .u64 0, .int .u64 0, .int .u64 0, .int .u64 0] := Blk.new2_of w _ _ _ _ rfl
  have hM := (hm.alloc (.cells #[.int .u64 (x.a : Int), .int .u64 (x.b : Int), .int .u64 (x.c : Int), .int .u64 (x.d : Int)] 59)).alloc (.cells #[.int .u64 0, .int .u64 0, .int .u64 0, .int .u64 0] 85)
  have hb0 := fresh_two w (.cells #[.int .u64 (x.a : Int), .int .u64 (x.b : Int), .int .u64 (x.c : Int), .int .u64 (x.d : Int)] 59) (.cells #[.int .u64 0, .int .u64 0, .int .u64 0, .int .u64 0] 85)
  clear hn4
  generalize (w.alloc (.cells #[.int .u64 (x.a : Int), .int .u64 (x.b : Int), .int .u64 (x.c : Int), .int .u64 (x.d : Int)] 59)).alloc (.cells #[.int .u64 0, .int .u64 0, .int .u64 0, .int .u64 0] 85) = w1 at *
  refine (parts_any x _).mono ?_
  rintro e w2 ⟨rfl, hb1⟩
  replace hR := hR.below hb1 hR.lt
  replace hM := hM.below hb1 hM.lt
  replace hb0 := hb0.trans (hb1.mono hb0.size)
  clear hb1
  go_wp2
  have hD : Blk (w2.alloc (.cells #[.int .u64 (x.a : Int), .int .u64 (x.b : Int), .int .u64 (x.c : Int), .int .u64 (x.d : Int)] 85)) w2.heap.size 85 [.int .u64 (x.a : Int), .int .u64 (x.b : Int), .int .u64 (x.c : Int), .int .u64 (x.d : Int)] := Blk.new_of w2 _ _ _ rfl
  have hG : w.heap.size + 1 < w2.heap.size := hR.lt
  replace hR := hR.alloc (.cells #[.int .u64 (x.a : Int), .int .u64 (x.b : Int), .int .u64 (x.c : Int), .int .u64 (x.d : Int)] 85)
  replace hM := hM.alloc (.cells #[.int .u64 (x.a : Int), .int .u64 (x.b : Int), .int .u64 (x.c : Int), .int .u64 (x.d : Int)] 85)
  replace hb0 := hb0.alloc hb0.size (.cells #[.int .u64 (x.a : Int), .int .u64 (x.b : Int), .int .u64 (x.c : Int), .int .u64 (x.d : Int)] 85)
  have lD := hD.lt
  generalize w2.alloc (.cells #[.int .u64 (x.a : Int), .int .u64 (x.b : Int), .int .u64 (x.c : Int), .int .u64 (x.d : Int)] 85) = w1 at *
  generalize w2.heap.size = G at *
  clear w2
  have lR := hR.lt
  have lM := hM.lt
  have hd4 := fun (V : World) (h : Below w1.heap.size w1 V) => (hD.below h lD).four
  have hm9 := fun (V : World) (h : Below w1.heap.size w1 V) => (hM.below h lM).mod
  apply wp_region_once (D := [[], [], [1], [1, 2], [1, 2, 3], [0, 1, 2, 3, 4]]) (J := [[], [], [1], [2], [3], [0, 4]]) (Je := [5]) (Rs := [Is _, Is _, Is _, Is _, Is _, Is _])
  · kernel_rfl
  · kernel_rfl
  · kernel_rfl
  · kernel_rfl
  · kernel_rfl
  · kernel_rfl
  · intro u
    simp only [List.map_cons, List.map_nil, fillU, List.setIfInBounds_toArray, List.set_cons_zero, List.set_cons_succ, Nat.zero_add, Nat.reduceAdd]
    exact rfl
  · skip
    refine ⟨fun u W hb hd K hK => ?_, ?_⟩
    · clear hd
      go_simp
      apply hK
      · simp only [Act.put, List.setIfInBounds_toArray, List.set_cons_zero, List.set_cons_succ]
        exact rfl
      · exact Below.refl _ _
      · exact IsOut
    refine ⟨fun u W hb hd K hK => ?_, ?_⟩
    · clear hd
      go_simp
      apply hK
      · simp only [Act.put, List.setIfInBounds_toArray, List.set_cons_zero, List.set_cons_succ]
        exact rfl
      · exact Below.refl _ _
      · exact IsOut
    refine ⟨fun u W hb hd K hK => ?_, ?_⟩
    · simp only [Facts, nthR, Is, and_true] at hd
      simp only [hd] at hK ⊢
      clear hd
      go_simp
      apply hK
      · simp only [Act.put, List.setIfInBounds_toArray, List.set_cons_zero, List.set_cons_succ]
        exact rfl
      · exact Below.refl _ _
      · exact IsOut
    refine ⟨fun u W hb hd K hK => ?_, ?_⟩
    · simp only [Facts, nthR, Is, and_true] at hd
      simp only [hd] at hK ⊢
      clear hd
      go_simp
      apply hK
      · simp only [Act.put, List.setIfInBounds_toArray, List.set_cons_zero, List.set_cons_succ]
        exact rfl
      · exact Below.refl _ _
      · exact IsOut
    refine ⟨fun u W hb hd K hK => ?_, ?_⟩
    · simp only [Facts, nthR, Is, and_true] at hd
      simp only [hd] at hK ⊢
      clear hd
      go_simp
      apply hK
      · simp only [Act.put, List.setIfInBounds_toArray, List.set_cons_zero, List.set_cons_succ]
        exact rfl
      · exact Below.refl _ _
      · exact IsOut
    refine ⟨fun u W hb hd K hK => ?_, ?_⟩
    · simp only [Facts, nthR, Is, and_true] at hd
      simp only [hd] at hK ⊢
      clear hd
      go_simp
      refine (less_any x n W).mono ?_
      rintro e wy ⟨rfl, hby⟩
      exact hK _ _ _ rfl hby IsOut
    exact trivial
  · exact (.is (.is (.is (.is (.is (.is .nil))))))
  · intro u W hb hd
    simp only [Facts, nthR, Is, and_true] at hd
    simp only [hd]
    replace hR := hR.below hb lR
    replace hM := hM.below hb lM
    replace hD := hD.below hb lD
    replace hb0 := hb0.trans (hb.mono hb0.size)
    clear hm9 hd4 hb
    obtain ⟨d0, d1, d2, d3⟩ := hD.four
    have lR2 := hR.lt
    have lM2 := hM.lt
    by_cases hl : lessP x n = true
    · rw [hl]
      have e : restP n sq f x = x := if_pos hl
      go_wp2_with ((with_reducible refine (?_ : wpList _ _ _ (Oper.mk none (.store 85 (.tmp 4) _) _ _ _ _ :: _) _ _)); go_loud (refine wpList_store_blk rfl 85 (.tmp 4) (.tmp 14) rfl rfl (w.heap.size + 1) [.int .u64 (x.a : Int), .int .u64 (x.b : Int), .int .u64 (x.c : Int), .int .u64 (x.d : Int)] rfl rfl 85 _ hR info50 (Eq.trans (b := 4) rfl rfl) (by simp [Value.oneCell']) ?_); intro w4 hR4 hg4)
      refine bodyPost_ret (v := .agg _) (results_cell_row rfl _ _ (w.heap.size + 1) 85 _ (0, 0) _ rfl hR4.raw Tryd.underlying85 rfl info50) rfl ⟨by rw [e], below_new hb0 hg4 (by omega) hb0.size⟩
    · have hl' : lessP x n = false := by simpa using hl
      rw [hl']
      have e : restP n sq f x = lowP n f (productP n f x sq) := if_neg hl
      go_wp2_with (first
        | (go_at_call 68; refine (raised_any g n sq x f _ hM hn hsq hx).mono ?_; rintro e w3 ⟨rfl, hb3⟩; have hR3 := hR.below hb3 lR2; have hM3 := hM.below hb3 lM2; have hbw3 := hb0.trans (hb3.mono hb0.size); clear hb3 d0 d1 d2 d3)
        | (go_at_call 74; refine (lowered_any g n sq (productP n f x sq) f _ hM3 hn (productP_ok hn hx hsq)).mono ?_; rintro e w5 ⟨rfl, hb5⟩; have hR5 := hR3.below hb5 hR3.lt; have hbw5 := hbw3.trans (hb5.mono hbw3.size); clear hb5)
        | ((with_reducible refine (?_ : wpList _ _ _ (Oper.mk none (.store 85 (.tmp 4) _) _ _ _ _ :: _) _ _)); go_loud (refine wpList_store_blk rfl 85 (.tmp 4) (.tmp 19) rfl rfl (w.heap.size + 1) [.int .u64 ((lowP n f (productP n f x sq)).a : Int), .int .u64 ((lowP n f (productP n f x sq)).b : Int), .int .u64 ((lowP n f (productP n f x sq)).c : Int), .int .u64 ((lowP n f (productP n f x sq)).d : Int)] rfl rfl 85 _ hR5 info50 (Eq.trans (b := 4) rfl rfl) (by simp [Value.oneCell']) ?_); intro w4 hR4 hg4))
      refine bodyPost_ret (v := .agg _) (results_cell_row rfl _ _ (w.heap.size + 1) 85 _ (0, 0) _ rfl hR4.raw Tryd.underlying85 rfl info50) rfl ⟨by rw [e], below_new hbw5 hg4 (by omega) hbw5.size⟩

end Go.Proofs.YtnkikhnllnbhfaaDoor
