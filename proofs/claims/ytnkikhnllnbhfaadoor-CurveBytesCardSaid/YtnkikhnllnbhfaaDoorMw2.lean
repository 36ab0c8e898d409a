/-
  Mw2.
-/
import Derived.Test.YtnkikhnllnbhfaaDoorMw1
import Derived.Test.YtnkikhnllnbhfaaDoorMem
import Derived.Test.YtnkikhnllnbhfaaDoorFree
import Derived.BigQuiet
namespace Go.Proofs.YtnkikhnllnbhfaaDoor
open Go.RowKit
theorem Blk.four {w : World} {g : Nat} {t : TypeId} {a b c d : Value} (h : Blk w g t [a, b, c, d]) : w.cell? ⟨g, 0, none⟩ = some a ∧ w.cell? ⟨g, 1, none⟩ = some b ∧ w.cell? ⟨g, 2, none⟩ = some c ∧ w.cell? ⟨g, 3, none⟩ = some d := ⟨h.cell 0, h.cell 1, h.cell 2, h.cell 3⟩
theorem Blk.four_frozen {w : World} {g : Nat} {t : TypeId} {a b c d : Value} (h : Blk w g t [a, b, c, d]) : w.frozen? ⟨g, 0, none⟩ = false ∧ w.frozen? ⟨g, 1, none⟩ = false ∧ w.frozen? ⟨g, 2, none⟩ = false ∧ w.frozen? ⟨g, 3, none⟩ = false := ⟨h.frozen 0, h.frozen 1, h.frozen 2, h.frozen 3⟩
/-- How a modulus lies in its block. -/
def modCells (n sq : P4) (f : Nat) : List Value := [.int .u64 (n.a : Int), .int .u64 (n.b : Int), .int .u64 (n.c : Int), .int .u64 (n.d : Int), .int .u64 (sq.a : Int), .int .u64 (sq.b : Int), .int .u64 (sq.c : Int), .int .u64 (sq.d : Int), .int .u64 (f : Int)]
/-- A modulus, made ready: odd and above 2. -/
structure Md (n sq : P4) (f : Nat) : Prop where
  ok : n.ok
  sqok : sq.ok
  big : 2 < n.val
  fl : f < 18446744073709551616
  fac : n.a * f % 18446744073709551616 = 18446744073709551615
  sqv : sq.val = B256 * B256 % n.val
theorem Blk.mod {w : World} {g : Nat} {t : TypeId} {n sq : P4} {f : Nat} (h : Blk w g t (modCells n sq f)) :
    w.cell? ⟨g, 0, none⟩ = some (.int .u64 (n.a : Int)) ∧ w.cell? ⟨g, 1, none⟩ = some (.int .u64 (n.b : Int)) ∧ w.cell? ⟨g, 2, none⟩ = some (.int .u64 (n.c : Int)) ∧ w.cell? ⟨g, 3, none⟩ = some (.int .u64 (n.d : Int)) ∧
    w.cell? ⟨g, 4, none⟩ = some (.int .u64 (sq.a : Int)) ∧ w.cell? ⟨g, 5, none⟩ = some (.int .u64 (sq.b : Int)) ∧ w.cell? ⟨g, 6, none⟩ = some (.int .u64 (sq.c : Int)) ∧ w.cell? ⟨g, 7, none⟩ = some (.int .u64 (sq.d : Int)) ∧ w.cell? ⟨g, 8, none⟩ = some (.int .u64 (f : Int)) :=
  ⟨h.cell 0, h.cell 1, h.cell 2, h.cell 3, h.cell 4, h.cell 5, h.cell 6, h.cell 7, h.cell 8⟩
theorem Blk.new3_of (w : World) (A B : Obj) (t : TypeId) (arr : Array Value) (cs : List Value) (h : arr = cs.toArray) : Blk (((w.alloc A).alloc B).alloc (.cells arr t)) (w.heap.size + 1 + 1) t cs := by
  have := Blk.new2_of (w.alloc A) B t arr cs h
  rwa [show (w.alloc A).heap.size = w.heap.size + 1 by simp] at this
theorem Blk.new4_of (w : World) (A B D : Obj) (t : TypeId) (arr : Array Value) (cs : List Value) (h : arr = cs.toArray) : Blk ((((w.alloc A).alloc B).alloc D).alloc (.cells arr t)) (w.heap.size + 1 + 1 + 1) t cs := by
  have := Blk.new3_of (w.alloc A) B D t arr cs h
  rwa [show (w.alloc A).heap.size = w.heap.size + 1 by simp] at this
theorem Blk.new5_of (w : World) (A B D E : Obj) (t : TypeId) (arr : Array Value) (cs : List Value) (h : arr = cs.toArray) : Blk (((((w.alloc A).alloc B).alloc D).alloc E).alloc (.cells arr t)) (w.heap.size + 1 + 1 + 1 + 1) t cs := by
  have := Blk.new4_of (w.alloc A) B D E t arr cs h
  rwa [show (w.alloc A).heap.size = w.heap.size + 1 by simp] at this
theorem fresh_one (w : World) (X : Obj) : Below w.heap.size w (w.alloc X) := (Below.refl _ _).alloc (Nat.le_refl _) _
theorem info50 : (Tryd.prog.info? 85).map (·.size) = some 4 := by kernel_rfl
theorem fresh_two (w : World) (X Y : Obj) : Below w.heap.size w ((w.alloc X).alloc Y) := ((Below.refl _ _).alloc (Nat.le_refl _) _).alloc (by simp) _
theorem fresh_three (w : World) (X Y Z : Obj) : Below w.heap.size w (((w.alloc X).alloc Y).alloc Z) := (fresh_two w X Y).alloc (by simp; omega) _

set_option maxRecDepth 100000 in
set_option maxHeartbeats 400000 in
theorem lessened_any (g high : Nat) (n sq x : P4) (f : Nat) (w : World) (hm : Blk w g 89 (modCells n sq f)) (hx : x.ok) :
    Calls Tryd.prog 72 #[.pointer (some ⟨g, 0, none⟩), .agg #[.int .u64 (x.a : Int), .int .u64 (x.b : Int), .int .u64 (x.c : Int), .int .u64 (x.d : Int)], .int .u64 (high : Int)] w fun e w' => e = .returned (.agg #[.int .u64 ((lessenedP n x high).a : Int), .int .u64 ((lessenedP n x high).b : Int), .int .u64 ((lessenedP n x high).c : Int), .int .u64 ((lessenedP n x high).d : Int)]) ∧ Below w.heap.size w w' := by
  have hS := sub64_y0 high (minusC x n) (minusC_le x n)
  go_enter Tryd.func72, Tryd.ntmps72
  go_wp2
  have hX : Blk ((w.alloc (.cells #[.int .u64 (x.a : Int), .int .u64 (x.b : Int), .int .u64 (x.c : Int), .int .u64 (x.d : Int)] 85)).alloc (.cells #[.int .u64 0, .int .u64 0, .int .u64 0, .int .u64 0] 85)) w.heap.size 85 [.int .u64 (x.a : Int), .int .u64 (x.b : Int), .int .u64 (x.c : Int), .int .u64 (x.d : Int)] := (Blk.new_of w _ _ _ rfl).alloc _
  have hR : Blk ((w.alloc (.cells #[.int .u64 (x.a : Int), .int .u64 (x.b : Int), .int .u64 (x.c : Int), .int .u64 (x.d : Int)] 85)).alloc (.cells #[.int .u64 0, .int .u64 0, .int .u64 0, .int .u64 0] 85)) (w.heap.size + 1) 85 [.int .u64 0, .int .u64 0, .int .u64 0, .int .u64 0] := Blk.new2_of w _ _ _ _ rfl
  have hM := (hm.alloc (.cells #[.int .u64 (x.a : Int), .int .u64 (x.b : Int), .int .u64 (x.c : Int), .int .u64 (x.d : Int)] 85)).alloc (.cells #[.int .u64 0, .int .u64 0, .int .u64 0, .int .u64 0] 85)
  have hb0 := fresh_two w (.cells #[.int .u64 (x.a : Int), .int .u64 (x.b : Int), .int .u64 (x.c : Int), .int .u64 (x.d : Int)] 85) (.cells #[.int .u64 0, .int .u64 0, .int .u64 0, .int .u64 0] 85)
  generalize (w.alloc (.cells #[.int .u64 (x.a : Int), .int .u64 (x.b : Int), .int .u64 (x.c : Int), .int .u64 (x.d : Int)] 85)).alloc (.cells #[.int .u64 0, .int .u64 0, .int .u64 0, .int .u64 0] 85) = w1 at *
  have lX := hX.lt
  have lR := hR.lt
  have lM := hM.lt
  have hx4 := fun (V : World) (h : Below w1.heap.size w1 V) => (hX.below h lX).four
  have hm9 := fun (V : World) (h : Below w1.heap.size w1 V) => (hM.below h lM).mod
  refine wp_region_noPanic ?_
  apply wp_region_once_tail (m := 10) (Z := [8]) (D := [[], [], [1], [1, 2], [1, 2, 3], [0, 1, 2, 3, 4], [0, 1, 2, 3, 4, 5], [0, 1, 2, 3, 4, 5, 6], [0, 1, 2, 3, 4, 5, 6], [], [0, 1, 2, 3, 4, 5, 6, 7, 9], [0, 1, 2, 3, 4, 5, 6, 7, 8, 9, 10]]) (J := [[], [], [1], [2], [3], [0, 4], [5], [6], [6], []]) (Je := [7, 8, 9]) (Rs := [Is _, Is _, Is _, Is _, Is _, Is _, Is _, Is _, Is _, fun v V => ∃ g', v = .pointer (some ⟨g', 0, none⟩) ∧ w1.heap.size ≤ g' ∧ Blk V g' 85 [.int .u64 0, .int .u64 0, .int .u64 0, .int .u64 0]])
  · kernel_rfl
  · kernel_rfl
  · kernel_rfl
  · kernel_rfl
  · kernel_rfl
  · kernel_rfl
  · kernel_rfl
  · exact fun _ _ _ _ _ _ h => h
  · intro u
    simp only [List.take_succ_cons, List.take_zero, List.map_cons, List.map_nil, fillU, List.setIfInBounds_toArray, List.set_cons_zero, List.set_cons_succ, Nat.zero_add, Nat.reduceAdd]
    exact rfl
  · simp only [List.take_succ_cons, List.take_zero]
    refine ⟨fun u W hb hd K hK => ?_, ?_⟩
    · clear hd
      go_simp
      apply hK
      · simp only [Act.put, List.setIfInBounds_toArray, List.set_cons_zero, List.set_cons_succ]
        exact rfl
      · exact Below.refl _ _
      · exact IsOut
    refine ⟨fun u W hb hd K hK => ?_, ?_⟩
    · clear hd
      go_simp
      apply hK
      · simp only [Act.put, List.setIfInBounds_toArray, List.set_cons_zero, List.set_cons_succ]
        exact rfl
      · exact Below.refl _ _
      · exact IsOut
    refine ⟨fun u W hb hd K hK => ?_, ?_⟩
    · simp only [Facts, nthR, Is, and_true] at hd
      simp only [hd] at hK ⊢
      clear hd
      go_simp
      apply hK
      · simp only [Act.put, List.setIfInBounds_toArray, List.set_cons_zero, List.set_cons_succ]
        exact rfl
      · exact Below.refl _ _
      · exact IsOut
    refine ⟨fun u W hb hd K hK => ?_, ?_⟩
    · simp only [Facts, nthR, Is, and_true] at hd
      simp only [hd] at hK ⊢
      clear hd
      go_simp
      apply hK
      · simp only [Act.put, List.setIfInBounds_toArray, List.set_cons_zero, List.set_cons_succ]
        exact rfl
      · exact Below.refl _ _
      · exact IsOut
    refine ⟨fun u W hb hd K hK => ?_, ?_⟩
    · simp only [Facts, nthR, Is, and_true] at hd
      simp only [hd] at hK ⊢
      clear hd
      go_simp
      apply hK
      · simp only [Act.put, List.setIfInBounds_toArray, List.set_cons_zero, List.set_cons_succ]
        exact rfl
      · exact Below.refl _ _
      · exact IsOut
    refine ⟨fun u W hb hd K hK => ?_, ?_⟩
    · simp only [Facts, nthR, Is, and_true] at hd
      simp only [hd] at hK ⊢
      clear hd
      go_simp
      refine (minus_any x n W).mono ?_
      rintro e wy ⟨rfl, hby⟩
      exact hK _ _ _ rfl hby IsOut
    refine ⟨fun u W hb hd K hK => ?_, ?_⟩
    · simp only [Facts, nthR, Is, and_true] at hd
      simp only [hd] at hK ⊢
      clear hd
      go_simp
      apply hK
      · simp only [Act.put, List.setIfInBounds_toArray, List.set_cons_zero, List.set_cons_succ]
        exact rfl
      · exact Below.refl _ _
      · exact IsOut
    refine ⟨fun u W hb hd K hK => ?_, ?_⟩
    · simp only [Facts, nthR, Is, and_true] at hd
      simp only [hd] at hK ⊢
      clear hd
      go_simp
      apply hK
      · simp only [Act.put, List.setIfInBounds_toArray, List.set_cons_zero, List.set_cons_succ]
        exact rfl
      · exact Below.refl _ _
      · exact IsOut
    refine ⟨fun u W hb hd K hK => ?_, ?_⟩
    · simp only [Facts, nthR, Is, and_true] at hd
      simp only [hd] at hK ⊢
      clear hd
      go_simp
      apply hK
      · simp only [Act.put, List.setIfInBounds_toArray, List.set_cons_zero, List.set_cons_succ]
        exact rfl
      · exact Below.refl _ _
      · exact IsOut
    refine ⟨fun u W hb hd K hK => ?_, ?_⟩
    · clear hd
      go_simp
      apply hK
      · simp only [Act.put, List.setIfInBounds_toArray, List.set_cons_zero, List.set_cons_succ]
        exact rfl
      · exact (Below.refl _ _).alloc (Nat.le_refl _) _
      · exact ⟨_, rfl, hb.size, Blk.new_of _ _ _ _ rfl⟩
    exact trivial
  · skip
    refine ⟨fun o ho u W hb hd => ?_, ?_⟩
    · obtain rfl := Option.some.inj ho
      simp only [Facts, nthR, Is, and_true, List.getD_cons_succ, List.getD_cons_zero] at hd
      simp only [hd]
      clear hd
      exact ⟨_, .inl ⟨by rfl, fun w' => by go_simp⟩, IsOut (w := W)⟩
    exact trivial
  · exact (.is (.is (.is (.is (.is (.is (.is (.is (.is (.cons (fun v V V' ⟨g', h1, h2, h3⟩ hb => ⟨g', h1, h2, h3.below hb h3.lt⟩) .nil))))))))))
  · intro u W hb hd
    simp only [List.drop_succ_cons, List.drop_zero]
    simp only [Facts, nthR, Is, and_true] at hd
    obtain ⟨h7, h8, g', h9, hg', hG⟩ := hd
    simp only [h7, h8, h9]
    clear h7 h8 h9
    refine wpList_store_blk rfl 85 (.tmp 7) (.tmp 18) rfl rfl (g') [.int .u64 ((minusP x n).a : Int), .int .u64 ((minusP x n).b : Int), .int .u64 ((minusP x n).c : Int), .int .u64 ((minusP x n).d : Int)] rfl rfl 85 _ hG info50 (Eq.trans (b := 4) rfl rfl) (by simp [Value.oneCell']) ?_
    intro w2 hG2 hg2
    have hb2 := below_new hb hg2 hg' hb.size
    have hx2 := (hX.below hb2 lX).four
    have hR2 := hR.below hb2 lR
    have hG4 := hG2.four
    have hbw := hb0.trans (hb2.mono hb0.size)
    clear hm9 hx4 hg2 hG hb hX hR hM hb2 hb0
    go_wp2
    refine NoPanic.normal ?_
    go_wp2_with (first
      | (go_at_call 77; refine (choose_any _ x (minusP x n) _ (sbC_le _ _ _) hx (minusP_ok x n)).mono ?_; rintro e w3 ⟨rfl, hb3⟩; have hR3 := hR2.below hb3 hR2.lt; have hbw3 := hbw.trans (hb3.mono hbw.size); clear hb3 hG4 hx2)
      | ((with_reducible refine (?_ : wpList _ _ _ (Oper.mk none (.store 85 (.tmp 6) _) _ _ _ _ :: _) _ _)); go_loud (refine wpList_store_blk rfl 85 (.tmp 6) (.tmp 29) rfl rfl (w.heap.size + 1) [.int .u64 ((chooseP (sbC high 0 (minusC x n)) x (minusP x n)).a : Int), .int .u64 ((chooseP (sbC high 0 (minusC x n)) x (minusP x n)).b : Int), .int .u64 ((chooseP (sbC high 0 (minusC x n)) x (minusP x n)).c : Int), .int .u64 ((chooseP (sbC high 0 (minusC x n)) x (minusP x n)).d : Int)] rfl rfl 85 _ hR3 info50 (Eq.trans (b := 4) rfl rfl) (by simp [Value.oneCell']) ?_); intro w4 hR4 hg4))
    refine bodyPost_ret (v := .agg _) (results_cell_row rfl _ _ (w.heap.size + 1) 85 _ (0, 0) _ rfl hR4.raw Tryd.underlying85 rfl info50) rfl ⟨rfl, below_new hbw3 hg4 (by omega) hbw3.size⟩

end Go.Proofs.YtnkikhnllnbhfaaDoor
