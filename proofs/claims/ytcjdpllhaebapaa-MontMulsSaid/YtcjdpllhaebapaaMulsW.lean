/-
  The contracts of package mont's inner calls by a modulus: the walk of MontMuls.
-/
import Derived.Test.YtcjdpllhaebapaaMk
import Derived.Test.YtcjdpllhaebapaaFree
namespace Go.Proofs.Ytcjdpllhaebapaa
open Go.RowKit

theorem Mul_one (g : Nat) (m sq a : P4) (f : Nat) (w : World) (hM : Blk w g 54 (modCells m sq f)) (md : Md m sq f) (ha : a.ok) :
    Calls Try.prog 19 #[.pointer (some ⟨g, 0, none⟩), .agg #[.int .u64 (a.a : Int), .int .u64 (a.b : Int), .int .u64 (a.c : Int), .int .u64 (a.d : Int)], .agg #[.int .u64 1, .int .u64 0, .int .u64 0, .int .u64 0]] w fun e w' => e = .returned (.agg #[.int .u64 ((redP m a.val).a : Int), .int .u64 ((redP m a.val).b : Int), .int .u64 ((redP m a.val).c : Int), .int .u64 ((redP m a.val).d : Int)]) ∧ Below w.heap.size w w' := by
  have h := Mul_v g m sq a oneP f w hM md ha oneP_ok
  rw [oneP_val, Nat.mul_one] at h
  exact h
set_option maxRecDepth 100000 in
set_option maxHeartbeats 400000 in
theorem muls_wrong (m a b : P4) (w : World) (hm : m.ok) (ha : a.ok) (hb : b.ok) (hr : rightP m = false) : Calls Try.prog 4 #[.agg #[.int .u64 (m.a : Int), .int .u64 (m.b : Int), .int .u64 (m.c : Int), .int .u64 (m.d : Int)], .agg #[.int .u64 (a.a : Int), .int .u64 (a.b : Int), .int .u64 (a.c : Int), .int .u64 (a.d : Int)], .agg #[.int .u64 (b.a : Int), .int .u64 (b.b : Int), .int .u64 (b.c : Int), .int .u64 (b.d : Int)]] w fun e w' => e = .returned (.bool true) ∧ Below w.heap.size w w' := by
  have HR := Lib.hid hr
  clear hr
  go_enter Try.func4, Try.ntmps4
  go_wp2_with fail
  have hP := Par.start w m a 24 #[.int .u64 (b.a : Int), .int .u64 (b.b : Int), .int .u64 (b.c : Int), .int .u64 (b.d : Int)] [.int .u64 (b.a : Int), .int .u64 (b.b : Int), .int .u64 (b.c : Int), .int .u64 (b.d : Int)] rfl
  generalize ((w.alloc (.cells #[.int .u64 (m.a : Int), .int .u64 (m.b : Int), .int .u64 (m.c : Int), .int .u64 (m.d : Int)] 24)).alloc (.cells #[.int .u64 (a.a : Int), .int .u64 (a.b : Int), .int .u64 (a.c : Int), .int .u64 (a.d : Int)] 24)).alloc (.cells #[.int .u64 (b.a : Int), .int .u64 (b.b : Int), .int .u64 (b.c : Int), .int .u64 (b.d : Int)] 24) = w1 at *
  refine (New_n m _ hm HR.out).mono ?_
  rintro e w2 ⟨rfl, hbx⟩
  replace hP := hP.below hbx
  clear hbx
  obtain ⟨m0, m1, m2, m3, a0, a1, a2, a3⟩ := hP.c
  go_wp2_with fail
  clear m0 m1 m2 m3 a0 a1 a2 a3
  refine (seven_any _).mono ?_
  rintro e w3 ⟨rfl, hbx⟩
  replace hP := hP.below hbx
  clear hbx
  obtain ⟨m0, m1, m2, m3, a0, a1, a2, a3⟩ := hP.c
  go_wp2_with fail
  clear m0 m1 m2 m3 a0 a1 a2 a3
  refine (right_t m false _ HR.out).mono ?_
  rintro e w4 ⟨rfl, hbx⟩
  replace hP := hP.below hbx
  clear hbx
  obtain ⟨m0, m1, m2, m3, a0, a1, a2, a3⟩ := hP.c
  go_wp2_with fail
  clear m0 m1 m2 m3 a0 a1 a2 a3
  refine (seven_any _).mono ?_
  rintro e w5 ⟨rfl, hbx⟩
  replace hP := hP.below hbx
  clear hbx
  go_wp2
  go_ret
  exact ⟨rfl, hP.bw⟩
set_option maxRecDepth 100000 in
set_option maxHeartbeats 400000 in
theorem muls_right (m a b : P4) (w : World) (hm : m.ok) (ha : a.ok) (hb : b.ok) (hr : rightP m = true) : Calls Try.prog 4 #[.agg #[.int .u64 (m.a : Int), .int .u64 (m.b : Int), .int .u64 (m.c : Int), .int .u64 (m.d : Int)], .agg #[.int .u64 (a.a : Int), .int .u64 (a.b : Int), .int .u64 (a.c : Int), .int .u64 (a.d : Int)], .agg #[.int .u64 (b.a : Int), .int .u64 (b.b : Int), .int .u64 (b.c : Int), .int .u64 (b.d : Int)]] w fun e w' => e = .returned (.bool true) ∧ Below w.heap.size w w' := by
  have HR := Lib.hid hr
  clear hr
  go_enter Try.func4, Try.ntmps4
  go_wp2_with fail
  have hP := Par.start w m a 24 #[.int .u64 (b.a : Int), .int .u64 (b.b : Int), .int .u64 (b.c : Int), .int .u64 (b.d : Int)] [.int .u64 (b.a : Int), .int .u64 (b.b : Int), .int .u64 (b.c : Int), .int .u64 (b.d : Int)] rfl
  generalize ((w.alloc (.cells #[.int .u64 (m.a : Int), .int .u64 (m.b : Int), .int .u64 (m.c : Int), .int .u64 (m.d : Int)] 24)).alloc (.cells #[.int .u64 (a.a : Int), .int .u64 (a.b : Int), .int .u64 (a.c : Int), .int .u64 (a.d : Int)] 24)).alloc (.cells #[.int .u64 (b.a : Int), .int .u64 (b.b : Int), .int .u64 (b.c : Int), .int .u64 (b.d : Int)] 24) = w1 at *
  refine (New_r m _ hm HR.out).mono ?_
  rintro e w2 ⟨g, sq, f, rfl, hg, hM, md, hbx⟩
  have lg : w.heap.size + 1 + 1 < g := Nat.lt_of_lt_of_le hP.bb.lt hg
  clear hg
  replace hP := hP.below hbx
  clear hbx
  obtain ⟨m0, m1, m2, m3, a0, a1, a2, a3⟩ := hP.c
  go_wp2_with fail
  clear m0 m1 m2 m3 a0 a1 a2 a3
  refine (seven_any _).mono ?_
  rintro e w3 ⟨rfl, hbx⟩
  replace hP := hP.below hbx
  replace hM := hM.below hbx hM.lt
  clear hbx
  obtain ⟨m0, m1, m2, m3, a0, a1, a2, a3⟩ := hP.c
  go_wp2_with fail
  clear m0 m1 m2 m3 a0 a1 a2 a3
  refine (right_t m true _ HR.out).mono ?_
  rintro e w4 ⟨rfl, hbx⟩
  replace hP := hP.below hbx
  replace hM := hM.below hbx hM.lt
  clear hbx
  obtain ⟨m0, m1, m2, m3, a0, a1, a2, a3⟩ := hP.c
  obtain ⟨b0, b1, b2, b3⟩ := hP.bb.four
  go_wp2_with fail
  refine (Mul_v g m sq a b f _ hM md ha hb).mono ?_
  rintro e w5 ⟨rfl, hbx⟩
  replace hP := hP.below hbx
  replace hM := hM.below hbx hM.lt
  clear hbx
  obtain ⟨m0, m1, m2, m3, a0, a1, a2, a3⟩ := hP.c
  go_wp2_with fail
  replace hM := hM.alloc (.cells #[.int .u64 ((redP m (a.val * b.val)).a : Int), .int .u64 ((redP m (a.val * b.val)).b : Int), .int .u64 ((redP m (a.val * b.val)).c : Int), .int .u64 ((redP m (a.val * b.val)).d : Int)] 24)
  have hQ := Blk.new_of w5 24 #[.int .u64 ((redP m (a.val * b.val)).a : Int), .int .u64 ((redP m (a.val * b.val)).b : Int), .int .u64 ((redP m (a.val * b.val)).c : Int), .int .u64 ((redP m (a.val * b.val)).d : Int)] [.int .u64 ((redP m (a.val * b.val)).a : Int), .int .u64 ((redP m (a.val * b.val)).b : Int), .int .u64 ((redP m (a.val * b.val)).c : Int), .int .u64 ((redP m (a.val * b.val)).d : Int)] rfl
  replace hP := hP.alloc (.cells #[.int .u64 ((redP m (a.val * b.val)).a : Int), .int .u64 ((redP m (a.val * b.val)).b : Int), .int .u64 ((redP m (a.val * b.val)).c : Int), .int .u64 ((redP m (a.val * b.val)).d : Int)] 24)
  generalize w5.alloc (.cells #[.int .u64 ((redP m (a.val * b.val)).a : Int), .int .u64 ((redP m (a.val * b.val)).b : Int), .int .u64 ((redP m (a.val * b.val)).c : Int), .int .u64 ((redP m (a.val * b.val)).d : Int)] 24) = w6 at *
  clear m0 m1 m2 m3 a0 a1 a2 a3 b0 b1 b2 b3
  have lM := hM.lt
  have hP8 := fun (V : World) (h : Below w6.heap.size w6 V) => (hP.below h).c
  have hB4 := fun (V : World) (h : Below w6.heap.size w6 V) => (hP.below h).bb.four
  have hE23 := eqS23
  have hE24 := eqS24
  have lQ := hQ.lt
  have hQ4 := fun (V : World) (h : Below w6.heap.size w6 V) => (hQ.below h lQ).four
  have K0 := fun (W : World) => rMul_any a b m W ha hb hm (by have := md.big; omega)
  have K1 := fun (W : World) (h : Blk W g 54 (modCells m sq f)) => Mul_v g m sq b a f W h md hb ha
  rw [Nat.mul_comm b.val a.val] at K1
  have K2 := fun (W : World) (h : Blk W g 54 (modCells m sq f)) => Mul_one g m sq a f W h md ha
  have K3 := fun (W : World) (h : Blk W g 54 (modCells m sq f)) => Rest_v g m sq a f W h md ha
  generalize redP m (a.val * b.val) = p at *
  generalize redP m a.val = r at *
  apply wp_region_once (D := [[], [0], [0, 1], [0, 1, 2], [0, 1, 2], [0, 1, 2], [0, 1, 2], [0, 1, 2, 4, 5, 6], [0, 1, 2, 3, 4, 5, 6, 7], [0, 1, 2, 3, 4, 5, 6, 7, 8], [0, 1, 2, 3, 4, 5, 6, 7, 8, 9], [0, 1, 2, 3, 4, 5, 6, 7, 8, 9, 10], [0, 1, 2, 3, 4, 5, 6, 7, 8, 9, 10], [0, 1, 2, 3, 4, 5, 6, 7, 8, 9, 10], [0, 1, 2, 3, 4, 5, 6, 7, 8, 9, 10], [0, 1, 2, 3, 4, 5, 6, 7, 8, 9, 10, 12, 13, 14], [0, 1, 2, 3, 4, 5, 6, 7, 8, 9, 10, 11, 12, 13, 14, 15], [0, 1, 2, 3, 4, 5, 6, 7, 8, 9, 10, 11, 12, 13, 14, 15, 16], [0, 1, 2, 3, 4, 5, 6, 7, 8, 9, 10, 11, 12, 13, 14, 15, 16, 17], [0, 1, 2, 3, 4, 5, 6, 7, 8, 9, 10, 11, 12, 13, 14, 15, 16, 17, 18], [0, 1, 2, 3, 4, 5, 6, 7, 8, 9, 10, 11, 12, 13, 14, 15, 16, 17, 18], [0, 1, 2, 3, 4, 5, 6, 7, 8, 9, 10, 11, 12, 13, 14, 15, 16, 17, 18], [0, 1, 2, 3, 4, 5, 6, 7, 8, 9, 10, 11, 12, 13, 14, 15, 16, 17, 18, 19, 20, 21], [0, 1, 2, 3, 4, 5, 6, 7, 8, 9, 10, 11, 12, 13, 14, 15, 16, 17, 18], [0, 1, 2, 3, 4, 5, 6, 7, 8, 9, 10, 11, 12, 13, 14, 15, 16, 17, 18], [0, 1, 2, 3, 4, 5, 6, 7, 8, 9, 10, 11, 12, 13, 14, 15, 16, 17, 18, 19, 20, 21, 22, 23, 24], [0, 1, 2, 3, 4, 5, 6, 7, 8, 9, 10, 11, 12, 13, 14, 15, 16, 17, 18, 19, 20, 21, 22, 23, 24, 25], [0, 1, 2, 3, 4, 5, 6, 7, 8, 9, 10, 11, 12, 13, 14, 15, 16, 17, 18, 19, 20, 21, 22, 23, 24, 25, 26], [0, 1, 2, 3, 4, 5, 6, 7, 8, 9, 10, 11, 12, 13, 14, 15, 16, 17, 18, 19, 20, 21, 22, 23, 24, 25, 26, 27]]) (J := [[], [0], [1], [2], [2], [2], [2], [2, 4, 5, 6], [2, 3, 7], [2, 8], [9], [10], [10], [10], [10], [10, 12, 13, 14], [10, 11, 15], [10, 16], [17], [18], [18], [18], [18, 19, 20, 21], [18], [18], [18, 23, 24], [18, 22, 25], [18, 26], [27]]) (Je := [28]) (Rs := [Is _, Is _, Is _, Is _, Is _, Is _, Is _, Is _, Is _, Is _, Is _, Is _, Is _, Is _, Is _, Is _, Is _, Is _, Is _, Is _, Is _, Is _, Is _, Is _, Is _, Is _, Is _, Is _, Is _])
  · kernel_rfl
  · kernel_rfl
  · kernel_rfl
  · kernel_rfl
  · kernel_rfl
  · kernel_rfl
  · intro u
    simp only [List.map_cons, List.map_nil, fillU, List.setIfInBounds_toArray, List.set_cons_zero, List.set_cons_succ, Nat.zero_add, Nat.reduceAdd]
    exact rfl
  · skip
    refine ⟨fun u W hb hd K hK => ?_, ?_⟩
    · clear hd
      go_simp
      apply hK
      · simp only [Act.put, List.setIfInBounds_toArray, List.set_cons_zero, List.set_cons_succ]
        exact rfl
      · exact Below.refl _ _
      · exact IsOut
    refine ⟨fun u W hb hd K hK => ?_, ?_⟩
    · simp only [Facts, nthR, Is, and_true] at hd
      simp only [hd] at hK ⊢
      clear hd
      go_simp
      apply hK
      · simp only [Act.put, List.setIfInBounds_toArray, List.set_cons_zero, List.set_cons_succ]
        exact rfl
      · exact Below.refl _ _
      · exact IsOut
    refine ⟨fun u W hb hd K hK => ?_, ?_⟩
    · simp only [Facts, nthR, Is, and_true] at hd
      simp only [hd] at hK ⊢
      clear hd
      go_simp
      apply hK
      · simp only [Act.put, List.setIfInBounds_toArray, List.set_cons_zero, List.set_cons_succ]
        exact rfl
      · exact Below.refl _ _
      · exact IsOut
    refine ⟨fun u W hb hd K hK => ?_, ?_⟩
    · simp only [Facts, nthR, Is, and_true] at hd
      simp only [hd] at hK ⊢
      clear hd
      go_simp
      apply hK
      · simp only [Act.put, List.setIfInBounds_toArray, List.set_cons_zero, List.set_cons_succ]
        exact rfl
      · exact Below.refl _ _
      · exact IsOut
    refine ⟨fun u W hb hd K hK => ?_, ?_⟩
    · simp only [Facts, nthR, Is, and_true] at hd
      simp only [hd] at hK ⊢
      clear hd
      go_simp
      apply hK
      · simp only [Act.put, List.setIfInBounds_toArray, List.set_cons_zero, List.set_cons_succ]
        exact rfl
      · exact Below.refl _ _
      · exact IsOut
    refine ⟨fun u W hb hd K hK => ?_, ?_⟩
    · simp only [Facts, nthR, Is, and_true] at hd
      simp only [hd] at hK ⊢
      clear hd
      go_simp
      apply hK
      · simp only [Act.put, List.setIfInBounds_toArray, List.set_cons_zero, List.set_cons_succ]
        exact rfl
      · exact Below.refl _ _
      · exact IsOut
    refine ⟨fun u W hb hd K hK => ?_, ?_⟩
    · simp only [Facts, nthR, Is, and_true] at hd
      simp only [hd] at hK ⊢
      clear hd
      go_simp
      apply hK
      · simp only [Act.put, List.setIfInBounds_toArray, List.set_cons_zero, List.set_cons_succ]
        exact rfl
      · exact Below.refl _ _
      · exact IsOut
    refine ⟨fun u W hb hd K hK => ?_, ?_⟩
    · simp only [Facts, nthR, Is, and_true] at hd
      simp only [hd] at hK ⊢
      clear hd
      go_simp
      refine (K0 W).mono ?_
      rintro e wy ⟨rfl, hby⟩
      exact hK _ _ _ rfl hby IsOut
    refine ⟨fun u W hb hd K hK => ?_, ?_⟩
    · simp only [Facts, nthR, Is, and_true] at hd
      simp only [hd] at hK ⊢
      clear hd
      go_simp
      apply hK
      · simp only [Act.put, List.setIfInBounds_toArray, List.set_cons_zero, List.set_cons_succ]
        exact rfl
      · exact Below.refl _ _
      · exact IsOut
    refine ⟨fun u W hb hd K hK => ?_, ?_⟩
    · simp only [Facts, nthR, Is, and_true] at hd
      simp only [hd] at hK ⊢
      clear hd
      go_simp
      apply hK
      · simp only [Act.put, List.setIfInBounds_toArray, List.set_cons_zero, List.set_cons_succ]
        exact rfl
      · exact Below.refl _ _
      · exact IsOut
    refine ⟨fun u W hb hd K hK => ?_, ?_⟩
    · simp only [Facts, nthR, Is, and_true] at hd
      simp only [hd] at hK ⊢
      clear hd
      go_simp
      apply hK
      · simp only [Act.put, List.setIfInBounds_toArray, List.set_cons_zero, List.set_cons_succ]
        exact rfl
      · exact Below.refl _ _
      · exact IsOut
    refine ⟨fun u W hb hd K hK => ?_, ?_⟩
    · simp only [Facts, nthR, Is, and_true] at hd
      simp only [hd] at hK ⊢
      clear hd
      go_simp
      apply hK
      · simp only [Act.put, List.setIfInBounds_toArray, List.set_cons_zero, List.set_cons_succ]
        exact rfl
      · exact Below.refl _ _
      · exact IsOut
    refine ⟨fun u W hb hd K hK => ?_, ?_⟩
    · simp only [Facts, nthR, Is, and_true] at hd
      simp only [hd] at hK ⊢
      clear hd
      go_simp
      apply hK
      · simp only [Act.put, List.setIfInBounds_toArray, List.set_cons_zero, List.set_cons_succ]
        exact rfl
      · exact Below.refl _ _
      · exact IsOut
    refine ⟨fun u W hb hd K hK => ?_, ?_⟩
    · simp only [Facts, nthR, Is, and_true] at hd
      simp only [hd] at hK ⊢
      clear hd
      go_simp
      apply hK
      · simp only [Act.put, List.setIfInBounds_toArray, List.set_cons_zero, List.set_cons_succ]
        exact rfl
      · exact Below.refl _ _
      · exact IsOut
    refine ⟨fun u W hb hd K hK => ?_, ?_⟩
    · simp only [Facts, nthR, Is, and_true] at hd
      simp only [hd] at hK ⊢
      clear hd
      go_simp
      apply hK
      · simp only [Act.put, List.setIfInBounds_toArray, List.set_cons_zero, List.set_cons_succ]
        exact rfl
      · exact Below.refl _ _
      · exact IsOut
    refine ⟨fun u W hb hd K hK => ?_, ?_⟩
    · simp only [Facts, nthR, Is, and_true] at hd
      simp only [hd] at hK ⊢
      clear hd
      go_simp
      refine (K1 W (hM.below hb lM)).mono ?_
      rintro e wy ⟨rfl, hby⟩
      exact hK _ _ _ rfl hby IsOut
    refine ⟨fun u W hb hd K hK => ?_, ?_⟩
    · simp only [Facts, nthR, Is, and_true] at hd
      simp only [hd] at hK ⊢
      clear hd
      go_simp
      apply hK
      · simp only [Act.put, List.setIfInBounds_toArray, List.set_cons_zero, List.set_cons_succ]
        exact rfl
      · exact Below.refl _ _
      · exact IsOut
    refine ⟨fun u W hb hd K hK => ?_, ?_⟩
    · simp only [Facts, nthR, Is, and_true] at hd
      simp only [hd] at hK ⊢
      clear hd
      go_simp
      apply hK
      · simp only [Act.put, List.setIfInBounds_toArray, List.set_cons_zero, List.set_cons_succ]
        exact rfl
      · exact Below.refl _ _
      · exact IsOut
    refine ⟨fun u W hb hd K hK => ?_, ?_⟩
    · simp only [Facts, nthR, Is, and_true] at hd
      simp only [hd] at hK ⊢
      clear hd
      go_simp
      apply hK
      · simp only [Act.put, List.setIfInBounds_toArray, List.set_cons_zero, List.set_cons_succ]
        exact rfl
      · exact Below.refl _ _
      · exact IsOut
    refine ⟨fun u W hb hd K hK => ?_, ?_⟩
    · simp only [Facts, nthR, Is, and_true] at hd
      simp only [hd] at hK ⊢
      clear hd
      go_simp
      apply hK
      · simp only [Act.put, List.setIfInBounds_toArray, List.set_cons_zero, List.set_cons_succ]
        exact rfl
      · exact Below.refl _ _
      · exact IsOut
    refine ⟨fun u W hb hd K hK => ?_, ?_⟩
    · simp only [Facts, nthR, Is, and_true] at hd
      simp only [hd] at hK ⊢
      clear hd
      go_simp
      apply hK
      · simp only [Act.put, List.setIfInBounds_toArray, List.set_cons_zero, List.set_cons_succ]
        exact rfl
      · exact Below.refl _ _
      · exact IsOut
    refine ⟨fun u W hb hd K hK => ?_, ?_⟩
    · simp only [Facts, nthR, Is, and_true] at hd
      simp only [hd] at hK ⊢
      clear hd
      go_simp
      apply hK
      · simp only [Act.put, List.setIfInBounds_toArray, List.set_cons_zero, List.set_cons_succ]
        exact rfl
      · exact Below.refl _ _
      · exact IsOut
    refine ⟨fun u W hb hd K hK => ?_, ?_⟩
    · simp only [Facts, nthR, Is, and_true] at hd
      simp only [hd] at hK ⊢
      clear hd
      go_simp
      refine (K2 W (hM.below hb lM)).mono ?_
      rintro e wy ⟨rfl, hby⟩
      exact hK _ _ _ rfl hby IsOut
    refine ⟨fun u W hb hd K hK => ?_, ?_⟩
    · simp only [Facts, nthR, Is, and_true] at hd
      simp only [hd] at hK ⊢
      clear hd
      go_simp
      apply hK
      · simp only [Act.put, List.setIfInBounds_toArray, List.set_cons_zero, List.set_cons_succ]
        exact rfl
      · exact Below.refl _ _
      · exact IsOut
    refine ⟨fun u W hb hd K hK => ?_, ?_⟩
    · simp only [Facts, nthR, Is, and_true] at hd
      simp only [hd] at hK ⊢
      clear hd
      go_simp
      apply hK
      · simp only [Act.put, List.setIfInBounds_toArray, List.set_cons_zero, List.set_cons_succ]
        exact rfl
      · exact Below.refl _ _
      · exact IsOut
    refine ⟨fun u W hb hd K hK => ?_, ?_⟩
    · simp only [Facts, nthR, Is, and_true] at hd
      simp only [hd] at hK ⊢
      clear hd
      go_simp
      refine (K3 W (hM.below hb lM)).mono ?_
      rintro e wy ⟨rfl, hby⟩
      exact hK _ _ _ rfl hby IsOut
    refine ⟨fun u W hb hd K hK => ?_, ?_⟩
    · simp only [Facts, nthR, Is, and_true] at hd
      simp only [hd] at hK ⊢
      clear hd
      go_simp
      apply hK
      · simp only [Act.put, List.setIfInBounds_toArray, List.set_cons_zero, List.set_cons_succ]
        exact rfl
      · exact Below.refl _ _
      · exact IsOut
    refine ⟨fun u W hb hd K hK => ?_, ?_⟩
    · simp only [Facts, nthR, Is, and_true] at hd
      simp only [hd] at hK ⊢
      clear hd
      go_simp
      apply hK
      · simp only [Act.put, List.setIfInBounds_toArray, List.set_cons_zero, List.set_cons_succ]
        exact rfl
      · exact Below.refl _ _
      · exact IsOut
    refine ⟨fun u W hb hd K hK => ?_, ?_⟩
    · simp only [Facts, nthR, Is, and_true] at hd
      simp only [hd] at hK ⊢
      clear hd
      go_simp
      apply hK
      · simp only [Act.put, List.setIfInBounds_toArray, List.set_cons_zero, List.set_cons_succ]
        exact rfl
      · exact Below.refl _ _
      · exact IsOut
    exact trivial
  · exact (.is (.is (.is (.is (.is (.is (.is (.is (.is (.is (.is (.is (.is (.is (.is (.is (.is (.is (.is (.is (.is (.is (.is (.is (.is (.is (.is (.is (.is .nil)))))))))))))))))))))))))))))
  · intro u W hb hd
    simp only [Facts, nthR, Is, and_true] at hd
    simp only [hd]
    go_wp2
    go_ret
    exact ⟨rfl, hP.bw.trans (hb.mono hP.bw.size)⟩
theorem muls_any (m a b : P4) (w : World) (hm : m.ok) (ha : a.ok) (hb : b.ok) : Calls Try.prog 4 #[.agg #[.int .u64 (m.a : Int), .int .u64 (m.b : Int), .int .u64 (m.c : Int), .int .u64 (m.d : Int)], .agg #[.int .u64 (a.a : Int), .int .u64 (a.b : Int), .int .u64 (a.c : Int), .int .u64 (a.d : Int)], .agg #[.int .u64 (b.a : Int), .int .u64 (b.b : Int), .int .u64 (b.c : Int), .int .u64 (b.d : Int)]] w fun e w' => e = .returned (.bool true) ∧ Below w.heap.size w w' := by
  cases hr : rightP m with
  | true => exact muls_right m a b w hm ha hb hr
  | false => exact muls_wrong m a b w hm ha hb hr
end Go.Proofs.Ytcjdpllhaebapaa
