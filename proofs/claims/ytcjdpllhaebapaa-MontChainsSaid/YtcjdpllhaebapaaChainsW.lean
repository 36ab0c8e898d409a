/-
  The contracts of package mont's inner calls by a modulus: the walk of MontChains.
-/
import Derived.Test.YtcjdpllhaebapaaMk
import Derived.Test.YtcjdpllhaebapaaFresh
namespace Go.Proofs.Ytcjdpllhaebapaa
open Go.RowKit

theorem Inv_r (g : Nat) (m sq a : P4) (f : Nat) (w : World) (hM : Blk w g 54 (modCells m sq f)) (md : Md m sq f) (ha : a.ok) (h : Nat.gcd a.val m.val = 1) (i : P4) (hi : i = (isTo m a 512).i) :
    Calls Try.prog 29 #[.pointer (some ⟨g, 0, none⟩), .agg #[.int .u64 (a.a : Int), .int .u64 (a.b : Int), .int .u64 (a.c : Int), .int .u64 (a.d : Int)]] w fun e w' => e = .returned (.tuple #[.agg #[.int .u64 (i.a : Int), .int .u64 (i.b : Int), .int .u64 (i.c : Int), .int .u64 (i.d : Int)], .int .i64 0]) ∧ Below w.heap.size w w' := by
  obtain ⟨z, hz⟩ : ∃ z, Hid (z = isTo m a 512) := ⟨_, Lib.hid rfl⟩
  have hv := inv_val md ha hz
  rw [← hz.out] at hi
  rw [hi]
  exact Inv_ok g m sq a f z w hM md ha hz (hv.2.2.1.2 h)
theorem Inv_n (g : Nat) (m sq a : P4) (f : Nat) (w : World) (hM : Blk w g 54 (modCells m sq f)) (md : Md m sq f) (ha : a.ok) (h : Nat.gcd a.val m.val ≠ 1) :
    Calls Try.prog 29 #[.pointer (some ⟨g, 0, none⟩), .agg #[.int .u64 (a.a : Int), .int .u64 (a.b : Int), .int .u64 (a.c : Int), .int .u64 (a.d : Int)]] w fun e w' => e = .returned (.tuple #[.agg #[.int .u64 0, .int .u64 0, .int .u64 0, .int .u64 0], .int .i64 1]) ∧ Below w.heap.size w w' := by
  obtain ⟨z, hz⟩ : ∃ z, Hid (z = isTo m a 512) := ⟨_, Lib.hid rfl⟩
  have hv := inv_val md ha hz
  exact Inv_bad g m sq a f z w hM md ha hz fun e => h (hv.2.2.1.1 e)
theorem inv_spec {m sq a : P4} {f : Nat} (md : Md m sq f) (ha : a.ok) (h : Nat.gcd a.val m.val = 1) {i : P4} (hi : i = (isTo m a 512).i) : i.ok ∧ i.val < m.val ∧ a.val * i.val % m.val = 1 := by
  obtain ⟨z, hz⟩ : ∃ z, Hid (z = isTo m a 512) := ⟨_, Lib.hid rfl⟩
  have hv := inv_val md ha hz
  rw [← hz.out] at hi
  rw [hi]
  exact ⟨hv.1, hv.2.1, hv.2.2.2 (hv.2.2.1.2 h)⟩
set_option maxRecDepth 100000 in
set_option maxHeartbeats 400000 in
theorem chains_wrong (m a b : P4) (w : World) (hm : m.ok) (ha : a.ok) (hb : b.ok) (hr : rightP m = false) : Calls Try.prog 8 #[.agg #[.int .u64 (m.a : Int), .int .u64 (m.b : Int), .int .u64 (m.c : Int), .int .u64 (m.d : Int)], .agg #[.int .u64 (a.a : Int), .int .u64 (a.b : Int), .int .u64 (a.c : Int), .int .u64 (a.d : Int)], .agg #[.int .u64 (b.a : Int), .int .u64 (b.b : Int), .int .u64 (b.c : Int), .int .u64 (b.d : Int)]] w fun e w' => e = .returned (.bool true) ∧ Below w.heap.size w w' := by
  have HR := Lib.hid hr
  clear hr
  go_enter Try.func8, Try.ntmps8
  go_wp2_with fail
  have hP := Par.start w m a 24 #[.int .u64 (b.a : Int), .int .u64 (b.b : Int), .int .u64 (b.c : Int), .int .u64 (b.d : Int)] [.int .u64 (b.a : Int), .int .u64 (b.b : Int), .int .u64 (b.c : Int), .int .u64 (b.d : Int)] rfl
  generalize ((w.alloc (.cells #[.int .u64 (m.a : Int), .int .u64 (m.b : Int), .int .u64 (m.c : Int), .int .u64 (m.d : Int)] 24)).alloc (.cells #[.int .u64 (a.a : Int), .int .u64 (a.b : Int), .int .u64 (a.c : Int), .int .u64 (a.d : Int)] 24)).alloc (.cells #[.int .u64 (b.a : Int), .int .u64 (b.b : Int), .int .u64 (b.c : Int), .int .u64 (b.d : Int)] 24) = w1 at *
  refine (New_n m _ hm HR.out).mono ?_
  rintro e w2 ⟨rfl, hbx⟩
  replace hP := hP.below hbx
  clear hbx
  obtain ⟨m0, m1, m2, m3, a0, a1, a2, a3⟩ := hP.c
  go_wp2_with fail
  clear m0 m1 m2 m3 a0 a1 a2 a3
  refine (seven_any _).mono ?_
  rintro e w3 ⟨rfl, hbx⟩
  replace hP := hP.below hbx
  clear hbx
  obtain ⟨m0, m1, m2, m3, a0, a1, a2, a3⟩ := hP.c
  go_wp2_with fail
  clear m0 m1 m2 m3 a0 a1 a2 a3
  refine (right_t m false _ HR.out).mono ?_
  rintro e w4 ⟨rfl, hbx⟩
  replace hP := hP.below hbx
  clear hbx
  obtain ⟨m0, m1, m2, m3, a0, a1, a2, a3⟩ := hP.c
  go_wp2_with fail
  clear m0 m1 m2 m3 a0 a1 a2 a3
  refine (seven_any _).mono ?_
  rintro e w5 ⟨rfl, hbx⟩
  replace hP := hP.below hbx
  clear hbx
  go_wp2
  go_ret
  exact ⟨rfl, hP.bw⟩
set_option maxRecDepth 100000 in
set_option maxHeartbeats 400000 in
theorem chains_none (m a b : P4) (w : World) (hm : m.ok) (ha : a.ok) (hb : b.ok) (hc : Nat.gcd a.val m.val ≠ 1) (hr : rightP m = true) : Calls Try.prog 8 #[.agg #[.int .u64 (m.a : Int), .int .u64 (m.b : Int), .int .u64 (m.c : Int), .int .u64 (m.d : Int)], .agg #[.int .u64 (a.a : Int), .int .u64 (a.b : Int), .int .u64 (a.c : Int), .int .u64 (a.d : Int)], .agg #[.int .u64 (b.a : Int), .int .u64 (b.b : Int), .int .u64 (b.c : Int), .int .u64 (b.d : Int)]] w fun e w' => e = .returned (.bool true) ∧ Below w.heap.size w w' := by
  have HR := Lib.hid hr
  clear hr
  go_enter Try.func8, Try.ntmps8
  go_wp2_with fail
  have hP := Par.start w m a 24 #[.int .u64 (b.a : Int), .int .u64 (b.b : Int), .int .u64 (b.c : Int), .int .u64 (b.d : Int)] [.int .u64 (b.a : Int), .int .u64 (b.b : Int), .int .u64 (b.c : Int), .int .u64 (b.d : Int)] rfl
  generalize ((w.alloc (.cells #[.int .u64 (m.a : Int), .int .u64 (m.b : Int), .int .u64 (m.c : Int), .int .u64 (m.d : Int)] 24)).alloc (.cells #[.int .u64 (a.a : Int), .int .u64 (a.b : Int), .int .u64 (a.c : Int), .int .u64 (a.d : Int)] 24)).alloc (.cells #[.int .u64 (b.a : Int), .int .u64 (b.b : Int), .int .u64 (b.c : Int), .int .u64 (b.d : Int)] 24) = w1 at *
  refine (New_r m _ hm HR.out).mono ?_
  rintro e w2 ⟨g, sq, f, rfl, hg, hM, md, hbx⟩
  have lg : w.heap.size + 1 + 1 < g := Nat.lt_of_lt_of_le hP.bb.lt hg
  clear hg
  replace hP := hP.below hbx
  clear hbx
  obtain ⟨m0, m1, m2, m3, a0, a1, a2, a3⟩ := hP.c
  go_wp2_with fail
  clear m0 m1 m2 m3 a0 a1 a2 a3
  refine (seven_any _).mono ?_
  rintro e w3 ⟨rfl, hbx⟩
  replace hP := hP.below hbx
  replace hM := hM.below hbx hM.lt
  clear hbx
  obtain ⟨m0, m1, m2, m3, a0, a1, a2, a3⟩ := hP.c
  go_wp2_with fail
  clear m0 m1 m2 m3 a0 a1 a2 a3
  refine (right_t m true _ HR.out).mono ?_
  rintro e w4 ⟨rfl, hbx⟩
  replace hP := hP.below hbx
  replace hM := hM.below hbx hM.lt
  clear hbx
  obtain ⟨m0, m1, m2, m3, a0, a1, a2, a3⟩ := hP.c
  obtain ⟨b0, b1, b2, b3⟩ := hP.bb.four
  go_wp2_with fail
  refine (Inv_n g m sq a f _ hM md ha hc).mono ?_
  rintro e w5 ⟨rfl, hbx⟩
  replace hP := hP.below hbx
  replace hM := hM.below hbx hM.lt
  clear hbx
  obtain ⟨m0, m1, m2, m3, a0, a1, a2, a3⟩ := hP.c
  go_wp2
  go_ret
  exact ⟨rfl, hP.bw.alloc hP.bw.size _⟩
set_option maxRecDepth 100000 in
set_option maxHeartbeats 400000 in
theorem chains_some (m a b : P4) (w : World) (hm : m.ok) (ha : a.ok) (hb : b.ok) (hc : Nat.gcd a.val m.val = 1) (hr : rightP m = true) : Calls Try.prog 8 #[.agg #[.int .u64 (m.a : Int), .int .u64 (m.b : Int), .int .u64 (m.c : Int), .int .u64 (m.d : Int)], .agg #[.int .u64 (a.a : Int), .int .u64 (a.b : Int), .int .u64 (a.c : Int), .int .u64 (a.d : Int)], .agg #[.int .u64 (b.a : Int), .int .u64 (b.b : Int), .int .u64 (b.c : Int), .int .u64 (b.d : Int)]] w fun e w' => e = .returned (.bool true) ∧ Below w.heap.size w w' := by
  have HR := Lib.hid hr
  clear hr
  go_enter Try.func8, Try.ntmps8
  go_wp2_with fail
  have hP := Par.start w m a 24 #[.int .u64 (b.a : Int), .int .u64 (b.b : Int), .int .u64 (b.c : Int), .int .u64 (b.d : Int)] [.int .u64 (b.a : Int), .int .u64 (b.b : Int), .int .u64 (b.c : Int), .int .u64 (b.d : Int)] rfl
  generalize ((w.alloc (.cells #[.int .u64 (m.a : Int), .int .u64 (m.b : Int), .int .u64 (m.c : Int), .int .u64 (m.d : Int)] 24)).alloc (.cells #[.int .u64 (a.a : Int), .int .u64 (a.b : Int), .int .u64 (a.c : Int), .int .u64 (a.d : Int)] 24)).alloc (.cells #[.int .u64 (b.a : Int), .int .u64 (b.b : Int), .int .u64 (b.c : Int), .int .u64 (b.d : Int)] 24) = w1 at *
  refine (New_r m _ hm HR.out).mono ?_
  rintro e w2 ⟨g, sq, f, rfl, hg, hM, md, hbx⟩
  have lg : w.heap.size + 1 + 1 < g := Nat.lt_of_lt_of_le hP.bb.lt hg
  clear hg
  replace hP := hP.below hbx
  clear hbx
  obtain ⟨m0, m1, m2, m3, a0, a1, a2, a3⟩ := hP.c
  go_wp2_with fail
  clear m0 m1 m2 m3 a0 a1 a2 a3
  refine (seven_any _).mono ?_
  rintro e w3 ⟨rfl, hbx⟩
  replace hP := hP.below hbx
  replace hM := hM.below hbx hM.lt
  clear hbx
  obtain ⟨m0, m1, m2, m3, a0, a1, a2, a3⟩ := hP.c
  go_wp2_with fail
  clear m0 m1 m2 m3 a0 a1 a2 a3
  refine (right_t m true _ HR.out).mono ?_
  rintro e w4 ⟨rfl, hbx⟩
  replace hP := hP.below hbx
  replace hM := hM.below hbx hM.lt
  clear hbx
  obtain ⟨m0, m1, m2, m3, a0, a1, a2, a3⟩ := hP.c
  obtain ⟨b0, b1, b2, b3⟩ := hP.bb.four
  go_wp2_with fail
  obtain ⟨i, hi⟩ : ∃ i, i = (isTo m a 512).i := ⟨_, rfl⟩
  obtain ⟨iok, ilt, hai⟩ := inv_spec md ha hc hi
  have hci := inverse_coprime hai
  obtain ⟨j, hj⟩ : ∃ j, j = (isTo m i 512).i := ⟨_, rfl⟩
  obtain ⟨jok, jlt, hij⟩ := inv_spec md iok hci hj
  have e1 : j = redP m a.val := redP_of md.ok (by omega) jok (law_inverse hai hij jlt)
  have I0 := fun (W : World) (h : Blk W g 54 (modCells m sq f)) => Inv_r g m sq a f W h md ha hc i hi
  have I1 := fun (W : World) (h : Blk W g 54 (modCells m sq f)) => Inv_r g m sq i f W h md iok hci j hj
  rw [e1] at I1
  have K2 := fun (W : World) (h : Blk W g 54 (modCells m sq f)) => Mul_v g m sq (redP m (b.val * a.val)) i f W h md (redP_ok _ _) iok
  rw [show redP m ((redP m (b.val * a.val)).val * i.val) = redP m b.val from redP_congr (by rw [redP_val md.ok (by omega), law_chain hai])] at K2
  clear e1 hi hj jok jlt hij hai hci
  refine (I0 _ hM).mono ?_
  rintro e w5 ⟨rfl, hbx⟩
  replace hP := hP.below hbx
  replace hM := hM.below hbx hM.lt
  clear hbx I0
  obtain ⟨m0, m1, m2, m3, a0, a1, a2, a3⟩ := hP.c
  have hQ := Blk.new_of w5 24 #[.int .u64 (i.a : Int), .int .u64 (i.b : Int), .int .u64 (i.c : Int), .int .u64 (i.d : Int)] [.int .u64 (i.a : Int), .int .u64 (i.b : Int), .int .u64 (i.c : Int), .int .u64 (i.d : Int)] rfl
  go_wp2_with fail
  clear m0 m1 m2 m3 a0 a1 a2 a3 b0 b1 b2 b3
  refine (I1 _ (hM.alloc _)).mono ?_
  rintro e w6 ⟨rfl, hbx⟩
  replace hP := (hP.alloc (.cells #[.int .u64 (i.a : Int), .int .u64 (i.b : Int), .int .u64 (i.c : Int), .int .u64 (i.d : Int)] 24)).below hbx
  replace hM := (hM.alloc (.cells #[.int .u64 (i.a : Int), .int .u64 (i.b : Int), .int .u64 (i.c : Int), .int .u64 (i.d : Int)] 24)).below hbx (hM.alloc (.cells #[.int .u64 (i.a : Int), .int .u64 (i.b : Int), .int .u64 (i.c : Int), .int .u64 (i.d : Int)] 24)).lt
  replace hQ := hQ.below hbx hQ.lt
  clear hbx I1
  have lg5 := hQ.lt
  go_wp2
  replace hM := hM.alloc (.cells #[.int .u64 ((redP m a.val).a : Int), .int .u64 ((redP m a.val).b : Int), .int .u64 ((redP m a.val).c : Int), .int .u64 ((redP m a.val).d : Int)] 24)
  replace hP := hP.alloc (.cells #[.int .u64 ((redP m a.val).a : Int), .int .u64 ((redP m a.val).b : Int), .int .u64 ((redP m a.val).c : Int), .int .u64 ((redP m a.val).d : Int)] 24)
  have hJ := Blk.new_of w6 24 #[.int .u64 ((redP m a.val).a : Int), .int .u64 ((redP m a.val).b : Int), .int .u64 ((redP m a.val).c : Int), .int .u64 ((redP m a.val).d : Int)] [.int .u64 ((redP m a.val).a : Int), .int .u64 ((redP m a.val).b : Int), .int .u64 ((redP m a.val).c : Int), .int .u64 ((redP m a.val).d : Int)] rfl
  replace hQ := hQ.alloc (.cells #[.int .u64 ((redP m a.val).a : Int), .int .u64 ((redP m a.val).b : Int), .int .u64 ((redP m a.val).c : Int), .int .u64 ((redP m a.val).d : Int)] 24)
  generalize w6.alloc (.cells #[.int .u64 ((redP m a.val).a : Int), .int .u64 ((redP m a.val).b : Int), .int .u64 ((redP m a.val).c : Int), .int .u64 ((redP m a.val).d : Int)] 24) = w7 at *
  have lM := hM.lt
  have hP8 := fun (V : World) (h : Below w7.heap.size w7 V) => (hP.below h).c
  have hB4 := fun (V : World) (h : Below w7.heap.size w7 V) => (hP.below h).bb.four
  have hE23 := eqS23
  have hE24 := eqS24
  have lQ := hQ.lt
  have lJ := hJ.lt
  have hQ4 := fun (V : World) (h : Below w7.heap.size w7 V) => (hQ.below h lQ).four
  have hJ4 := fun (V : World) (h : Below w7.heap.size w7 V) => (hJ.below h lJ).four
  have K0 := fun (W : World) (h : Blk W g 54 (modCells m sq f)) => Rest_v g m sq a f W h md ha
  have K1 := fun (W : World) (h : Blk W g 54 (modCells m sq f)) => Mul_v g m sq b a f W h md hb ha
  have K3 := fun (W : World) (h : Blk W g 54 (modCells m sq f)) => Rest_v g m sq b f W h md hb
  generalize redP m (b.val * a.val) = p at *
  generalize redP m a.val = r at *
  generalize redP m b.val = s at *
  apply wp_region_once (D := [[], [0], [0, 1], [0, 1, 2], [0, 1, 2], [0, 1, 2], [0, 1, 2, 4, 5], [0, 1, 2, 3, 4, 5, 6], [0, 1, 2, 3, 4, 5, 6, 7], [0, 1, 2, 3, 4, 5, 6, 7, 8], [0, 1, 2, 3, 4, 5, 6, 7, 8, 9], [0, 1, 2, 3, 4, 5, 6, 7, 8, 9], [0, 1, 2, 3, 4, 5, 6, 7, 8, 9], [0, 1, 2, 3, 4, 5, 6, 7, 8, 9], [0, 1, 2, 3, 4, 5, 6, 7, 8, 9, 11, 12, 13], [0, 1, 2, 3, 4, 5, 6, 7, 8, 9], [0, 1, 2, 3, 4, 5, 6, 7, 8, 9, 10, 11, 12, 13, 14, 15], [0, 1, 2, 3, 4, 5, 6, 7, 8, 9], [0, 1, 2, 3, 4, 5, 6, 7, 8, 9], [0, 1, 2, 3, 4, 5, 6, 7, 8, 9, 10, 11, 12, 13, 14, 15, 16, 17, 18], [0, 1, 2, 3, 4, 5, 6, 7, 8, 9, 10, 11, 12, 13, 14, 15, 16, 17, 18, 19], [0, 1, 2, 3, 4, 5, 6, 7, 8, 9, 10, 11, 12, 13, 14, 15, 16, 17, 18, 19, 20], [0, 1, 2, 3, 4, 5, 6, 7, 8, 9, 10, 11, 12, 13, 14, 15, 16, 17, 18, 19, 20, 21]]) (J := [[], [0], [1], [2], [2], [2], [2, 4, 5], [2, 3, 6], [2, 7], [8], [9], [9], [9], [9], [9, 11, 12, 13], [9], [9, 10, 14, 15], [9], [9], [9, 17, 18], [9, 16, 19], [9, 20], [21]]) (Je := [22]) (Rs := [Is _, Is _, Is _, Is _, Is _, Is _, Is _, Is _, Is _, Is _, Is _, Is _, Is _, Is _, Is _, Is _, Is _, Is _, Is _, Is _, Is _, Is _, Is _])
  · kernel_rfl
  · kernel_rfl
  · kernel_rfl
  · kernel_rfl
  · kernel_rfl
  · kernel_rfl
  · intro u
    simp only [List.map_cons, List.map_nil, fillU, List.setIfInBounds_toArray, List.set_cons_zero, List.set_cons_succ, Nat.zero_add, Nat.reduceAdd]
    exact rfl
  · skip
    refine ⟨fun u W hb hd K hK => ?_, ?_⟩
    · clear hd
      go_simp
      apply hK
      · simp only [Act.put, List.setIfInBounds_toArray, List.set_cons_zero, List.set_cons_succ]
        exact rfl
      · exact Below.refl _ _
      · exact IsOut
    refine ⟨fun u W hb hd K hK => ?_, ?_⟩
    · simp only [Facts, nthR, Is, and_true] at hd
      simp only [hd] at hK ⊢
      clear hd
      go_simp
      apply hK
      · simp only [Act.put, List.setIfInBounds_toArray, List.set_cons_zero, List.set_cons_succ]
        exact rfl
      · exact Below.refl _ _
      · exact IsOut
    refine ⟨fun u W hb hd K hK => ?_, ?_⟩
    · simp only [Facts, nthR, Is, and_true] at hd
      simp only [hd] at hK ⊢
      clear hd
      go_simp
      apply hK
      · simp only [Act.put, List.setIfInBounds_toArray, List.set_cons_zero, List.set_cons_succ]
        exact rfl
      · exact Below.refl _ _
      · exact IsOut
    refine ⟨fun u W hb hd K hK => ?_, ?_⟩
    · simp only [Facts, nthR, Is, and_true] at hd
      simp only [hd] at hK ⊢
      clear hd
      go_simp
      apply hK
      · simp only [Act.put, List.setIfInBounds_toArray, List.set_cons_zero, List.set_cons_succ]
        exact rfl
      · exact Below.refl _ _
      · exact IsOut
    refine ⟨fun u W hb hd K hK => ?_, ?_⟩
    · simp only [Facts, nthR, Is, and_true] at hd
      simp only [hd] at hK ⊢
      clear hd
      go_simp
      apply hK
      · simp only [Act.put, List.setIfInBounds_toArray, List.set_cons_zero, List.set_cons_succ]
        exact rfl
      · exact Below.refl _ _
      · exact IsOut
    refine ⟨fun u W hb hd K hK => ?_, ?_⟩
    · simp only [Facts, nthR, Is, and_true] at hd
      simp only [hd] at hK ⊢
      clear hd
      go_simp
      apply hK
      · simp only [Act.put, List.setIfInBounds_toArray, List.set_cons_zero, List.set_cons_succ]
        exact rfl
      · exact Below.refl _ _
      · exact IsOut
    refine ⟨fun u W hb hd K hK => ?_, ?_⟩
    · simp only [Facts, nthR, Is, and_true] at hd
      simp only [hd] at hK ⊢
      clear hd
      go_simp
      refine (K0 W (hM.below hb lM)).mono ?_
      rintro e wy ⟨rfl, hby⟩
      exact hK _ _ _ rfl hby IsOut
    refine ⟨fun u W hb hd K hK => ?_, ?_⟩
    · simp only [Facts, nthR, Is, and_true] at hd
      simp only [hd] at hK ⊢
      clear hd
      go_simp
      apply hK
      · simp only [Act.put, List.setIfInBounds_toArray, List.set_cons_zero, List.set_cons_succ]
        exact rfl
      · exact Below.refl _ _
      · exact IsOut
    refine ⟨fun u W hb hd K hK => ?_, ?_⟩
    · simp only [Facts, nthR, Is, and_true] at hd
      simp only [hd] at hK ⊢
      clear hd
      go_simp
      apply hK
      · simp only [Act.put, List.setIfInBounds_toArray, List.set_cons_zero, List.set_cons_succ]
        exact rfl
      · exact Below.refl _ _
      · exact IsOut
    refine ⟨fun u W hb hd K hK => ?_, ?_⟩
    · simp only [Facts, nthR, Is, and_true] at hd
      simp only [hd] at hK ⊢
      clear hd
      go_simp
      apply hK
      · simp only [Act.put, List.setIfInBounds_toArray, List.set_cons_zero, List.set_cons_succ]
        exact rfl
      · exact Below.refl _ _
      · exact IsOut
    refine ⟨fun u W hb hd K hK => ?_, ?_⟩
    · simp only [Facts, nthR, Is, and_true] at hd
      simp only [hd] at hK ⊢
      clear hd
      go_simp
      apply hK
      · simp only [Act.put, List.setIfInBounds_toArray, List.set_cons_zero, List.set_cons_succ]
        exact rfl
      · exact Below.refl _ _
      · exact IsOut
    refine ⟨fun u W hb hd K hK => ?_, ?_⟩
    · simp only [Facts, nthR, Is, and_true] at hd
      simp only [hd] at hK ⊢
      clear hd
      go_simp
      apply hK
      · simp only [Act.put, List.setIfInBounds_toArray, List.set_cons_zero, List.set_cons_succ]
        exact rfl
      · exact Below.refl _ _
      · exact IsOut
    refine ⟨fun u W hb hd K hK => ?_, ?_⟩
    · simp only [Facts, nthR, Is, and_true] at hd
      simp only [hd] at hK ⊢
      clear hd
      go_simp
      apply hK
      · simp only [Act.put, List.setIfInBounds_toArray, List.set_cons_zero, List.set_cons_succ]
        exact rfl
      · exact Below.refl _ _
      · exact IsOut
    refine ⟨fun u W hb hd K hK => ?_, ?_⟩
    · simp only [Facts, nthR, Is, and_true] at hd
      simp only [hd] at hK ⊢
      clear hd
      go_simp
      apply hK
      · simp only [Act.put, List.setIfInBounds_toArray, List.set_cons_zero, List.set_cons_succ]
        exact rfl
      · exact Below.refl _ _
      · exact IsOut
    refine ⟨fun u W hb hd K hK => ?_, ?_⟩
    · simp only [Facts, nthR, Is, and_true] at hd
      simp only [hd] at hK ⊢
      clear hd
      go_simp
      refine (K1 W (hM.below hb lM)).mono ?_
      rintro e wy ⟨rfl, hby⟩
      exact hK _ _ _ rfl hby IsOut
    refine ⟨fun u W hb hd K hK => ?_, ?_⟩
    · simp only [Facts, nthR, Is, and_true] at hd
      simp only [hd] at hK ⊢
      clear hd
      go_simp
      apply hK
      · simp only [Act.put, List.setIfInBounds_toArray, List.set_cons_zero, List.set_cons_succ]
        exact rfl
      · exact Below.refl _ _
      · exact IsOut
    refine ⟨fun u W hb hd K hK => ?_, ?_⟩
    · simp only [Facts, nthR, Is, and_true] at hd
      simp only [hd] at hK ⊢
      clear hd
      go_simp
      refine (K2 W (hM.below hb lM)).mono ?_
      rintro e wy ⟨rfl, hby⟩
      exact hK _ _ _ rfl hby IsOut
    refine ⟨fun u W hb hd K hK => ?_, ?_⟩
    · simp only [Facts, nthR, Is, and_true] at hd
      simp only [hd] at hK ⊢
      clear hd
      go_simp
      apply hK
      · simp only [Act.put, List.setIfInBounds_toArray, List.set_cons_zero, List.set_cons_succ]
        exact rfl
      · exact Below.refl _ _
      · exact IsOut
    refine ⟨fun u W hb hd K hK => ?_, ?_⟩
    · simp only [Facts, nthR, Is, and_true] at hd
      simp only [hd] at hK ⊢
      clear hd
      go_simp
      apply hK
      · simp only [Act.put, List.setIfInBounds_toArray, List.set_cons_zero, List.set_cons_succ]
        exact rfl
      · exact Below.refl _ _
      · exact IsOut
    refine ⟨fun u W hb hd K hK => ?_, ?_⟩
    · simp only [Facts, nthR, Is, and_true] at hd
      simp only [hd] at hK ⊢
      clear hd
      go_simp
      refine (K3 W (hM.below hb lM)).mono ?_
      rintro e wy ⟨rfl, hby⟩
      exact hK _ _ _ rfl hby IsOut
    refine ⟨fun u W hb hd K hK => ?_, ?_⟩
    · simp only [Facts, nthR, Is, and_true] at hd
      simp only [hd] at hK ⊢
      clear hd
      go_simp
      apply hK
      · simp only [Act.put, List.setIfInBounds_toArray, List.set_cons_zero, List.set_cons_succ]
        exact rfl
      · exact Below.refl _ _
      · exact IsOut
    refine ⟨fun u W hb hd K hK => ?_, ?_⟩
    · simp only [Facts, nthR, Is, and_true] at hd
      simp only [hd] at hK ⊢
      clear hd
      go_simp
      apply hK
      · simp only [Act.put, List.setIfInBounds_toArray, List.set_cons_zero, List.set_cons_succ]
        exact rfl
      · exact Below.refl _ _
      · exact IsOut
    refine ⟨fun u W hb hd K hK => ?_, ?_⟩
    · simp only [Facts, nthR, Is, and_true] at hd
      simp only [hd] at hK ⊢
      clear hd
      go_simp
      apply hK
      · simp only [Act.put, List.setIfInBounds_toArray, List.set_cons_zero, List.set_cons_succ]
        exact rfl
      · exact Below.refl _ _
      · exact IsOut
    exact trivial
  · exact (.is (.is (.is (.is (.is (.is (.is (.is (.is (.is (.is (.is (.is (.is (.is (.is (.is (.is (.is (.is (.is (.is (.is .nil)))))))))))))))))))))))
  · intro u W hb hd
    simp only [Facts, nthR, Is, and_true] at hd
    simp only [hd]
    go_wp2
    go_ret
    exact ⟨rfl, hP.bw.trans (hb.mono hP.bw.size)⟩
theorem chains_any (m a b : P4) (w : World) (hm : m.ok) (ha : a.ok) (hb : b.ok) : Calls Try.prog 8 #[.agg #[.int .u64 (m.a : Int), .int .u64 (m.b : Int), .int .u64 (m.c : Int), .int .u64 (m.d : Int)], .agg #[.int .u64 (a.a : Int), .int .u64 (a.b : Int), .int .u64 (a.c : Int), .int .u64 (a.d : Int)], .agg #[.int .u64 (b.a : Int), .int .u64 (b.b : Int), .int .u64 (b.c : Int), .int .u64 (b.d : Int)]] w fun e w' => e = .returned (.bool true) ∧ Below w.heap.size w w' := by
  cases hr : rightP m with
  | true =>
    by_cases hc : Nat.gcd a.val m.val = 1
    · exact chains_some m a b w hm ha hb hc hr
    · exact chains_none m a b w hm ha hb hc hr
  | false => exact chains_wrong m a b w hm ha hb hr
end Go.Proofs.Ytcjdpllhaebapaa
