/-
  Package hello's fits: have a message's parts their sizes?
-/
import Derived.Test.YtagblbfbjemfhaaDoorHm
namespace Go.Proofs.YtagblbfbjemfhaaDoor
open Go.RowKit
open HelloMath (numB numB_length vecB vecB_length Msg isKind sized wide kinds zero32 some8 okF okM fitM formM special)

set_option maxRecDepth 100000 in
set_option maxHeartbeats 400000 in
theorem fits2a (m : Msg) (g : Nat) (w : World) (hT : TabH w) (hM : MAt w g m) (hk : m.kind = 2) (y1 : Hid (sized m.ses 0 32 = false)) : Calls Tryd.prog 35 #[.pointer (some ⟨g, 0, none⟩)] w fun e w' => e = .returned (.bool false) ∧ Below w.heap.size w w' := by
  have hc := hM.kind
  rw [hk] at hc
  have hl := hM.lens
  go_enter Tryd.func35, Tryd.ntmps35
  have hb0 : Below w.heap.size w w := Below.refl _ _
  go_upto_region 5 with (fail)
  apply wp_region_once_tailK (m := 27) (Z := []) (D := [[], [0], [0, 1], [0, 1, 2], [0, 1, 2, 3], [0, 1, 2, 3, 4], [0, 1, 2, 3, 4, 5], [0, 1, 2, 3, 4, 5, 6], [0, 1, 2, 3, 4, 5, 6, 7], [0, 1, 2, 3, 4, 5, 6, 7, 8], [0, 1, 2, 3, 4, 5, 6, 7, 8, 9], [0, 1, 2, 3, 4, 5, 6, 7, 8, 9, 10], [0, 1, 2, 3, 4, 5, 6, 7, 8, 9, 10, 11], [0, 1, 2, 3, 4, 5, 6, 7, 8, 9, 10, 11, 12], [0, 1, 2, 3, 4, 5, 6, 7, 8, 9, 10, 11, 12, 13], [0, 1, 2, 3, 4, 5, 6, 7, 8, 9, 10, 11, 12, 13, 14], [0, 1, 2, 3, 4, 5, 6, 7, 8, 9, 10, 11, 12, 13, 14, 15], [0, 1, 2, 3, 4, 5, 6, 7, 8, 9, 10, 11, 12, 13, 14, 15, 16], [0, 1, 2, 3, 4, 5, 6, 7, 8, 9, 10, 11, 12, 13, 14, 15, 16, 17], [0, 1, 2, 3, 4, 5, 6, 7, 8, 9, 10, 11, 12, 13, 14, 15, 16, 17, 18], [0, 1, 2, 3, 4, 5, 6, 7, 8, 9, 10, 11, 12, 13, 14, 15, 16, 17, 18, 19], [0, 1, 2, 3, 4, 5, 6, 7, 8, 9, 10, 11, 12, 13, 14, 15, 16, 17, 18, 19, 20], [0, 1, 2, 3, 4, 5, 6, 7, 8, 9, 10, 11, 12, 13, 14, 15, 16, 17], [0, 1, 2, 3, 4, 5, 6, 7, 8, 9, 10, 11, 12, 13, 14, 15, 16, 17, 18, 19, 20, 21, 22], [0, 1, 2, 3, 4, 5, 6, 7, 8, 9, 10, 11, 12, 13, 14, 15, 16, 17, 18, 19, 20, 21, 22, 23], [0, 1, 2, 3, 4, 5, 6, 7, 8, 9, 10, 11, 12, 13, 14, 15, 16, 17, 18, 19, 20, 21, 22, 23, 24], [0, 1, 2, 3, 4, 5, 6, 7, 8, 9, 10, 11, 12, 13, 14, 15, 16, 17, 18, 19, 20, 21, 22, 23, 24, 25], [0, 1, 2, 3, 4, 5, 6, 7, 8, 9, 10, 11, 12, 13, 14, 15, 16, 17, 18, 19, 20, 21, 22, 23, 24, 25, 26]]) (J := [[], [0], [1], [2], [3], [4], [5], [5, 6], [5, 7], [5, 8], [5, 9], [10], [10, 11], [10, 12], [10, 13], [10, 14], [10, 15], [10, 16], [17], [17, 18], [17, 19], [17, 20], [17], [17, 21, 22], [10, 17, 23], [5, 10, 24], [5, 25]]) (Je := [26]) (Rs := [Is _, Is _, Is _, fun v V => SlV V v (m.ses), Is _, Is _, Is _, Is _, Is _, Is _, Is _, Is _, Is _, Is _, Is _, Is _, Is _, Is _, Is _, Is _, Is _, Is _, Is _, Is _, Is _, Is _, Is _])
  · kernel_rfl
  · kernel_rfl
  · kernel_rfl
  · kernel_rfl
  · kernel_rfl
  · kernel_rfl
  · kernel_rfl
  · exact fun h => absurd rfl h
  · intro u
    simp only [List.take_succ_cons, List.take_zero, List.map_cons, List.map_nil, fillU, List.setIfInBounds_toArray, List.set_cons_zero, List.set_cons_succ, Nat.reduceAdd]
    exact rfl
  · simp only [List.take_succ_cons, List.take_zero]
    refine ⟨fun u W hb hd K hK => ?_, ?_⟩
    · clear hd
      go_simp
      apply hK
      · simp only [Act.put, zSa, zSz, zSs]
        exact rfl
      · exact CB.refl _ _
      · exact IsOut
    refine ⟨fun u W hb hd K hK => ?_, ?_⟩
    · simp only [Facts, nthR, Is, and_true] at hd
      have h0 := hd
      clear hd
      simp only [h0] at hK ⊢
      go_simp
      apply hK
      · simp only [Act.put, zSa, zSz, zSs]
        exact rfl
      · exact CB.refl _ _
      · exact IsOut
    refine ⟨fun u W hb hd K hK => ?_, ?_⟩
    · simp only [Facts, nthR, Is, and_true] at hd
      have h1 := hd
      clear hd
      simp only [h1] at hK ⊢
      go_simp
      apply hK
      · simp only [Act.put, zSa, zSz, zSs]
        exact rfl
      · exact CB.refl _ _
      · exact IsOut
    refine ⟨fun u W hb hd K hK => ?_, ?_⟩
    · simp only [Facts, nthR, Is, and_true] at hd
      have h2 := hd
      clear hd
      simp only [h2] at hK ⊢
      obtain ⟨v, hc, hv⟩ := (hM.below hb).ses
      go_simp
      exact hK _ _ _ rfl (CB.refl _ _) hv
    refine ⟨fun u W hb hd K hK => ?_, ?_⟩
    · simp only [Facts, nthR, and_true] at hd
      have h3 := hd
      clear hd
      go_simp
      refine (sized_e _ m.ses 0 32 _ h3).mono ?_
      rintro e wy ⟨rfl, hby⟩
      rw [y1.out]
      exact hK _ _ _ rfl (CB.of hby hb.size) IsOut
    refine ⟨fun u W hb hd K hK => ?_, ?_⟩
    · simp only [Facts, nthR, Is, and_true] at hd
      have h4 := hd
      clear hd
      simp only [h4] at hK ⊢
      go_simp
      apply hK
      · simp only [Act.put, zSa, zSz, zSs]
        exact rfl
      · exact CB.refl _ _
      · exact IsOut
    refine ⟨fun u W hb hd K hK => ?_, ?_⟩
    · simp only [Facts, nthR, Is, and_true] at hd
      have h5 := hd
      clear hd
      simp only [h5] at hK ⊢
      go_simp
      apply hK
      · simp only [Act.put, zSa, zSz, zSs]
        exact rfl
      · exact CB.refl _ _
      · exact IsOut
    refine ⟨fun u W hb hd K hK => ?_, ?_⟩
    · simp only [Facts, nthR, Is, and_true] at hd
      obtain ⟨h5, h6⟩ := hd
      simp only [h5, h6] at hK ⊢
      go_simp
      apply hK
      · simp only [Act.put, zSa, zSz, zSs]
        exact rfl
      · exact CB.refl _ _
      · exact IsOut
    refine ⟨fun u W hb hd K hK => ?_, ?_⟩
    · simp only [Facts, nthR, Is, and_true] at hd
      obtain ⟨h5, h7⟩ := hd
      simp only [h5, h7] at hK ⊢
      go_simp
      apply hK
      · simp only [Act.put, zSa, zSz, zSs]
        exact rfl
      · exact CB.refl _ _
      · exact IsOut
    refine ⟨fun u W hb hd K hK => ?_, ?_⟩
    · simp only [Facts, nthR, Is, and_true] at hd
      obtain ⟨h5, h8⟩ := hd
      simp only [h5, h8] at hK ⊢
      go_simp
      apply hK
      · simp only [Act.put, zSa, zSz, zSs]
        exact rfl
      · exact CB.refl _ _
      · exact IsOut
    refine ⟨fun u W hb hd K hK => ?_, ?_⟩
    · simp only [Facts, nthR, Is, and_true] at hd
      obtain ⟨h5, h9⟩ := hd
      simp only [h5, h9] at hK ⊢
      go_simp
      apply hK
      · simp only [Act.put, zSa, zSz, zSs]
        exact rfl
      · exact CB.refl _ _
      · exact IsOut
    refine ⟨fun u W hb hd K hK => ?_, ?_⟩
    · simp only [Facts, nthR, Is, and_true] at hd
      have h10 := hd
      clear hd
      simp only [h10] at hK ⊢
      go_simp
      apply hK
      · simp only [Act.put, zSa, zSz, zSs]
        exact rfl
      · exact CB.refl _ _
      · exact IsOut
    refine ⟨fun u W hb hd K hK => ?_, ?_⟩
    · simp only [Facts, nthR, Is, and_true] at hd
      obtain ⟨h10, h11⟩ := hd
      simp only [h10, h11] at hK ⊢
      go_simp
      apply hK
      · simp only [Act.put, zSa, zSz, zSs]
        exact rfl
      · exact CB.refl _ _
      · exact IsOut
    refine ⟨fun u W hb hd K hK => ?_, ?_⟩
    · simp only [Facts, nthR, Is, and_true] at hd
      obtain ⟨h10, h12⟩ := hd
      simp only [h10, h12] at hK ⊢
      go_simp
      apply hK
      · simp only [Act.put, zSa, zSz, zSs]
        exact rfl
      · exact CB.refl _ _
      · exact IsOut
    refine ⟨fun u W hb hd K hK => ?_, ?_⟩
    · simp only [Facts, nthR, Is, and_true] at hd
      obtain ⟨h10, h13⟩ := hd
      simp only [h10, h13] at hK ⊢
      go_simp
      apply hK
      · simp only [Act.put, zSa, zSz, zSs]
        exact rfl
      · exact CB.refl _ _
      · exact IsOut
    refine ⟨fun u W hb hd K hK => ?_, ?_⟩
    · simp only [Facts, nthR, Is, and_true] at hd
      obtain ⟨h10, h14⟩ := hd
      simp only [h10, h14] at hK ⊢
      go_simp
      apply hK
      · simp only [Act.put, zSa, zSz, zSs]
        exact rfl
      · exact CB.refl _ _
      · exact IsOut
    refine ⟨fun u W hb hd K hK => ?_, ?_⟩
    · simp only [Facts, nthR, Is, and_true] at hd
      obtain ⟨h10, h15⟩ := hd
      simp only [h10, h15] at hK ⊢
      go_simp
      apply hK
      · simp only [Act.put, zSa, zSz, zSs]
        exact rfl
      · exact CB.refl _ _
      · exact IsOut
    refine ⟨fun u W hb hd K hK => ?_, ?_⟩
    · simp only [Facts, nthR, Is, and_true] at hd
      obtain ⟨h10, h16⟩ := hd
      simp only [h10, h16] at hK ⊢
      go_simp
      apply hK
      · simp only [Act.put, zSa, zSz, zSs]
        exact rfl
      · exact CB.refl _ _
      · exact IsOut
    refine ⟨fun u W hb hd K hK => ?_, ?_⟩
    · simp only [Facts, nthR, Is, and_true] at hd
      have h17 := hd
      clear hd
      simp only [h17] at hK ⊢
      go_simp
      apply hK
      · simp only [Act.put, zSa, zSz, zSs]
        exact rfl
      · exact CB.refl _ _
      · exact IsOut
    refine ⟨fun u W hb hd K hK => ?_, ?_⟩
    · simp only [Facts, nthR, Is, and_true] at hd
      obtain ⟨h17, h18⟩ := hd
      simp only [h17, h18] at hK ⊢
      go_simp
      apply hK
      · simp only [Act.put, zSa, zSz, zSs]
        exact rfl
      · exact CB.refl _ _
      · exact IsOut
    refine ⟨fun u W hb hd K hK => ?_, ?_⟩
    · simp only [Facts, nthR, Is, and_true] at hd
      obtain ⟨h17, h19⟩ := hd
      simp only [h17, h19] at hK ⊢
      go_simp
      apply hK
      · simp only [Act.put, zSa, zSz, zSs]
        exact rfl
      · exact CB.refl _ _
      · exact IsOut
    refine ⟨fun u W hb hd K hK => ?_, ?_⟩
    · simp only [Facts, nthR, Is, and_true] at hd
      obtain ⟨h17, h20⟩ := hd
      simp only [h17, h20] at hK ⊢
      go_simp
      apply hK
      · simp only [Act.put, zSa, zSz, zSs]
        exact rfl
      · exact CB.refl _ _
      · exact IsOut
    refine ⟨fun u W hb hd K hK => ?_, ?_⟩
    · simp only [Facts, nthR, Is, and_true] at hd
      have h17 := hd
      clear hd
      simp only [h17] at hK ⊢
      go_simp
      apply hK
      · simp only [Act.put, zSa, zSz, zSs]
        exact rfl
      · exact CB.refl _ _
      · exact IsOut
    refine ⟨fun u W hb hd K hK => ?_, ?_⟩
    · simp only [Facts, nthR, Is, and_true] at hd
      obtain ⟨h17, h21, h22⟩ := hd
      simp only [h17, h21, h22] at hK ⊢
      go_simp
      apply hK
      · simp only [Act.put, zSa, zSz, zSs]
        exact rfl
      · exact CB.refl _ _
      · exact IsOut
    refine ⟨fun u W hb hd K hK => ?_, ?_⟩
    · simp only [Facts, nthR, Is, and_true] at hd
      obtain ⟨h10, h17, h23⟩ := hd
      simp only [h10, h17, h23] at hK ⊢
      go_simp
      apply hK
      · simp only [Act.put, zSa, zSz, zSs]
        exact rfl
      · exact CB.refl _ _
      · exact IsOut
    refine ⟨fun u W hb hd K hK => ?_, ?_⟩
    · simp only [Facts, nthR, Is, and_true] at hd
      obtain ⟨h5, h10, h24⟩ := hd
      simp only [h5, h10, h24] at hK ⊢
      go_simp
      apply hK
      · simp only [Act.put, zSa, zSz, zSs]
        exact rfl
      · exact CB.refl _ _
      · exact IsOut
    refine ⟨fun u W hb hd K hK => ?_, ?_⟩
    · simp only [Facts, nthR, Is, and_true] at hd
      obtain ⟨h5, h25⟩ := hd
      simp only [h5, h25] at hK ⊢
      go_simp
      apply hK
      · simp only [Act.put, zSa, zSz, zSs]
        exact rfl
      · exact CB.refl _ _
      · exact IsOut
    exact trivial
  · skip
    exact trivial
  · exact (.is (.is (.is (.cons (fun _ _ _ h hb => h.cb hb) (.is (.is (.is (.is (.is (.is (.is (.is (.is (.is (.is (.is (.is (.is (.is (.is (.is (.is (.is (.is (.is (.is (.is .nil)))))))))))))))))))))))))))
  intro u w1 hb hd
  simp only [List.drop_succ_cons, List.drop_zero]
  simp only [Facts, nthR, Is, and_true] at hd
  have h26 := hd
  clear hd
  simp only [h26]
  clear h26
  replace hM := hM.below hb
  replace hT := hT.below hb
  replace hb0 := hb0.trans (hb.mono hb0.size)
  clear hb
  go_wp2
  refine bodyPost_ret (results_tmp Tryd.results35 _ _ _) rfl ?_
  exact ⟨rfl, hb0⟩
set_option maxRecDepth 100000 in
set_option maxHeartbeats 400000 in
theorem fits2b (m : Msg) (g : Nat) (w : World) (hT : TabH w) (hM : MAt w g m) (hk : m.kind = 2) (y1 : Hid (sized m.ses 0 32 = true))(y8 : Hid (m.retry = true)) : Calls Tryd.prog 35 #[.pointer (some ⟨g, 0, none⟩)] w fun e w' => e = .returned (.bool true) ∧ Below w.heap.size w w' := by
  have hc := hM.kind
  rw [hk] at hc
  have hl := hM.lens
  go_enter Tryd.func35, Tryd.ntmps35
  have hb0 : Below w.heap.size w w := Below.refl _ _
  go_upto_region 5 with (fail)
  apply wp_region_once_tailK (m := 27) (Z := []) (D := [[], [0], [0, 1], [0, 1, 2], [0, 1, 2, 3], [0, 1, 2, 3, 4], [0, 1, 2, 3, 4, 5], [0, 1, 2, 3, 4, 5, 6], [0, 1, 2, 3, 4, 5, 6, 7], [0, 1, 2, 3, 4, 5, 6, 7, 8], [0, 1, 2, 3, 4, 5, 6, 7, 8, 9], [0, 1, 2, 3, 4, 5, 6, 7, 8, 9, 10], [0, 1, 2, 3, 4, 5, 6, 7, 8, 9, 10, 11], [0, 1, 2, 3, 4, 5, 6, 7, 8, 9, 10, 11, 12], [0, 1, 2, 3, 4, 5, 6, 7, 8, 9, 10, 11, 12, 13], [0, 1, 2, 3, 4, 5, 6, 7, 8, 9, 10, 11, 12, 13, 14], [0, 1, 2, 3, 4, 5, 6, 7, 8, 9, 10, 11, 12, 13, 14, 15], [0, 1, 2, 3, 4, 5, 6, 7, 8, 9, 10, 11, 12, 13, 14, 15, 16], [0, 1, 2, 3, 4, 5, 6, 7, 8, 9, 10, 11, 12, 13, 14, 15, 16, 17], [0, 1, 2, 3, 4, 5, 6, 7, 8, 9, 10, 11, 12, 13, 14, 15, 16, 17, 18], [0, 1, 2, 3, 4, 5, 6, 7, 8, 9, 10, 11, 12, 13, 14, 15, 16, 17, 18, 19], [0, 1, 2, 3, 4, 5, 6, 7, 8, 9, 10, 11, 12, 13, 14, 15, 16, 17, 18, 19, 20], [0, 1, 2, 3, 4, 5, 6, 7, 8, 9, 10, 11, 12, 13, 14, 15, 16, 17], [0, 1, 2, 3, 4, 5, 6, 7, 8, 9, 10, 11, 12, 13, 14, 15, 16, 17, 18, 19, 20, 21, 22], [0, 1, 2, 3, 4, 5, 6, 7, 8, 9, 10, 11, 12, 13, 14, 15, 16, 17, 18, 19, 20, 21, 22, 23], [0, 1, 2, 3, 4, 5, 6, 7, 8, 9, 10, 11, 12, 13, 14, 15, 16, 17, 18, 19, 20, 21, 22, 23, 24], [0, 1, 2, 3, 4, 5, 6, 7, 8, 9, 10, 11, 12, 13, 14, 15, 16, 17, 18, 19, 20, 21, 22, 23, 24, 25], [0, 1, 2, 3, 4, 5, 6, 7, 8, 9, 10, 11, 12, 13, 14, 15, 16, 17, 18, 19, 20, 21, 22, 23, 24, 25, 26]]) (J := [[], [0], [1], [2], [3], [4], [5], [5, 6], [5, 7], [5, 8], [5, 9], [10], [10, 11], [10, 12], [10, 13], [10, 14], [10, 15], [10, 16], [17], [17, 18], [17, 19], [17, 20], [17], [17, 21, 22], [10, 17, 23], [5, 10, 24], [5, 25]]) (Je := [26]) (Rs := [Is _, Is _, Is _, fun v V => SlV V v (m.ses), Is _, Is _, Is _, Is _, Is _, Is _, Is _, Is _, Is _, Is _, Is _, Is _, Is _, Is _, Is _, Is _, Is _, Is _, Is _, Is _, Is _, Is _, Is _])
  · kernel_rfl
  · kernel_rfl
  · kernel_rfl
  · kernel_rfl
  · kernel_rfl
  · kernel_rfl
  · kernel_rfl
  · exact fun h => absurd rfl h
  · intro u
    simp only [List.take_succ_cons, List.take_zero, List.map_cons, List.map_nil, fillU, List.setIfInBounds_toArray, List.set_cons_zero, List.set_cons_succ, Nat.reduceAdd]
    exact rfl
  · simp only [List.take_succ_cons, List.take_zero]
    refine ⟨fun u W hb hd K hK => ?_, ?_⟩
    · clear hd
      go_simp
      apply hK
      · simp only [Act.put, zSa, zSz, zSs]
        exact rfl
      · exact CB.refl _ _
      · exact IsOut
    refine ⟨fun u W hb hd K hK => ?_, ?_⟩
    · simp only [Facts, nthR, Is, and_true] at hd
      have h0 := hd
      clear hd
      simp only [h0] at hK ⊢
      go_simp
      apply hK
      · simp only [Act.put, zSa, zSz, zSs]
        exact rfl
      · exact CB.refl _ _
      · exact IsOut
    refine ⟨fun u W hb hd K hK => ?_, ?_⟩
    · simp only [Facts, nthR, Is, and_true] at hd
      have h1 := hd
      clear hd
      simp only [h1] at hK ⊢
      go_simp
      apply hK
      · simp only [Act.put, zSa, zSz, zSs]
        exact rfl
      · exact CB.refl _ _
      · exact IsOut
    refine ⟨fun u W hb hd K hK => ?_, ?_⟩
    · simp only [Facts, nthR, Is, and_true] at hd
      have h2 := hd
      clear hd
      simp only [h2] at hK ⊢
      obtain ⟨v, hc, hv⟩ := (hM.below hb).ses
      go_simp
      exact hK _ _ _ rfl (CB.refl _ _) hv
    refine ⟨fun u W hb hd K hK => ?_, ?_⟩
    · simp only [Facts, nthR, and_true] at hd
      have h3 := hd
      clear hd
      go_simp
      refine (sized_e _ m.ses 0 32 _ h3).mono ?_
      rintro e wy ⟨rfl, hby⟩
      rw [y1.out]
      exact hK _ _ _ rfl (CB.of hby hb.size) IsOut
    refine ⟨fun u W hb hd K hK => ?_, ?_⟩
    · simp only [Facts, nthR, Is, and_true] at hd
      have h4 := hd
      clear hd
      simp only [h4] at hK ⊢
      go_simp
      apply hK
      · simp only [Act.put, zSa, zSz, zSs]
        exact rfl
      · exact CB.refl _ _
      · exact IsOut
    refine ⟨fun u W hb hd K hK => ?_, ?_⟩
    · simp only [Facts, nthR, Is, and_true] at hd
      have h5 := hd
      clear hd
      simp only [h5] at hK ⊢
      go_simp
      apply hK
      · simp only [Act.put, zSa, zSz, zSs]
        exact rfl
      · exact CB.refl _ _
      · exact IsOut
    refine ⟨fun u W hb hd K hK => ?_, ?_⟩
    · simp only [Facts, nthR, Is, and_true] at hd
      obtain ⟨h5, h6⟩ := hd
      simp only [h5, h6] at hK ⊢
      go_simp
      apply hK
      · simp only [Act.put, zSa, zSz, zSs]
        exact rfl
      · exact CB.refl _ _
      · exact IsOut
    refine ⟨fun u W hb hd K hK => ?_, ?_⟩
    · simp only [Facts, nthR, Is, and_true] at hd
      obtain ⟨h5, h7⟩ := hd
      simp only [h5, h7] at hK ⊢
      go_simp
      apply hK
      · simp only [Act.put, zSa, zSz, zSs]
        exact rfl
      · exact CB.refl _ _
      · exact IsOut
    refine ⟨fun u W hb hd K hK => ?_, ?_⟩
    · simp only [Facts, nthR, Is, and_true] at hd
      obtain ⟨h5, h8⟩ := hd
      simp only [h5, h8] at hK ⊢
      have hc := (hM.below hb).retry
      rw [y8.out] at hc
      go_simp
      apply hK
      · simp only [Act.put, zSa, zSz, zSs]
        exact rfl
      · exact CB.refl _ _
      · exact IsOut
    refine ⟨fun u W hb hd K hK => ?_, ?_⟩
    · simp only [Facts, nthR, Is, and_true] at hd
      obtain ⟨h5, h9⟩ := hd
      simp only [h5, h9] at hK ⊢
      go_simp
      apply hK
      · simp only [Act.put, zSa, zSz, zSs]
        exact rfl
      · exact CB.refl _ _
      · exact IsOut
    refine ⟨fun u W hb hd K hK => ?_, ?_⟩
    · simp only [Facts, nthR, Is, and_true] at hd
      have h10 := hd
      clear hd
      simp only [h10] at hK ⊢
      go_simp
      apply hK
      · simp only [Act.put, zSa, zSz, zSs]
        exact rfl
      · exact CB.refl _ _
      · exact IsOut
    refine ⟨fun u W hb hd K hK => ?_, ?_⟩
    · simp only [Facts, nthR, Is, and_true] at hd
      obtain ⟨h10, h11⟩ := hd
      simp only [h10, h11] at hK ⊢
      go_simp
      apply hK
      · simp only [Act.put, zSa, zSz, zSs]
        exact rfl
      · exact CB.refl _ _
      · exact IsOut
    refine ⟨fun u W hb hd K hK => ?_, ?_⟩
    · simp only [Facts, nthR, Is, and_true] at hd
      obtain ⟨h10, h12⟩ := hd
      simp only [h10, h12] at hK ⊢
      go_simp
      apply hK
      · simp only [Act.put, zSa, zSz, zSs]
        exact rfl
      · exact CB.refl _ _
      · exact IsOut
    refine ⟨fun u W hb hd K hK => ?_, ?_⟩
    · simp only [Facts, nthR, Is, and_true] at hd
      obtain ⟨h10, h13⟩ := hd
      simp only [h10, h13] at hK ⊢
      go_simp
      apply hK
      · simp only [Act.put, zSa, zSz, zSs]
        exact rfl
      · exact CB.refl _ _
      · exact IsOut
    refine ⟨fun u W hb hd K hK => ?_, ?_⟩
    · simp only [Facts, nthR, Is, and_true] at hd
      obtain ⟨h10, h14⟩ := hd
      simp only [h10, h14] at hK ⊢
      go_simp
      apply hK
      · simp only [Act.put, zSa, zSz, zSs]
        exact rfl
      · exact CB.refl _ _
      · exact IsOut
    refine ⟨fun u W hb hd K hK => ?_, ?_⟩
    · simp only [Facts, nthR, Is, and_true] at hd
      obtain ⟨h10, h15⟩ := hd
      simp only [h10, h15] at hK ⊢
      go_simp
      apply hK
      · simp only [Act.put, zSa, zSz, zSs]
        exact rfl
      · exact CB.refl _ _
      · exact IsOut
    refine ⟨fun u W hb hd K hK => ?_, ?_⟩
    · simp only [Facts, nthR, Is, and_true] at hd
      obtain ⟨h10, h16⟩ := hd
      simp only [h10, h16] at hK ⊢
      go_simp
      apply hK
      · simp only [Act.put, zSa, zSz, zSs]
        exact rfl
      · exact CB.refl _ _
      · exact IsOut
    refine ⟨fun u W hb hd K hK => ?_, ?_⟩
    · simp only [Facts, nthR, Is, and_true] at hd
      have h17 := hd
      clear hd
      simp only [h17] at hK ⊢
      go_simp
      apply hK
      · simp only [Act.put, zSa, zSz, zSs]
        exact rfl
      · exact CB.refl _ _
      · exact IsOut
    refine ⟨fun u W hb hd K hK => ?_, ?_⟩
    · simp only [Facts, nthR, Is, and_true] at hd
      obtain ⟨h17, h18⟩ := hd
      simp only [h17, h18] at hK ⊢
      go_simp
      apply hK
      · simp only [Act.put, zSa, zSz, zSs]
        exact rfl
      · exact CB.refl _ _
      · exact IsOut
    refine ⟨fun u W hb hd K hK => ?_, ?_⟩
    · simp only [Facts, nthR, Is, and_true] at hd
      obtain ⟨h17, h19⟩ := hd
      simp only [h17, h19] at hK ⊢
      go_simp
      apply hK
      · simp only [Act.put, zSa, zSz, zSs]
        exact rfl
      · exact CB.refl _ _
      · exact IsOut
    refine ⟨fun u W hb hd K hK => ?_, ?_⟩
    · simp only [Facts, nthR, Is, and_true] at hd
      obtain ⟨h17, h20⟩ := hd
      simp only [h17, h20] at hK ⊢
      go_simp
      apply hK
      · simp only [Act.put, zSa, zSz, zSs]
        exact rfl
      · exact CB.refl _ _
      · exact IsOut
    refine ⟨fun u W hb hd K hK => ?_, ?_⟩
    · simp only [Facts, nthR, Is, and_true] at hd
      have h17 := hd
      clear hd
      simp only [h17] at hK ⊢
      go_simp
      apply hK
      · simp only [Act.put, zSa, zSz, zSs]
        exact rfl
      · exact CB.refl _ _
      · exact IsOut
    refine ⟨fun u W hb hd K hK => ?_, ?_⟩
    · simp only [Facts, nthR, Is, and_true] at hd
      obtain ⟨h17, h21, h22⟩ := hd
      simp only [h17, h21, h22] at hK ⊢
      go_simp
      apply hK
      · simp only [Act.put, zSa, zSz, zSs]
        exact rfl
      · exact CB.refl _ _
      · exact IsOut
    refine ⟨fun u W hb hd K hK => ?_, ?_⟩
    · simp only [Facts, nthR, Is, and_true] at hd
      obtain ⟨h10, h17, h23⟩ := hd
      simp only [h10, h17, h23] at hK ⊢
      go_simp
      apply hK
      · simp only [Act.put, zSa, zSz, zSs]
        exact rfl
      · exact CB.refl _ _
      · exact IsOut
    refine ⟨fun u W hb hd K hK => ?_, ?_⟩
    · simp only [Facts, nthR, Is, and_true] at hd
      obtain ⟨h5, h10, h24⟩ := hd
      simp only [h5, h10, h24] at hK ⊢
      go_simp
      apply hK
      · simp only [Act.put, zSa, zSz, zSs]
        exact rfl
      · exact CB.refl _ _
      · exact IsOut
    refine ⟨fun u W hb hd K hK => ?_, ?_⟩
    · simp only [Facts, nthR, Is, and_true] at hd
      obtain ⟨h5, h25⟩ := hd
      simp only [h5, h25] at hK ⊢
      go_simp
      apply hK
      · simp only [Act.put, zSa, zSz, zSs]
        exact rfl
      · exact CB.refl _ _
      · exact IsOut
    exact trivial
  · skip
    exact trivial
  · exact (.is (.is (.is (.cons (fun _ _ _ h hb => h.cb hb) (.is (.is (.is (.is (.is (.is (.is (.is (.is (.is (.is (.is (.is (.is (.is (.is (.is (.is (.is (.is (.is (.is (.is .nil)))))))))))))))))))))))))))
  intro u w1 hb hd
  simp only [List.drop_succ_cons, List.drop_zero]
  simp only [Facts, nthR, Is, and_true] at hd
  have h26 := hd
  clear hd
  simp only [h26]
  clear h26
  replace hM := hM.below hb
  replace hT := hT.below hb
  replace hb0 := hb0.trans (hb.mono hb0.size)
  clear hb
  go_wp2
  refine bodyPost_ret (results_tmp Tryd.results35 _ _ _) rfl ?_
  exact ⟨rfl, hb0⟩
set_option maxRecDepth 100000 in
set_option maxHeartbeats 400000 in
theorem fits2c (m : Msg) (g : Nat) (w : World) (hT : TabH w) (hM : MAt w g m) (hk : m.kind = 2) (y1 : Hid (sized m.ses 0 32 = true))(y8 : Hid (m.retry = false))(y3 : Hid (decide (m.sha.length = 65) = false)) : Calls Tryd.prog 35 #[.pointer (some ⟨g, 0, none⟩)] w fun e w' => e = .returned (.bool false) ∧ Below w.heap.size w w' := by
  have hc := hM.kind
  rw [hk] at hc
  have hl := hM.lens
  go_enter Tryd.func35, Tryd.ntmps35
  have hb0 : Below w.heap.size w w := Below.refl _ _
  go_upto_region 5 with (fail)
  apply wp_region_once_tailK (m := 27) (Z := []) (D := [[], [0], [0, 1], [0, 1, 2], [0, 1, 2, 3], [0, 1, 2, 3, 4], [0, 1, 2, 3, 4, 5], [0, 1, 2, 3, 4, 5, 6], [0, 1, 2, 3, 4, 5, 6, 7], [0, 1, 2, 3, 4, 5, 6, 7, 8], [0, 1, 2, 3, 4, 5, 6, 7, 8, 9], [0, 1, 2, 3, 4, 5, 6, 7, 8, 9, 10], [0, 1, 2, 3, 4, 5, 6, 7, 8, 9, 10, 11], [0, 1, 2, 3, 4, 5, 6, 7, 8, 9, 10, 11, 12], [0, 1, 2, 3, 4, 5, 6, 7, 8, 9, 10, 11, 12, 13], [0, 1, 2, 3, 4, 5, 6, 7, 8, 9, 10, 11, 12, 13, 14], [0, 1, 2, 3, 4, 5, 6, 7, 8, 9, 10, 11, 12, 13, 14, 15], [0, 1, 2, 3, 4, 5, 6, 7, 8, 9, 10, 11, 12, 13, 14, 15, 16], [0, 1, 2, 3, 4, 5, 6, 7, 8, 9, 10, 11, 12, 13, 14, 15, 16, 17], [0, 1, 2, 3, 4, 5, 6, 7, 8, 9, 10, 11, 12, 13, 14, 15, 16, 17, 18], [0, 1, 2, 3, 4, 5, 6, 7, 8, 9, 10, 11, 12, 13, 14, 15, 16, 17, 18, 19], [0, 1, 2, 3, 4, 5, 6, 7, 8, 9, 10, 11, 12, 13, 14, 15, 16, 17, 18, 19, 20], [0, 1, 2, 3, 4, 5, 6, 7, 8, 9, 10, 11, 12, 13, 14, 15, 16, 17], [0, 1, 2, 3, 4, 5, 6, 7, 8, 9, 10, 11, 12, 13, 14, 15, 16, 17, 18, 19, 20, 21, 22], [0, 1, 2, 3, 4, 5, 6, 7, 8, 9, 10, 11, 12, 13, 14, 15, 16, 17, 18, 19, 20, 21, 22, 23], [0, 1, 2, 3, 4, 5, 6, 7, 8, 9, 10, 11, 12, 13, 14, 15, 16, 17, 18, 19, 20, 21, 22, 23, 24], [0, 1, 2, 3, 4, 5, 6, 7, 8, 9, 10, 11, 12, 13, 14, 15, 16, 17, 18, 19, 20, 21, 22, 23, 24, 25], [0, 1, 2, 3, 4, 5, 6, 7, 8, 9, 10, 11, 12, 13, 14, 15, 16, 17, 18, 19, 20, 21, 22, 23, 24, 25, 26]]) (J := [[], [0], [1], [2], [3], [4], [5], [5, 6], [5, 7], [5, 8], [5, 9], [10], [10, 11], [10, 12], [10, 13], [10, 14], [10, 15], [10, 16], [17], [17, 18], [17, 19], [17, 20], [17], [17, 21, 22], [10, 17, 23], [5, 10, 24], [5, 25]]) (Je := [26]) (Rs := [Is _, Is _, Is _, fun v V => SlV V v (m.ses), Is _, Is _, Is _, Is _, Is _, Is _, Is _, Is _, Is _, Is _, fun v V => SlV V v (m.sha), Is _, Is _, Is _, Is _, Is _, Is _, Is _, Is _, Is _, Is _, Is _, Is _])
  · kernel_rfl
  · kernel_rfl
  · kernel_rfl
  · kernel_rfl
  · kernel_rfl
  · kernel_rfl
  · kernel_rfl
  · exact fun h => absurd rfl h
  · intro u
    simp only [List.take_succ_cons, List.take_zero, List.map_cons, List.map_nil, fillU, List.setIfInBounds_toArray, List.set_cons_zero, List.set_cons_succ, Nat.reduceAdd]
    exact rfl
  · simp only [List.take_succ_cons, List.take_zero]
    refine ⟨fun u W hb hd K hK => ?_, ?_⟩
    · clear hd
      go_simp
      apply hK
      · simp only [Act.put, zSa, zSz, zSs]
        exact rfl
      · exact CB.refl _ _
      · exact IsOut
    refine ⟨fun u W hb hd K hK => ?_, ?_⟩
    · simp only [Facts, nthR, Is, and_true] at hd
      have h0 := hd
      clear hd
      simp only [h0] at hK ⊢
      go_simp
      apply hK
      · simp only [Act.put, zSa, zSz, zSs]
        exact rfl
      · exact CB.refl _ _
      · exact IsOut
    refine ⟨fun u W hb hd K hK => ?_, ?_⟩
    · simp only [Facts, nthR, Is, and_true] at hd
      have h1 := hd
      clear hd
      simp only [h1] at hK ⊢
      go_simp
      apply hK
      · simp only [Act.put, zSa, zSz, zSs]
        exact rfl
      · exact CB.refl _ _
      · exact IsOut
    refine ⟨fun u W hb hd K hK => ?_, ?_⟩
    · simp only [Facts, nthR, Is, and_true] at hd
      have h2 := hd
      clear hd
      simp only [h2] at hK ⊢
      obtain ⟨v, hc, hv⟩ := (hM.below hb).ses
      go_simp
      exact hK _ _ _ rfl (CB.refl _ _) hv
    refine ⟨fun u W hb hd K hK => ?_, ?_⟩
    · simp only [Facts, nthR, and_true] at hd
      have h3 := hd
      clear hd
      go_simp
      refine (sized_e _ m.ses 0 32 _ h3).mono ?_
      rintro e wy ⟨rfl, hby⟩
      rw [y1.out]
      exact hK _ _ _ rfl (CB.of hby hb.size) IsOut
    refine ⟨fun u W hb hd K hK => ?_, ?_⟩
    · simp only [Facts, nthR, Is, and_true] at hd
      have h4 := hd
      clear hd
      simp only [h4] at hK ⊢
      go_simp
      apply hK
      · simp only [Act.put, zSa, zSz, zSs]
        exact rfl
      · exact CB.refl _ _
      · exact IsOut
    refine ⟨fun u W hb hd K hK => ?_, ?_⟩
    · simp only [Facts, nthR, Is, and_true] at hd
      have h5 := hd
      clear hd
      simp only [h5] at hK ⊢
      go_simp
      apply hK
      · simp only [Act.put, zSa, zSz, zSs]
        exact rfl
      · exact CB.refl _ _
      · exact IsOut
    refine ⟨fun u W hb hd K hK => ?_, ?_⟩
    · simp only [Facts, nthR, Is, and_true] at hd
      obtain ⟨h5, h6⟩ := hd
      simp only [h5, h6] at hK ⊢
      go_simp
      apply hK
      · simp only [Act.put, zSa, zSz, zSs]
        exact rfl
      · exact CB.refl _ _
      · exact IsOut
    refine ⟨fun u W hb hd K hK => ?_, ?_⟩
    · simp only [Facts, nthR, Is, and_true] at hd
      obtain ⟨h5, h7⟩ := hd
      simp only [h5, h7] at hK ⊢
      go_simp
      apply hK
      · simp only [Act.put, zSa, zSz, zSs]
        exact rfl
      · exact CB.refl _ _
      · exact IsOut
    refine ⟨fun u W hb hd K hK => ?_, ?_⟩
    · simp only [Facts, nthR, Is, and_true] at hd
      obtain ⟨h5, h8⟩ := hd
      simp only [h5, h8] at hK ⊢
      have hc := (hM.below hb).retry
      rw [y8.out] at hc
      go_simp
      apply hK
      · simp only [Act.put, zSa, zSz, zSs]
        exact rfl
      · exact CB.refl _ _
      · exact IsOut
    refine ⟨fun u W hb hd K hK => ?_, ?_⟩
    · simp only [Facts, nthR, Is, and_true] at hd
      obtain ⟨h5, h9⟩ := hd
      simp only [h5, h9] at hK ⊢
      go_simp
      apply hK
      · simp only [Act.put, zSa, zSz, zSs]
        exact rfl
      · exact CB.refl _ _
      · exact IsOut
    refine ⟨fun u W hb hd K hK => ?_, ?_⟩
    · simp only [Facts, nthR, Is, and_true] at hd
      have h10 := hd
      clear hd
      simp only [h10] at hK ⊢
      go_simp
      apply hK
      · simp only [Act.put, zSa, zSz, zSs]
        exact rfl
      · exact CB.refl _ _
      · exact IsOut
    refine ⟨fun u W hb hd K hK => ?_, ?_⟩
    · simp only [Facts, nthR, Is, and_true] at hd
      obtain ⟨h10, h11⟩ := hd
      simp only [h10, h11] at hK ⊢
      go_simp
      apply hK
      · simp only [Act.put, zSa, zSz, zSs]
        exact rfl
      · exact CB.refl _ _
      · exact IsOut
    refine ⟨fun u W hb hd K hK => ?_, ?_⟩
    · simp only [Facts, nthR, Is, and_true] at hd
      obtain ⟨h10, h12⟩ := hd
      simp only [h10, h12] at hK ⊢
      go_simp
      apply hK
      · simp only [Act.put, zSa, zSz, zSs]
        exact rfl
      · exact CB.refl _ _
      · exact IsOut
    refine ⟨fun u W hb hd K hK => ?_, ?_⟩
    · simp only [Facts, nthR, Is, and_true] at hd
      obtain ⟨h10, h13⟩ := hd
      simp only [h10, h13] at hK ⊢
      obtain ⟨v, hc, hv⟩ := (hM.below hb).sha
      go_simp
      exact hK _ _ _ rfl (CB.refl _ _) hv
    refine ⟨fun u W hb hd K hK => ?_, ?_⟩
    · simp only [Facts, nthR, Is, and_true] at hd
      obtain ⟨h10, h14⟩ := hd
      simp only [h10] at hK ⊢
      obtain ⟨A0, c0, e0, f0⟩ := h14
      simp only [e0] at hK ⊢
      go_simp
      apply hK
      · simp only [Act.put, zSa, zSz, zSs]
        exact rfl
      · exact CB.refl _ _
      · exact IsOut
    refine ⟨fun u W hb hd K hK => ?_, ?_⟩
    · simp only [Facts, nthR, Is, and_true] at hd
      obtain ⟨h10, h15⟩ := hd
      simp only [h10, h15] at hK ⊢
      have hh := Lib.hid (show ((m.sha.length : Int) == (65 : Int)) = _ from (beqN m.sha.length 65).trans y3.out)
      go_simp
      rw [hh.out]
      apply hK
      · simp only [Act.put, zSa, zSz, zSs]
        exact rfl
      · exact CB.refl _ _
      · exact IsOut
    refine ⟨fun u W hb hd K hK => ?_, ?_⟩
    · simp only [Facts, nthR, Is, and_true] at hd
      obtain ⟨h10, h16⟩ := hd
      simp only [h10, h16] at hK ⊢
      go_simp
      apply hK
      · simp only [Act.put, zSa, zSz, zSs]
        exact rfl
      · exact CB.refl _ _
      · exact IsOut
    refine ⟨fun u W hb hd K hK => ?_, ?_⟩
    · simp only [Facts, nthR, Is, and_true] at hd
      have h17 := hd
      clear hd
      simp only [h17] at hK ⊢
      go_simp
      apply hK
      · simp only [Act.put, zSa, zSz, zSs]
        exact rfl
      · exact CB.refl _ _
      · exact IsOut
    refine ⟨fun u W hb hd K hK => ?_, ?_⟩
    · simp only [Facts, nthR, Is, and_true] at hd
      obtain ⟨h17, h18⟩ := hd
      simp only [h17, h18] at hK ⊢
      go_simp
      apply hK
      · simp only [Act.put, zSa, zSz, zSs]
        exact rfl
      · exact CB.refl _ _
      · exact IsOut
    refine ⟨fun u W hb hd K hK => ?_, ?_⟩
    · simp only [Facts, nthR, Is, and_true] at hd
      obtain ⟨h17, h19⟩ := hd
      simp only [h17, h19] at hK ⊢
      go_simp
      apply hK
      · simp only [Act.put, zSa, zSz, zSs]
        exact rfl
      · exact CB.refl _ _
      · exact IsOut
    refine ⟨fun u W hb hd K hK => ?_, ?_⟩
    · simp only [Facts, nthR, Is, and_true] at hd
      obtain ⟨h17, h20⟩ := hd
      simp only [h17, h20] at hK ⊢
      go_simp
      apply hK
      · simp only [Act.put, zSa, zSz, zSs]
        exact rfl
      · exact CB.refl _ _
      · exact IsOut
    refine ⟨fun u W hb hd K hK => ?_, ?_⟩
    · simp only [Facts, nthR, Is, and_true] at hd
      have h17 := hd
      clear hd
      simp only [h17] at hK ⊢
      go_simp
      apply hK
      · simp only [Act.put, zSa, zSz, zSs]
        exact rfl
      · exact CB.refl _ _
      · exact IsOut
    refine ⟨fun u W hb hd K hK => ?_, ?_⟩
    · simp only [Facts, nthR, Is, and_true] at hd
      obtain ⟨h17, h21, h22⟩ := hd
      simp only [h17, h21, h22] at hK ⊢
      go_simp
      apply hK
      · simp only [Act.put, zSa, zSz, zSs]
        exact rfl
      · exact CB.refl _ _
      · exact IsOut
    refine ⟨fun u W hb hd K hK => ?_, ?_⟩
    · simp only [Facts, nthR, Is, and_true] at hd
      obtain ⟨h10, h17, h23⟩ := hd
      simp only [h10, h17, h23] at hK ⊢
      go_simp
      apply hK
      · simp only [Act.put, zSa, zSz, zSs]
        exact rfl
      · exact CB.refl _ _
      · exact IsOut
    refine ⟨fun u W hb hd K hK => ?_, ?_⟩
    · simp only [Facts, nthR, Is, and_true] at hd
      obtain ⟨h5, h10, h24⟩ := hd
      simp only [h5, h10, h24] at hK ⊢
      go_simp
      apply hK
      · simp only [Act.put, zSa, zSz, zSs]
        exact rfl
      · exact CB.refl _ _
      · exact IsOut
    refine ⟨fun u W hb hd K hK => ?_, ?_⟩
    · simp only [Facts, nthR, Is, and_true] at hd
      obtain ⟨h5, h25⟩ := hd
      simp only [h5, h25] at hK ⊢
      go_simp
      apply hK
      · simp only [Act.put, zSa, zSz, zSs]
        exact rfl
      · exact CB.refl _ _
      · exact IsOut
    exact trivial
  · skip
    exact trivial
  · exact (.is (.is (.is (.cons (fun _ _ _ h hb => h.cb hb) (.is (.is (.is (.is (.is (.is (.is (.is (.is (.is (.cons (fun _ _ _ h hb => h.cb hb) (.is (.is (.is (.is (.is (.is (.is (.is (.is (.is (.is (.is .nil)))))))))))))))))))))))))))
  intro u w1 hb hd
  simp only [List.drop_succ_cons, List.drop_zero]
  simp only [Facts, nthR, Is, and_true] at hd
  have h26 := hd
  clear hd
  simp only [h26]
  clear h26
  replace hM := hM.below hb
  replace hT := hT.below hb
  replace hb0 := hb0.trans (hb.mono hb0.size)
  clear hb
  go_wp2
  refine bodyPost_ret (results_tmp Tryd.results35 _ _ _) rfl ?_
  exact ⟨rfl, hb0⟩
set_option maxRecDepth 100000 in
set_option maxHeartbeats 400000 in
theorem fits2d (m : Msg) (g : Nat) (w : World) (hT : TabH w) (hM : MAt w g m) (hk : m.kind = 2) (y1 : Hid (sized m.ses 0 32 = true))(y8 : Hid (m.retry = false))(y3 : Hid (decide (m.sha.length = 65) = true))(y7 : Hid ((m.rnd == special) = true)) : Calls Tryd.prog 35 #[.pointer (some ⟨g, 0, none⟩)] w fun e w' => e = .returned (.bool false) ∧ Below w.heap.size w w' := by
  have hc := hM.kind
  rw [hk] at hc
  have hl := hM.lens
  go_enter Tryd.func35, Tryd.ntmps35
  have hb0 : Below w.heap.size w w := Below.refl _ _
  go_upto_region 5 with (fail)
  apply wp_region_once_tailK (m := 27) (Z := []) (D := [[], [0], [0, 1], [0, 1, 2], [0, 1, 2, 3], [0, 1, 2, 3, 4], [0, 1, 2, 3, 4, 5], [0, 1, 2, 3, 4, 5, 6], [0, 1, 2, 3, 4, 5, 6, 7], [0, 1, 2, 3, 4, 5, 6, 7, 8], [0, 1, 2, 3, 4, 5, 6, 7, 8, 9], [0, 1, 2, 3, 4, 5, 6, 7, 8, 9, 10], [0, 1, 2, 3, 4, 5, 6, 7, 8, 9, 10, 11], [0, 1, 2, 3, 4, 5, 6, 7, 8, 9, 10, 11, 12], [0, 1, 2, 3, 4, 5, 6, 7, 8, 9, 10, 11, 12, 13], [0, 1, 2, 3, 4, 5, 6, 7, 8, 9, 10, 11, 12, 13, 14], [0, 1, 2, 3, 4, 5, 6, 7, 8, 9, 10, 11, 12, 13, 14, 15], [0, 1, 2, 3, 4, 5, 6, 7, 8, 9, 10, 11, 12, 13, 14, 15, 16], [0, 1, 2, 3, 4, 5, 6, 7, 8, 9, 10, 11, 12, 13, 14, 15, 16, 17], [0, 1, 2, 3, 4, 5, 6, 7, 8, 9, 10, 11, 12, 13, 14, 15, 16, 17, 18], [0, 1, 2, 3, 4, 5, 6, 7, 8, 9, 10, 11, 12, 13, 14, 15, 16, 17, 18, 19], [0, 1, 2, 3, 4, 5, 6, 7, 8, 9, 10, 11, 12, 13, 14, 15, 16, 17, 18, 19, 20], [0, 1, 2, 3, 4, 5, 6, 7, 8, 9, 10, 11, 12, 13, 14, 15, 16, 17], [0, 1, 2, 3, 4, 5, 6, 7, 8, 9, 10, 11, 12, 13, 14, 15, 16, 17, 18, 19, 20, 21, 22], [0, 1, 2, 3, 4, 5, 6, 7, 8, 9, 10, 11, 12, 13, 14, 15, 16, 17, 18, 19, 20, 21, 22, 23], [0, 1, 2, 3, 4, 5, 6, 7, 8, 9, 10, 11, 12, 13, 14, 15, 16, 17, 18, 19, 20, 21, 22, 23, 24], [0, 1, 2, 3, 4, 5, 6, 7, 8, 9, 10, 11, 12, 13, 14, 15, 16, 17, 18, 19, 20, 21, 22, 23, 24, 25], [0, 1, 2, 3, 4, 5, 6, 7, 8, 9, 10, 11, 12, 13, 14, 15, 16, 17, 18, 19, 20, 21, 22, 23, 24, 25, 26]]) (J := [[], [0], [1], [2], [3], [4], [5], [5, 6], [5, 7], [5, 8], [5, 9], [10], [10, 11], [10, 12], [10, 13], [10, 14], [10, 15], [10, 16], [17], [17, 18], [17, 19], [17, 20], [17], [17, 21, 22], [10, 17, 23], [5, 10, 24], [5, 25]]) (Je := [26]) (Rs := [Is _, Is _, Is _, fun v V => SlV V v (m.ses), Is _, Is _, Is _, Is _, Is _, Is _, Is _, Is _, Is _, Is _, fun v V => SlV V v (m.sha), Is _, Is _, Is _, Is _, Is _, Is _, Is _, Is _, Is _, Is _, Is _, Is _])
  · kernel_rfl
  · kernel_rfl
  · kernel_rfl
  · kernel_rfl
  · kernel_rfl
  · kernel_rfl
  · kernel_rfl
  · exact fun h => absurd rfl h
  · intro u
    simp only [List.take_succ_cons, List.take_zero, List.map_cons, List.map_nil, fillU, List.setIfInBounds_toArray, List.set_cons_zero, List.set_cons_succ, Nat.reduceAdd]
    exact rfl
  · simp only [List.take_succ_cons, List.take_zero]
    refine ⟨fun u W hb hd K hK => ?_, ?_⟩
    · clear hd
      go_simp
      apply hK
      · simp only [Act.put, zSa, zSz, zSs]
        exact rfl
      · exact CB.refl _ _
      · exact IsOut
    refine ⟨fun u W hb hd K hK => ?_, ?_⟩
    · simp only [Facts, nthR, Is, and_true] at hd
      have h0 := hd
      clear hd
      simp only [h0] at hK ⊢
      go_simp
      apply hK
      · simp only [Act.put, zSa, zSz, zSs]
        exact rfl
      · exact CB.refl _ _
      · exact IsOut
    refine ⟨fun u W hb hd K hK => ?_, ?_⟩
    · simp only [Facts, nthR, Is, and_true] at hd
      have h1 := hd
      clear hd
      simp only [h1] at hK ⊢
      go_simp
      apply hK
      · simp only [Act.put, zSa, zSz, zSs]
        exact rfl
      · exact CB.refl _ _
      · exact IsOut
    refine ⟨fun u W hb hd K hK => ?_, ?_⟩
    · simp only [Facts, nthR, Is, and_true] at hd
      have h2 := hd
      clear hd
      simp only [h2] at hK ⊢
      obtain ⟨v, hc, hv⟩ := (hM.below hb).ses
      go_simp
      exact hK _ _ _ rfl (CB.refl _ _) hv
    refine ⟨fun u W hb hd K hK => ?_, ?_⟩
    · simp only [Facts, nthR, and_true] at hd
      have h3 := hd
      clear hd
      go_simp
      refine (sized_e _ m.ses 0 32 _ h3).mono ?_
      rintro e wy ⟨rfl, hby⟩
      rw [y1.out]
      exact hK _ _ _ rfl (CB.of hby hb.size) IsOut
    refine ⟨fun u W hb hd K hK => ?_, ?_⟩
    · simp only [Facts, nthR, Is, and_true] at hd
      have h4 := hd
      clear hd
      simp only [h4] at hK ⊢
      go_simp
      apply hK
      · simp only [Act.put, zSa, zSz, zSs]
        exact rfl
      · exact CB.refl _ _
      · exact IsOut
    refine ⟨fun u W hb hd K hK => ?_, ?_⟩
    · simp only [Facts, nthR, Is, and_true] at hd
      have h5 := hd
      clear hd
      simp only [h5] at hK ⊢
      go_simp
      apply hK
      · simp only [Act.put, zSa, zSz, zSs]
        exact rfl
      · exact CB.refl _ _
      · exact IsOut
    refine ⟨fun u W hb hd K hK => ?_, ?_⟩
    · simp only [Facts, nthR, Is, and_true] at hd
      obtain ⟨h5, h6⟩ := hd
      simp only [h5, h6] at hK ⊢
      go_simp
      apply hK
      · simp only [Act.put, zSa, zSz, zSs]
        exact rfl
      · exact CB.refl _ _
      · exact IsOut
    refine ⟨fun u W hb hd K hK => ?_, ?_⟩
    · simp only [Facts, nthR, Is, and_true] at hd
      obtain ⟨h5, h7⟩ := hd
      simp only [h5, h7] at hK ⊢
      go_simp
      apply hK
      · simp only [Act.put, zSa, zSz, zSs]
        exact rfl
      · exact CB.refl _ _
      · exact IsOut
    refine ⟨fun u W hb hd K hK => ?_, ?_⟩
    · simp only [Facts, nthR, Is, and_true] at hd
      obtain ⟨h5, h8⟩ := hd
      simp only [h5, h8] at hK ⊢
      have hc := (hM.below hb).retry
      rw [y8.out] at hc
      go_simp
      apply hK
      · simp only [Act.put, zSa, zSz, zSs]
        exact rfl
      · exact CB.refl _ _
      · exact IsOut
    refine ⟨fun u W hb hd K hK => ?_, ?_⟩
    · simp only [Facts, nthR, Is, and_true] at hd
      obtain ⟨h5, h9⟩ := hd
      simp only [h5, h9] at hK ⊢
      go_simp
      apply hK
      · simp only [Act.put, zSa, zSz, zSs]
        exact rfl
      · exact CB.refl _ _
      · exact IsOut
    refine ⟨fun u W hb hd K hK => ?_, ?_⟩
    · simp only [Facts, nthR, Is, and_true] at hd
      have h10 := hd
      clear hd
      simp only [h10] at hK ⊢
      go_simp
      apply hK
      · simp only [Act.put, zSa, zSz, zSs]
        exact rfl
      · exact CB.refl _ _
      · exact IsOut
    refine ⟨fun u W hb hd K hK => ?_, ?_⟩
    · simp only [Facts, nthR, Is, and_true] at hd
      obtain ⟨h10, h11⟩ := hd
      simp only [h10, h11] at hK ⊢
      go_simp
      apply hK
      · simp only [Act.put, zSa, zSz, zSs]
        exact rfl
      · exact CB.refl _ _
      · exact IsOut
    refine ⟨fun u W hb hd K hK => ?_, ?_⟩
    · simp only [Facts, nthR, Is, and_true] at hd
      obtain ⟨h10, h12⟩ := hd
      simp only [h10, h12] at hK ⊢
      go_simp
      apply hK
      · simp only [Act.put, zSa, zSz, zSs]
        exact rfl
      · exact CB.refl _ _
      · exact IsOut
    refine ⟨fun u W hb hd K hK => ?_, ?_⟩
    · simp only [Facts, nthR, Is, and_true] at hd
      obtain ⟨h10, h13⟩ := hd
      simp only [h10, h13] at hK ⊢
      obtain ⟨v, hc, hv⟩ := (hM.below hb).sha
      go_simp
      exact hK _ _ _ rfl (CB.refl _ _) hv
    refine ⟨fun u W hb hd K hK => ?_, ?_⟩
    · simp only [Facts, nthR, Is, and_true] at hd
      obtain ⟨h10, h14⟩ := hd
      simp only [h10] at hK ⊢
      obtain ⟨A0, c0, e0, f0⟩ := h14
      simp only [e0] at hK ⊢
      go_simp
      apply hK
      · simp only [Act.put, zSa, zSz, zSs]
        exact rfl
      · exact CB.refl _ _
      · exact IsOut
    refine ⟨fun u W hb hd K hK => ?_, ?_⟩
    · simp only [Facts, nthR, Is, and_true] at hd
      obtain ⟨h10, h15⟩ := hd
      simp only [h10, h15] at hK ⊢
      have hh := Lib.hid (show ((m.sha.length : Int) == (65 : Int)) = _ from (beqN m.sha.length 65).trans y3.out)
      go_simp
      rw [hh.out]
      apply hK
      · simp only [Act.put, zSa, zSz, zSs]
        exact rfl
      · exact CB.refl _ _
      · exact IsOut
    refine ⟨fun u W hb hd K hK => ?_, ?_⟩
    · simp only [Facts, nthR, Is, and_true] at hd
      obtain ⟨h10, h16⟩ := hd
      simp only [h10, h16] at hK ⊢
      go_simp
      apply hK
      · simp only [Act.put, zSa, zSz, zSs]
        exact rfl
      · exact CB.refl _ _
      · exact IsOut
    refine ⟨fun u W hb hd K hK => ?_, ?_⟩
    · simp only [Facts, nthR, Is, and_true] at hd
      have h17 := hd
      clear hd
      simp only [h17] at hK ⊢
      go_simp
      apply hK
      · simp only [Act.put, zSa, zSz, zSs]
        exact rfl
      · exact CB.refl _ _
      · exact IsOut
    refine ⟨fun u W hb hd K hK => ?_, ?_⟩
    · simp only [Facts, nthR, Is, and_true] at hd
      obtain ⟨h17, h18⟩ := hd
      simp only [h17, h18] at hK ⊢
      go_simp
      apply hK
      · simp only [Act.put, zSa, zSz, zSs]
        exact rfl
      · exact CB.refl _ _
      · exact IsOut
    refine ⟨fun u W hb hd K hK => ?_, ?_⟩
    · simp only [Facts, nthR, Is, and_true] at hd
      obtain ⟨h17, h19⟩ := hd
      simp only [h17, h19] at hK ⊢
      go_simp
      apply hK
      · simp only [Act.put, zSa, zSz, zSs]
        exact rfl
      · exact CB.refl _ _
      · exact IsOut
    refine ⟨fun u W hb hd K hK => ?_, ?_⟩
    · simp only [Facts, nthR, Is, and_true] at hd
      obtain ⟨h17, h20⟩ := hd
      simp only [h17, h20] at hK ⊢
      rw [if_pos (by rfl)]
      refine wp_load_mid 22 (.tmp 73) rfl g 1 rfl (m.rnd.map B8) _ (hM.below hb).rnd Tryd.underlying22 rfl (info40.trans (by rw [List.length_map, hl.1])) ?_
      exact hK _ _ _ rfl (CB.refl _ _) IsOut
    refine ⟨fun u W hb hd K hK => ?_, ?_⟩
    · simp only [Facts, nthR, Is, and_true] at hd
      have h17 := hd
      clear hd
      simp only [h17] at hK ⊢
      rw [if_pos (by rfl)]
      refine wp_load_mid 22 (.global 0) rfl 0 0 rfl (special.map B8) _ (hT.below hb).1 Tryd.underlying22 rfl (info40.trans (by rw [List.length_map]; rfl)) ?_
      exact hK _ _ _ rfl (CB.refl _ _) IsOut
    refine ⟨fun u W hb hd K hK => ?_, ?_⟩
    · simp only [Facts, nthR, Is, and_true] at hd
      obtain ⟨h17, h21, h22⟩ := hd
      simp only [h17, h21, h22] at hK ⊢
      rw [if_pos (by rfl)]
      refine wp_neqA rfl rfl rfl guardB32 (EqB (Lib.hid hl.1) (Lib.hid rfl) y7 _) ?_
      exact hK _ _ _ rfl (CB.refl _ _) IsOut
    refine ⟨fun u W hb hd K hK => ?_, ?_⟩
    · simp only [Facts, nthR, Is, and_true] at hd
      obtain ⟨h10, h17, h23⟩ := hd
      simp only [h10, h17, h23] at hK ⊢
      go_simp
      apply hK
      · simp only [Act.put, zSa, zSz, zSs]
        exact rfl
      · exact CB.refl _ _
      · exact IsOut
    refine ⟨fun u W hb hd K hK => ?_, ?_⟩
    · simp only [Facts, nthR, Is, and_true] at hd
      obtain ⟨h5, h10, h24⟩ := hd
      simp only [h5, h10, h24] at hK ⊢
      go_simp
      apply hK
      · simp only [Act.put, zSa, zSz, zSs]
        exact rfl
      · exact CB.refl _ _
      · exact IsOut
    refine ⟨fun u W hb hd K hK => ?_, ?_⟩
    · simp only [Facts, nthR, Is, and_true] at hd
      obtain ⟨h5, h25⟩ := hd
      simp only [h5, h25] at hK ⊢
      go_simp
      apply hK
      · simp only [Act.put, zSa, zSz, zSs]
        exact rfl
      · exact CB.refl _ _
      · exact IsOut
    exact trivial
  · skip
    exact trivial
  · exact (.is (.is (.is (.cons (fun _ _ _ h hb => h.cb hb) (.is (.is (.is (.is (.is (.is (.is (.is (.is (.is (.cons (fun _ _ _ h hb => h.cb hb) (.is (.is (.is (.is (.is (.is (.is (.is (.is (.is (.is (.is .nil)))))))))))))))))))))))))))
  intro u w1 hb hd
  simp only [List.drop_succ_cons, List.drop_zero]
  simp only [Facts, nthR, Is, and_true] at hd
  have h26 := hd
  clear hd
  simp only [h26]
  clear h26
  replace hM := hM.below hb
  replace hT := hT.below hb
  replace hb0 := hb0.trans (hb.mono hb0.size)
  clear hb
  go_wp2
  refine bodyPost_ret (results_tmp Tryd.results35 _ _ _) rfl ?_
  exact ⟨rfl, hb0⟩
set_option maxRecDepth 100000 in
set_option maxHeartbeats 400000 in
theorem fits2e (m : Msg) (g : Nat) (w : World) (hT : TabH w) (hM : MAt w g m) (hk : m.kind = 2) (y1 : Hid (sized m.ses 0 32 = true))(y8 : Hid (m.retry = false))(y3 : Hid (decide (m.sha.length = 65) = true))(y7 : Hid ((m.rnd == special) = false)) : Calls Tryd.prog 35 #[.pointer (some ⟨g, 0, none⟩)] w fun e w' => e = .returned (.bool true) ∧ Below w.heap.size w w' := by
  have hc := hM.kind
  rw [hk] at hc
  have hl := hM.lens
  go_enter Tryd.func35, Tryd.ntmps35
  have hb0 : Below w.heap.size w w := Below.refl _ _
  go_upto_region 5 with (fail)
  apply wp_region_once_tailK (m := 27) (Z := []) (D := [[], [0], [0, 1], [0, 1, 2], [0, 1, 2, 3], [0, 1, 2, 3, 4], [0, 1, 2, 3, 4, 5], [0, 1, 2, 3, 4, 5, 6], [0, 1, 2, 3, 4, 5, 6, 7], [0, 1, 2, 3, 4, 5, 6, 7, 8], [0, 1, 2, 3, 4, 5, 6, 7, 8, 9], [0, 1, 2, 3, 4, 5, 6, 7, 8, 9, 10], [0, 1, 2, 3, 4, 5, 6, 7, 8, 9, 10, 11], [0, 1, 2, 3, 4, 5, 6, 7, 8, 9, 10, 11, 12], [0, 1, 2, 3, 4, 5, 6, 7, 8, 9, 10, 11, 12, 13], [0, 1, 2, 3, 4, 5, 6, 7, 8, 9, 10, 11, 12, 13, 14], [0, 1, 2, 3, 4, 5, 6, 7, 8, 9, 10, 11, 12, 13, 14, 15], [0, 1, 2, 3, 4, 5, 6, 7, 8, 9, 10, 11, 12, 13, 14, 15, 16], [0, 1, 2, 3, 4, 5, 6, 7, 8, 9, 10, 11, 12, 13, 14, 15, 16, 17], [0, 1, 2, 3, 4, 5, 6, 7, 8, 9, 10, 11, 12, 13, 14, 15, 16, 17, 18], [0, 1, 2, 3, 4, 5, 6, 7, 8, 9, 10, 11, 12, 13, 14, 15, 16, 17, 18, 19], [0, 1, 2, 3, 4, 5, 6, 7, 8, 9, 10, 11, 12, 13, 14, 15, 16, 17, 18, 19, 20], [0, 1, 2, 3, 4, 5, 6, 7, 8, 9, 10, 11, 12, 13, 14, 15, 16, 17], [0, 1, 2, 3, 4, 5, 6, 7, 8, 9, 10, 11, 12, 13, 14, 15, 16, 17, 18, 19, 20, 21, 22], [0, 1, 2, 3, 4, 5, 6, 7, 8, 9, 10, 11, 12, 13, 14, 15, 16, 17, 18, 19, 20, 21, 22, 23], [0, 1, 2, 3, 4, 5, 6, 7, 8, 9, 10, 11, 12, 13, 14, 15, 16, 17, 18, 19, 20, 21, 22, 23, 24], [0, 1, 2, 3, 4, 5, 6, 7, 8, 9, 10, 11, 12, 13, 14, 15, 16, 17, 18, 19, 20, 21, 22, 23, 24, 25], [0, 1, 2, 3, 4, 5, 6, 7, 8, 9, 10, 11, 12, 13, 14, 15, 16, 17, 18, 19, 20, 21, 22, 23, 24, 25, 26]]) (J := [[], [0], [1], [2], [3], [4], [5], [5, 6], [5, 7], [5, 8], [5, 9], [10], [10, 11], [10, 12], [10, 13], [10, 14], [10, 15], [10, 16], [17], [17, 18], [17, 19], [17, 20], [17], [17, 21, 22], [10, 17, 23], [5, 10, 24], [5, 25]]) (Je := [26]) (Rs := [Is _, Is _, Is _, fun v V => SlV V v (m.ses), Is _, Is _, Is _, Is _, Is _, Is _, Is _, Is _, Is _, Is _, fun v V => SlV V v (m.sha), Is _, Is _, Is _, Is _, Is _, Is _, Is _, Is _, Is _, Is _, Is _, Is _])
  · kernel_rfl
  · kernel_rfl
  · kernel_rfl
  · kernel_rfl
  · kernel_rfl
  · kernel_rfl
  · kernel_rfl
  · exact fun h => absurd rfl h
  · intro u
    simp only [List.take_succ_cons, List.take_zero, List.map_cons, List.map_nil, fillU, List.setIfInBounds_toArray, List.set_cons_zero, List.set_cons_succ, Nat.reduceAdd]
    exact rfl
  · simp only [List.take_succ_cons, List.take_zero]
    refine ⟨fun u W hb hd K hK => ?_, ?_⟩
    · clear hd
      go_simp
      apply hK
      · simp only [Act.put, zSa, zSz, zSs]
        exact rfl
      · exact CB.refl _ _
      · exact IsOut
    refine ⟨fun u W hb hd K hK => ?_, ?_⟩
    · simp only [Facts, nthR, Is, and_true] at hd
      have h0 := hd
      clear hd
      simp only [h0] at hK ⊢
      go_simp
      apply hK
      · simp only [Act.put, zSa, zSz, zSs]
        exact rfl
      · exact CB.refl _ _
      · exact IsOut
    refine ⟨fun u W hb hd K hK => ?_, ?_⟩
    · simp only [Facts, nthR, Is, and_true] at hd
      have h1 := hd
      clear hd
      simp only [h1] at hK ⊢
      go_simp
      apply hK
      · simp only [Act.put, zSa, zSz, zSs]
        exact rfl
      · exact CB.refl _ _
      · exact IsOut
    refine ⟨fun u W hb hd K hK => ?_, ?_⟩
    · simp only [Facts, nthR, Is, and_true] at hd
      have h2 := hd
      clear hd
      simp only [h2] at hK ⊢
      obtain ⟨v, hc, hv⟩ := (hM.below hb).ses
      go_simp
      exact hK _ _ _ rfl (CB.refl _ _) hv
    refine ⟨fun u W hb hd K hK => ?_, ?_⟩
    · simp only [Facts, nthR, and_true] at hd
      have h3 := hd
      clear hd
      go_simp
      refine (sized_e _ m.ses 0 32 _ h3).mono ?_
      rintro e wy ⟨rfl, hby⟩
      rw [y1.out]
      exact hK _ _ _ rfl (CB.of hby hb.size) IsOut
    refine ⟨fun u W hb hd K hK => ?_, ?_⟩
    · simp only [Facts, nthR, Is, and_true] at hd
      have h4 := hd
      clear hd
      simp only [h4] at hK ⊢
      go_simp
      apply hK
      · simp only [Act.put, zSa, zSz, zSs]
        exact rfl
      · exact CB.refl _ _
      · exact IsOut
    refine ⟨fun u W hb hd K hK => ?_, ?_⟩
    · simp only [Facts, nthR, Is, and_true] at hd
      have h5 := hd
      clear hd
      simp only [h5] at hK ⊢
      go_simp
      apply hK
      · simp only [Act.put, zSa, zSz, zSs]
        exact rfl
      · exact CB.refl _ _
      · exact IsOut
    refine ⟨fun u W hb hd K hK => ?_, ?_⟩
    · simp only [Facts, nthR, Is, and_true] at hd
      obtain ⟨h5, h6⟩ := hd
      simp only [h5, h6] at hK ⊢
      go_simp
      apply hK
      · simp only [Act.put, zSa, zSz, zSs]
        exact rfl
      · exact CB.refl _ _
      · exact IsOut
    refine ⟨fun u W hb hd K hK => ?_, ?_⟩
    · simp only [Facts, nthR, Is, and_true] at hd
      obtain ⟨h5, h7⟩ := hd
      simp only [h5, h7] at hK ⊢
      go_simp
      apply hK
      · simp only [Act.put, zSa, zSz, zSs]
        exact rfl
      · exact CB.refl _ _
      · exact IsOut
    refine ⟨fun u W hb hd K hK => ?_, ?_⟩
    · simp only [Facts, nthR, Is, and_true] at hd
      obtain ⟨h5, h8⟩ := hd
      simp only [h5, h8] at hK ⊢
      have hc := (hM.below hb).retry
      rw [y8.out] at hc
      go_simp
      apply hK
      · simp only [Act.put, zSa, zSz, zSs]
        exact rfl
      · exact CB.refl _ _
      · exact IsOut
    refine ⟨fun u W hb hd K hK => ?_, ?_⟩
    · simp only [Facts, nthR, Is, and_true] at hd
      obtain ⟨h5, h9⟩ := hd
      simp only [h5, h9] at hK ⊢
      go_simp
      apply hK
      · simp only [Act.put, zSa, zSz, zSs]
        exact rfl
      · exact CB.refl _ _
      · exact IsOut
    refine ⟨fun u W hb hd K hK => ?_, ?_⟩
    · simp only [Facts, nthR, Is, and_true] at hd
      have h10 := hd
      clear hd
      simp only [h10] at hK ⊢
      go_simp
      apply hK
      · simp only [Act.put, zSa, zSz, zSs]
        exact rfl
      · exact CB.refl _ _
      · exact IsOut
    refine ⟨fun u W hb hd K hK => ?_, ?_⟩
    · simp only [Facts, nthR, Is, and_true] at hd
      obtain ⟨h10, h11⟩ := hd
      simp only [h10, h11] at hK ⊢
      go_simp
      apply hK
      · simp only [Act.put, zSa, zSz, zSs]
        exact rfl
      · exact CB.refl _ _
      · exact IsOut
    refine ⟨fun u W hb hd K hK => ?_, ?_⟩
    · simp only [Facts, nthR, Is, and_true] at hd
      obtain ⟨h10, h12⟩ := hd
      simp only [h10, h12] at hK ⊢
      go_simp
      apply hK
      · simp only [Act.put, zSa, zSz, zSs]
        exact rfl
      · exact CB.refl _ _
      · exact IsOut
    refine ⟨fun u W hb hd K hK => ?_, ?_⟩
    · simp only [Facts, nthR, Is, and_true] at hd
      obtain ⟨h10, h13⟩ := hd
      simp only [h10, h13] at hK ⊢
      obtain ⟨v, hc, hv⟩ := (hM.below hb).sha
      go_simp
      exact hK _ _ _ rfl (CB.refl _ _) hv
    refine ⟨fun u W hb hd K hK => ?_, ?_⟩
    · simp only [Facts, nthR, Is, and_true] at hd
      obtain ⟨h10, h14⟩ := hd
      simp only [h10] at hK ⊢
      obtain ⟨A0, c0, e0, f0⟩ := h14
      simp only [e0] at hK ⊢
      go_simp
      apply hK
      · simp only [Act.put, zSa, zSz, zSs]
        exact rfl
      · exact CB.refl _ _
      · exact IsOut
    refine ⟨fun u W hb hd K hK => ?_, ?_⟩
    · simp only [Facts, nthR, Is, and_true] at hd
      obtain ⟨h10, h15⟩ := hd
      simp only [h10, h15] at hK ⊢
      have hh := Lib.hid (show ((m.sha.length : Int) == (65 : Int)) = _ from (beqN m.sha.length 65).trans y3.out)
      go_simp
      rw [hh.out]
      apply hK
      · simp only [Act.put, zSa, zSz, zSs]
        exact rfl
      · exact CB.refl _ _
      · exact IsOut
    refine ⟨fun u W hb hd K hK => ?_, ?_⟩
    · simp only [Facts, nthR, Is, and_true] at hd
      obtain ⟨h10, h16⟩ := hd
      simp only [h10, h16] at hK ⊢
      go_simp
      apply hK
      · simp only [Act.put, zSa, zSz, zSs]
        exact rfl
      · exact CB.refl _ _
      · exact IsOut
    refine ⟨fun u W hb hd K hK => ?_, ?_⟩
    · simp only [Facts, nthR, Is, and_true] at hd
      have h17 := hd
      clear hd
      simp only [h17] at hK ⊢
      go_simp
      apply hK
      · simp only [Act.put, zSa, zSz, zSs]
        exact rfl
      · exact CB.refl _ _
      · exact IsOut
    refine ⟨fun u W hb hd K hK => ?_, ?_⟩
    · simp only [Facts, nthR, Is, and_true] at hd
      obtain ⟨h17, h18⟩ := hd
      simp only [h17, h18] at hK ⊢
      go_simp
      apply hK
      · simp only [Act.put, zSa, zSz, zSs]
        exact rfl
      · exact CB.refl _ _
      · exact IsOut
    refine ⟨fun u W hb hd K hK => ?_, ?_⟩
    · simp only [Facts, nthR, Is, and_true] at hd
      obtain ⟨h17, h19⟩ := hd
      simp only [h17, h19] at hK ⊢
      go_simp
      apply hK
      · simp only [Act.put, zSa, zSz, zSs]
        exact rfl
      · exact CB.refl _ _
      · exact IsOut
    refine ⟨fun u W hb hd K hK => ?_, ?_⟩
    · simp only [Facts, nthR, Is, and_true] at hd
      obtain ⟨h17, h20⟩ := hd
      simp only [h17, h20] at hK ⊢
      rw [if_pos (by rfl)]
      refine wp_load_mid 22 (.tmp 73) rfl g 1 rfl (m.rnd.map B8) _ (hM.below hb).rnd Tryd.underlying22 rfl (info40.trans (by rw [List.length_map, hl.1])) ?_
      exact hK _ _ _ rfl (CB.refl _ _) IsOut
    refine ⟨fun u W hb hd K hK => ?_, ?_⟩
    · simp only [Facts, nthR, Is, and_true] at hd
      have h17 := hd
      clear hd
      simp only [h17] at hK ⊢
      rw [if_pos (by rfl)]
      refine wp_load_mid 22 (.global 0) rfl 0 0 rfl (special.map B8) _ (hT.below hb).1 Tryd.underlying22 rfl (info40.trans (by rw [List.length_map]; rfl)) ?_
      exact hK _ _ _ rfl (CB.refl _ _) IsOut
    refine ⟨fun u W hb hd K hK => ?_, ?_⟩
    · simp only [Facts, nthR, Is, and_true] at hd
      obtain ⟨h17, h21, h22⟩ := hd
      simp only [h17, h21, h22] at hK ⊢
      rw [if_pos (by rfl)]
      refine wp_neqA rfl rfl rfl guardB32 (EqB (Lib.hid hl.1) (Lib.hid rfl) y7 _) ?_
      exact hK _ _ _ rfl (CB.refl _ _) IsOut
    refine ⟨fun u W hb hd K hK => ?_, ?_⟩
    · simp only [Facts, nthR, Is, and_true] at hd
      obtain ⟨h10, h17, h23⟩ := hd
      simp only [h10, h17, h23] at hK ⊢
      go_simp
      apply hK
      · simp only [Act.put, zSa, zSz, zSs]
        exact rfl
      · exact CB.refl _ _
      · exact IsOut
    refine ⟨fun u W hb hd K hK => ?_, ?_⟩
    · simp only [Facts, nthR, Is, and_true] at hd
      obtain ⟨h5, h10, h24⟩ := hd
      simp only [h5, h10, h24] at hK ⊢
      go_simp
      apply hK
      · simp only [Act.put, zSa, zSz, zSs]
        exact rfl
      · exact CB.refl _ _
      · exact IsOut
    refine ⟨fun u W hb hd K hK => ?_, ?_⟩
    · simp only [Facts, nthR, Is, and_true] at hd
      obtain ⟨h5, h25⟩ := hd
      simp only [h5, h25] at hK ⊢
      go_simp
      apply hK
      · simp only [Act.put, zSa, zSz, zSs]
        exact rfl
      · exact CB.refl _ _
      · exact IsOut
    exact trivial
  · skip
    exact trivial
  · exact (.is (.is (.is (.cons (fun _ _ _ h hb => h.cb hb) (.is (.is (.is (.is (.is (.is (.is (.is (.is (.is (.cons (fun _ _ _ h hb => h.cb hb) (.is (.is (.is (.is (.is (.is (.is (.is (.is (.is (.is (.is .nil)))))))))))))))))))))))))))
  intro u w1 hb hd
  simp only [List.drop_succ_cons, List.drop_zero]
  simp only [Facts, nthR, Is, and_true] at hd
  have h26 := hd
  clear hd
  simp only [h26]
  clear h26
  replace hM := hM.below hb
  replace hT := hT.below hb
  replace hb0 := hb0.trans (hb.mono hb0.size)
  clear hb
  go_wp2
  refine bodyPost_ret (results_tmp Tryd.results35 _ _ _) rfl ?_
  exact ⟨rfl, hb0⟩
set_option maxRecDepth 100000 in
set_option maxHeartbeats 400000 in
theorem fits4a (m : Msg) (g : Nat) (w : World) (_hT : TabH w) (hM : MAt w g m) (hk : m.kind = 4) (y9 : Hid (wide m.life = false)) : Calls Tryd.prog 35 #[.pointer (some ⟨g, 0, none⟩)] w fun e w' => e = .returned (.bool false) ∧ Below w.heap.size w w' := by
  have hc := hM.kind
  rw [hk] at hc
  have hl := hM.lens
  go_enter Tryd.func35, Tryd.ntmps35
  have hb0 : Below w.heap.size w w := Below.refl _ _
  go_upto_region 7 with (fail)
  apply wp_plain_onceK (m := 26) (J := [[], [0], [1], [2], [3], [4], [5], [5, 6], [5, 7], [5, 8], [5, 9], [5, 10], [11], [12], [12, 13], [12, 14], [12, 15], [12, 16], [12, 17], [18], [19], [19, 20], [19, 21], [19, 22], [19, 23], [19, 24]]) (Je := [25]) (Rs := [Is _, Is _, Is _, Is _, Is _, Is _, Is _, Is _, Is _, Is _, Is _, Is _, Is _, Is _, Is _, Is _, Is _, Is _, Is _, Is _, Is _, Is _, Is _, Is _, Is _, Is _])
  · kernel_rfl
  · kernel_rfl
  · intro u
    simp only [List.take_succ_cons, List.take_zero, List.map_cons, List.map_nil, fillU, List.setIfInBounds_toArray, List.set_cons_zero, List.set_cons_succ, Nat.reduceAdd]
    exact rfl
  · simp only [List.take_succ_cons, List.take_zero]
    refine ⟨fun u W hb hd K hK => ?_, ?_⟩
    · clear hd
      go_simp
      apply hK
      · simp only [Act.put, zSa, zSz, zSs]
        exact rfl
      · exact CB.refl _ _
      · exact IsOut
    refine ⟨fun u W hb hd K hK => ?_, ?_⟩
    · simp only [Facts, nthR, Is, and_true] at hd
      have h0 := hd
      clear hd
      simp only [h0] at hK ⊢
      go_simp
      apply hK
      · simp only [Act.put, zSa, zSz, zSs]
        exact rfl
      · exact CB.refl _ _
      · exact IsOut
    refine ⟨fun u W hb hd K hK => ?_, ?_⟩
    · simp only [Facts, nthR, Is, and_true] at hd
      have h1 := hd
      clear hd
      simp only [h1] at hK ⊢
      go_simp
      apply hK
      · simp only [Act.put, zSa, zSz, zSs]
        exact rfl
      · exact CB.refl _ _
      · exact IsOut
    refine ⟨fun u W hb hd K hK => ?_, ?_⟩
    · simp only [Facts, nthR, Is, and_true] at hd
      have h2 := hd
      clear hd
      simp only [h2] at hK ⊢
      have hc := (hM.below hb).life
      go_simp
      apply hK
      · simp only [Act.put, zSa, zSz, zSs]
        exact rfl
      · exact CB.refl _ _
      · exact IsOut
    refine ⟨fun u W hb hd K hK => ?_, ?_⟩
    · simp only [Facts, nthR, Is, and_true] at hd
      have h3 := hd
      clear hd
      simp only [h3] at hK ⊢
      go_simp
      refine (isNumber_e m.life _).mono ?_
      rintro e wy ⟨rfl, hby⟩
      rw [y9.out]
      exact hK _ _ _ rfl (CB.of hby hb.size) IsOut
    refine ⟨fun u W hb hd K hK => ?_, ?_⟩
    · simp only [Facts, nthR, Is, and_true] at hd
      have h4 := hd
      clear hd
      simp only [h4] at hK ⊢
      go_simp
      apply hK
      · simp only [Act.put, zSa, zSz, zSs]
        exact rfl
      · exact CB.refl _ _
      · exact IsOut
    refine ⟨fun u W hb hd K hK => ?_, ?_⟩
    · simp only [Facts, nthR, Is, and_true] at hd
      have h5 := hd
      clear hd
      simp only [h5] at hK ⊢
      go_simp
      apply hK
      · simp only [Act.put, zSa, zSz, zSs]
        exact rfl
      · exact CB.refl _ _
      · exact IsOut
    refine ⟨fun u W hb hd K hK => ?_, ?_⟩
    · simp only [Facts, nthR, Is, and_true] at hd
      obtain ⟨h5, h6⟩ := hd
      simp only [h5, h6] at hK ⊢
      go_simp
      apply hK
      · simp only [Act.put, zSa, zSz, zSs]
        exact rfl
      · exact CB.refl _ _
      · exact IsOut
    refine ⟨fun u W hb hd K hK => ?_, ?_⟩
    · simp only [Facts, nthR, Is, and_true] at hd
      obtain ⟨h5, h7⟩ := hd
      simp only [h5, h7] at hK ⊢
      go_simp
      apply hK
      · simp only [Act.put, zSa, zSz, zSs]
        exact rfl
      · exact CB.refl _ _
      · exact IsOut
    refine ⟨fun u W hb hd K hK => ?_, ?_⟩
    · simp only [Facts, nthR, Is, and_true] at hd
      obtain ⟨h5, h8⟩ := hd
      simp only [h5, h8] at hK ⊢
      go_simp
      apply hK
      · simp only [Act.put, zSa, zSz, zSs]
        exact rfl
      · exact CB.refl _ _
      · exact IsOut
    refine ⟨fun u W hb hd K hK => ?_, ?_⟩
    · simp only [Facts, nthR, Is, and_true] at hd
      obtain ⟨h5, h9⟩ := hd
      simp only [h5, h9] at hK ⊢
      go_simp
      apply hK
      · simp only [Act.put, zSa, zSz, zSs]
        exact rfl
      · exact CB.refl _ _
      · exact IsOut
    refine ⟨fun u W hb hd K hK => ?_, ?_⟩
    · simp only [Facts, nthR, Is, and_true] at hd
      obtain ⟨h5, h10⟩ := hd
      simp only [h5, h10] at hK ⊢
      go_simp
      apply hK
      · simp only [Act.put, zSa, zSz, zSs]
        exact rfl
      · exact CB.refl _ _
      · exact IsOut
    refine ⟨fun u W hb hd K hK => ?_, ?_⟩
    · simp only [Facts, nthR, Is, and_true] at hd
      have h11 := hd
      clear hd
      simp only [h11] at hK ⊢
      go_simp
      apply hK
      · simp only [Act.put, zSa, zSz, zSs]
        exact rfl
      · exact CB.refl _ _
      · exact IsOut
    refine ⟨fun u W hb hd K hK => ?_, ?_⟩
    · simp only [Facts, nthR, Is, and_true] at hd
      have h12 := hd
      clear hd
      simp only [h12] at hK ⊢
      go_simp
      apply hK
      · simp only [Act.put, zSa, zSz, zSs]
        exact rfl
      · exact CB.refl _ _
      · exact IsOut
    refine ⟨fun u W hb hd K hK => ?_, ?_⟩
    · simp only [Facts, nthR, Is, and_true] at hd
      obtain ⟨h12, h13⟩ := hd
      simp only [h12, h13] at hK ⊢
      go_simp
      apply hK
      · simp only [Act.put, zSa, zSz, zSs]
        exact rfl
      · exact CB.refl _ _
      · exact IsOut
    refine ⟨fun u W hb hd K hK => ?_, ?_⟩
    · simp only [Facts, nthR, Is, and_true] at hd
      obtain ⟨h12, h14⟩ := hd
      simp only [h12, h14] at hK ⊢
      go_simp
      apply hK
      · simp only [Act.put, zSa, zSz, zSs]
        exact rfl
      · exact CB.refl _ _
      · exact IsOut
    refine ⟨fun u W hb hd K hK => ?_, ?_⟩
    · simp only [Facts, nthR, Is, and_true] at hd
      obtain ⟨h12, h15⟩ := hd
      simp only [h12, h15] at hK ⊢
      go_simp
      apply hK
      · simp only [Act.put, zSa, zSz, zSs]
        exact rfl
      · exact CB.refl _ _
      · exact IsOut
    refine ⟨fun u W hb hd K hK => ?_, ?_⟩
    · simp only [Facts, nthR, Is, and_true] at hd
      obtain ⟨h12, h16⟩ := hd
      simp only [h12, h16] at hK ⊢
      go_simp
      apply hK
      · simp only [Act.put, zSa, zSz, zSs]
        exact rfl
      · exact CB.refl _ _
      · exact IsOut
    refine ⟨fun u W hb hd K hK => ?_, ?_⟩
    · simp only [Facts, nthR, Is, and_true] at hd
      obtain ⟨h12, h17⟩ := hd
      simp only [h12, h17] at hK ⊢
      go_simp
      apply hK
      · simp only [Act.put, zSa, zSz, zSs]
        exact rfl
      · exact CB.refl _ _
      · exact IsOut
    refine ⟨fun u W hb hd K hK => ?_, ?_⟩
    · simp only [Facts, nthR, Is, and_true] at hd
      have h18 := hd
      clear hd
      simp only [h18] at hK ⊢
      go_simp
      apply hK
      · simp only [Act.put, zSa, zSz, zSs]
        exact rfl
      · exact CB.refl _ _
      · exact IsOut
    refine ⟨fun u W hb hd K hK => ?_, ?_⟩
    · simp only [Facts, nthR, Is, and_true] at hd
      have h19 := hd
      clear hd
      simp only [h19] at hK ⊢
      go_simp
      apply hK
      · simp only [Act.put, zSa, zSz, zSs]
        exact rfl
      · exact CB.refl _ _
      · exact IsOut
    refine ⟨fun u W hb hd K hK => ?_, ?_⟩
    · simp only [Facts, nthR, Is, and_true] at hd
      obtain ⟨h19, h20⟩ := hd
      simp only [h19, h20] at hK ⊢
      go_simp
      apply hK
      · simp only [Act.put, zSa, zSz, zSs]
        exact rfl
      · exact CB.refl _ _
      · exact IsOut
    refine ⟨fun u W hb hd K hK => ?_, ?_⟩
    · simp only [Facts, nthR, Is, and_true] at hd
      obtain ⟨h19, h21⟩ := hd
      simp only [h19, h21] at hK ⊢
      go_simp
      apply hK
      · simp only [Act.put, zSa, zSz, zSs]
        exact rfl
      · exact CB.refl _ _
      · exact IsOut
    refine ⟨fun u W hb hd K hK => ?_, ?_⟩
    · simp only [Facts, nthR, Is, and_true] at hd
      obtain ⟨h19, h22⟩ := hd
      simp only [h19, h22] at hK ⊢
      go_simp
      apply hK
      · simp only [Act.put, zSa, zSz, zSs]
        exact rfl
      · exact CB.refl _ _
      · exact IsOut
    refine ⟨fun u W hb hd K hK => ?_, ?_⟩
    · simp only [Facts, nthR, Is, and_true] at hd
      obtain ⟨h19, h23⟩ := hd
      simp only [h19, h23] at hK ⊢
      go_simp
      apply hK
      · simp only [Act.put, zSa, zSz, zSs]
        exact rfl
      · exact CB.refl _ _
      · exact IsOut
    refine ⟨fun u W hb hd K hK => ?_, ?_⟩
    · simp only [Facts, nthR, Is, and_true] at hd
      obtain ⟨h19, h24⟩ := hd
      simp only [h19, h24] at hK ⊢
      go_simp
      apply hK
      · simp only [Act.put, zSa, zSz, zSs]
        exact rfl
      · exact CB.refl _ _
      · exact IsOut
    exact trivial
  · exact (.is (.is (.is (.is (.is (.is (.is (.is (.is (.is (.is (.is (.is (.is (.is (.is (.is (.is (.is (.is (.is (.is (.is (.is (.is (.is .nil))))))))))))))))))))))))))
  intro u w1 hb hd
  simp only [List.drop_succ_cons, List.drop_zero]
  simp only [Facts, nthR, Is, and_true] at hd
  have h25 := hd
  clear hd
  simp only [h25]
  clear h25
  replace hM := hM.below hb
  replace hb0 := hb0.trans (hb.mono hb0.size)
  clear hb
  go_wp2
  refine bodyPost_ret (results_tmp Tryd.results35 _ _ _) rfl ?_
  exact ⟨rfl, hb0⟩
set_option maxRecDepth 100000 in
set_option maxHeartbeats 400000 in
theorem fits4b (m : Msg) (g : Nat) (w : World) (_hT : TabH w) (hM : MAt w g m) (hk : m.kind = 4) (y9 : Hid (wide m.life = true))(y6 : Hid (wide m.age = false)) : Calls Tryd.prog 35 #[.pointer (some ⟨g, 0, none⟩)] w fun e w' => e = .returned (.bool false) ∧ Below w.heap.size w w' := by
  have hc := hM.kind
  rw [hk] at hc
  have hl := hM.lens
  go_enter Tryd.func35, Tryd.ntmps35
  have hb0 : Below w.heap.size w w := Below.refl _ _
  go_upto_region 7 with (fail)
  apply wp_plain_onceK (m := 26) (J := [[], [0], [1], [2], [3], [4], [5], [5, 6], [5, 7], [5, 8], [5, 9], [5, 10], [11], [12], [12, 13], [12, 14], [12, 15], [12, 16], [12, 17], [18], [19], [19, 20], [19, 21], [19, 22], [19, 23], [19, 24]]) (Je := [25]) (Rs := [Is _, Is _, Is _, Is _, Is _, Is _, Is _, Is _, Is _, Is _, Is _, Is _, Is _, Is _, Is _, Is _, Is _, Is _, Is _, Is _, Is _, Is _, Is _, Is _, Is _, Is _])
  · kernel_rfl
  · kernel_rfl
  · intro u
    simp only [List.take_succ_cons, List.take_zero, List.map_cons, List.map_nil, fillU, List.setIfInBounds_toArray, List.set_cons_zero, List.set_cons_succ, Nat.reduceAdd]
    exact rfl
  · simp only [List.take_succ_cons, List.take_zero]
    refine ⟨fun u W hb hd K hK => ?_, ?_⟩
    · clear hd
      go_simp
      apply hK
      · simp only [Act.put, zSa, zSz, zSs]
        exact rfl
      · exact CB.refl _ _
      · exact IsOut
    refine ⟨fun u W hb hd K hK => ?_, ?_⟩
    · simp only [Facts, nthR, Is, and_true] at hd
      have h0 := hd
      clear hd
      simp only [h0] at hK ⊢
      go_simp
      apply hK
      · simp only [Act.put, zSa, zSz, zSs]
        exact rfl
      · exact CB.refl _ _
      · exact IsOut
    refine ⟨fun u W hb hd K hK => ?_, ?_⟩
    · simp only [Facts, nthR, Is, and_true] at hd
      have h1 := hd
      clear hd
      simp only [h1] at hK ⊢
      go_simp
      apply hK
      · simp only [Act.put, zSa, zSz, zSs]
        exact rfl
      · exact CB.refl _ _
      · exact IsOut
    refine ⟨fun u W hb hd K hK => ?_, ?_⟩
    · simp only [Facts, nthR, Is, and_true] at hd
      have h2 := hd
      clear hd
      simp only [h2] at hK ⊢
      have hc := (hM.below hb).life
      go_simp
      apply hK
      · simp only [Act.put, zSa, zSz, zSs]
        exact rfl
      · exact CB.refl _ _
      · exact IsOut
    refine ⟨fun u W hb hd K hK => ?_, ?_⟩
    · simp only [Facts, nthR, Is, and_true] at hd
      have h3 := hd
      clear hd
      simp only [h3] at hK ⊢
      go_simp
      refine (isNumber_e m.life _).mono ?_
      rintro e wy ⟨rfl, hby⟩
      rw [y9.out]
      exact hK _ _ _ rfl (CB.of hby hb.size) IsOut
    refine ⟨fun u W hb hd K hK => ?_, ?_⟩
    · simp only [Facts, nthR, Is, and_true] at hd
      have h4 := hd
      clear hd
      simp only [h4] at hK ⊢
      go_simp
      apply hK
      · simp only [Act.put, zSa, zSz, zSs]
        exact rfl
      · exact CB.refl _ _
      · exact IsOut
    refine ⟨fun u W hb hd K hK => ?_, ?_⟩
    · simp only [Facts, nthR, Is, and_true] at hd
      have h5 := hd
      clear hd
      simp only [h5] at hK ⊢
      go_simp
      apply hK
      · simp only [Act.put, zSa, zSz, zSs]
        exact rfl
      · exact CB.refl _ _
      · exact IsOut
    refine ⟨fun u W hb hd K hK => ?_, ?_⟩
    · simp only [Facts, nthR, Is, and_true] at hd
      obtain ⟨h5, h6⟩ := hd
      simp only [h5, h6] at hK ⊢
      go_simp
      apply hK
      · simp only [Act.put, zSa, zSz, zSs]
        exact rfl
      · exact CB.refl _ _
      · exact IsOut
    refine ⟨fun u W hb hd K hK => ?_, ?_⟩
    · simp only [Facts, nthR, Is, and_true] at hd
      obtain ⟨h5, h7⟩ := hd
      simp only [h5, h7] at hK ⊢
      go_simp
      apply hK
      · simp only [Act.put, zSa, zSz, zSs]
        exact rfl
      · exact CB.refl _ _
      · exact IsOut
    refine ⟨fun u W hb hd K hK => ?_, ?_⟩
    · simp only [Facts, nthR, Is, and_true] at hd
      obtain ⟨h5, h8⟩ := hd
      simp only [h5, h8] at hK ⊢
      have hc := (hM.below hb).age
      go_simp
      apply hK
      · simp only [Act.put, zSa, zSz, zSs]
        exact rfl
      · exact CB.refl _ _
      · exact IsOut
    refine ⟨fun u W hb hd K hK => ?_, ?_⟩
    · simp only [Facts, nthR, Is, and_true] at hd
      obtain ⟨h5, h9⟩ := hd
      simp only [h5, h9] at hK ⊢
      go_simp
      refine (isNumber_e m.age _).mono ?_
      rintro e wy ⟨rfl, hby⟩
      rw [y6.out]
      exact hK _ _ _ rfl (CB.of hby hb.size) IsOut
    refine ⟨fun u W hb hd K hK => ?_, ?_⟩
    · simp only [Facts, nthR, Is, and_true] at hd
      obtain ⟨h5, h10⟩ := hd
      simp only [h5, h10] at hK ⊢
      go_simp
      apply hK
      · simp only [Act.put, zSa, zSz, zSs]
        exact rfl
      · exact CB.refl _ _
      · exact IsOut
    refine ⟨fun u W hb hd K hK => ?_, ?_⟩
    · simp only [Facts, nthR, Is, and_true] at hd
      have h11 := hd
      clear hd
      simp only [h11] at hK ⊢
      go_simp
      apply hK
      · simp only [Act.put, zSa, zSz, zSs]
        exact rfl
      · exact CB.refl _ _
      · exact IsOut
    refine ⟨fun u W hb hd K hK => ?_, ?_⟩
    · simp only [Facts, nthR, Is, and_true] at hd
      have h12 := hd
      clear hd
      simp only [h12] at hK ⊢
      go_simp
      apply hK
      · simp only [Act.put, zSa, zSz, zSs]
        exact rfl
      · exact CB.refl _ _
      · exact IsOut
    refine ⟨fun u W hb hd K hK => ?_, ?_⟩
    · simp only [Facts, nthR, Is, and_true] at hd
      obtain ⟨h12, h13⟩ := hd
      simp only [h12, h13] at hK ⊢
      go_simp
      apply hK
      · simp only [Act.put, zSa, zSz, zSs]
        exact rfl
      · exact CB.refl _ _
      · exact IsOut
    refine ⟨fun u W hb hd K hK => ?_, ?_⟩
    · simp only [Facts, nthR, Is, and_true] at hd
      obtain ⟨h12, h14⟩ := hd
      simp only [h12, h14] at hK ⊢
      go_simp
      apply hK
      · simp only [Act.put, zSa, zSz, zSs]
        exact rfl
      · exact CB.refl _ _
      · exact IsOut
    refine ⟨fun u W hb hd K hK => ?_, ?_⟩
    · simp only [Facts, nthR, Is, and_true] at hd
      obtain ⟨h12, h15⟩ := hd
      simp only [h12, h15] at hK ⊢
      go_simp
      apply hK
      · simp only [Act.put, zSa, zSz, zSs]
        exact rfl
      · exact CB.refl _ _
      · exact IsOut
    refine ⟨fun u W hb hd K hK => ?_, ?_⟩
    · simp only [Facts, nthR, Is, and_true] at hd
      obtain ⟨h12, h16⟩ := hd
      simp only [h12, h16] at hK ⊢
      go_simp
      apply hK
      · simp only [Act.put, zSa, zSz, zSs]
        exact rfl
      · exact CB.refl _ _
      · exact IsOut
    refine ⟨fun u W hb hd K hK => ?_, ?_⟩
    · simp only [Facts, nthR, Is, and_true] at hd
      obtain ⟨h12, h17⟩ := hd
      simp only [h12, h17] at hK ⊢
      go_simp
      apply hK
      · simp only [Act.put, zSa, zSz, zSs]
        exact rfl
      · exact CB.refl _ _
      · exact IsOut
    refine ⟨fun u W hb hd K hK => ?_, ?_⟩
    · simp only [Facts, nthR, Is, and_true] at hd
      have h18 := hd
      clear hd
      simp only [h18] at hK ⊢
      go_simp
      apply hK
      · simp only [Act.put, zSa, zSz, zSs]
        exact rfl
      · exact CB.refl _ _
      · exact IsOut
    refine ⟨fun u W hb hd K hK => ?_, ?_⟩
    · simp only [Facts, nthR, Is, and_true] at hd
      have h19 := hd
      clear hd
      simp only [h19] at hK ⊢
      go_simp
      apply hK
      · simp only [Act.put, zSa, zSz, zSs]
        exact rfl
      · exact CB.refl _ _
      · exact IsOut
    refine ⟨fun u W hb hd K hK => ?_, ?_⟩
    · simp only [Facts, nthR, Is, and_true] at hd
      obtain ⟨h19, h20⟩ := hd
      simp only [h19, h20] at hK ⊢
      go_simp
      apply hK
      · simp only [Act.put, zSa, zSz, zSs]
        exact rfl
      · exact CB.refl _ _
      · exact IsOut
    refine ⟨fun u W hb hd K hK => ?_, ?_⟩
    · simp only [Facts, nthR, Is, and_true] at hd
      obtain ⟨h19, h21⟩ := hd
      simp only [h19, h21] at hK ⊢
      go_simp
      apply hK
      · simp only [Act.put, zSa, zSz, zSs]
        exact rfl
      · exact CB.refl _ _
      · exact IsOut
    refine ⟨fun u W hb hd K hK => ?_, ?_⟩
    · simp only [Facts, nthR, Is, and_true] at hd
      obtain ⟨h19, h22⟩ := hd
      simp only [h19, h22] at hK ⊢
      go_simp
      apply hK
      · simp only [Act.put, zSa, zSz, zSs]
        exact rfl
      · exact CB.refl _ _
      · exact IsOut
    refine ⟨fun u W hb hd K hK => ?_, ?_⟩
    · simp only [Facts, nthR, Is, and_true] at hd
      obtain ⟨h19, h23⟩ := hd
      simp only [h19, h23] at hK ⊢
      go_simp
      apply hK
      · simp only [Act.put, zSa, zSz, zSs]
        exact rfl
      · exact CB.refl _ _
      · exact IsOut
    refine ⟨fun u W hb hd K hK => ?_, ?_⟩
    · simp only [Facts, nthR, Is, and_true] at hd
      obtain ⟨h19, h24⟩ := hd
      simp only [h19, h24] at hK ⊢
      go_simp
      apply hK
      · simp only [Act.put, zSa, zSz, zSs]
        exact rfl
      · exact CB.refl _ _
      · exact IsOut
    exact trivial
  · exact (.is (.is (.is (.is (.is (.is (.is (.is (.is (.is (.is (.is (.is (.is (.is (.is (.is (.is (.is (.is (.is (.is (.is (.is (.is (.is .nil))))))))))))))))))))))))))
  intro u w1 hb hd
  simp only [List.drop_succ_cons, List.drop_zero]
  simp only [Facts, nthR, Is, and_true] at hd
  have h25 := hd
  clear hd
  simp only [h25]
  clear h25
  replace hM := hM.below hb
  replace hb0 := hb0.trans (hb.mono hb0.size)
  clear hb
  go_wp2
  refine bodyPost_ret (results_tmp Tryd.results35 _ _ _) rfl ?_
  exact ⟨rfl, hb0⟩
set_option maxRecDepth 100000 in
set_option maxHeartbeats 400000 in
theorem fits4c (m : Msg) (g : Nat) (w : World) (_hT : TabH w) (hM : MAt w g m) (hk : m.kind = 4) (y9 : Hid (wide m.life = true))(y6 : Hid (wide m.age = true))(y10 : Hid (sized m.non 1 8 = false)) : Calls Tryd.prog 35 #[.pointer (some ⟨g, 0, none⟩)] w fun e w' => e = .returned (.bool false) ∧ Below w.heap.size w w' := by
  have hc := hM.kind
  rw [hk] at hc
  have hl := hM.lens
  go_enter Tryd.func35, Tryd.ntmps35
  have hb0 : Below w.heap.size w w := Below.refl _ _
  go_upto_region 7 with (fail)
  apply wp_plain_onceK (m := 26) (J := [[], [0], [1], [2], [3], [4], [5], [5, 6], [5, 7], [5, 8], [5, 9], [5, 10], [11], [12], [12, 13], [12, 14], [12, 15], [12, 16], [12, 17], [18], [19], [19, 20], [19, 21], [19, 22], [19, 23], [19, 24]]) (Je := [25]) (Rs := [Is _, Is _, Is _, Is _, Is _, Is _, Is _, Is _, Is _, Is _, Is _, Is _, Is _, Is _, Is _, Is _, fun v V => SlV V v (m.non), Is _, Is _, Is _, Is _, Is _, Is _, Is _, Is _, Is _])
  · kernel_rfl
  · kernel_rfl
  · intro u
    simp only [List.take_succ_cons, List.take_zero, List.map_cons, List.map_nil, fillU, List.setIfInBounds_toArray, List.set_cons_zero, List.set_cons_succ, Nat.reduceAdd]
    exact rfl
  · simp only [List.take_succ_cons, List.take_zero]
    refine ⟨fun u W hb hd K hK => ?_, ?_⟩
    · clear hd
      go_simp
      apply hK
      · simp only [Act.put, zSa, zSz, zSs]
        exact rfl
      · exact CB.refl _ _
      · exact IsOut
    refine ⟨fun u W hb hd K hK => ?_, ?_⟩
    · simp only [Facts, nthR, Is, and_true] at hd
      have h0 := hd
      clear hd
      simp only [h0] at hK ⊢
      go_simp
      apply hK
      · simp only [Act.put, zSa, zSz, zSs]
        exact rfl
      · exact CB.refl _ _
      · exact IsOut
    refine ⟨fun u W hb hd K hK => ?_, ?_⟩
    · simp only [Facts, nthR, Is, and_true] at hd
      have h1 := hd
      clear hd
      simp only [h1] at hK ⊢
      go_simp
      apply hK
      · simp only [Act.put, zSa, zSz, zSs]
        exact rfl
      · exact CB.refl _ _
      · exact IsOut
    refine ⟨fun u W hb hd K hK => ?_, ?_⟩
    · simp only [Facts, nthR, Is, and_true] at hd
      have h2 := hd
      clear hd
      simp only [h2] at hK ⊢
      have hc := (hM.below hb).life
      go_simp
      apply hK
      · simp only [Act.put, zSa, zSz, zSs]
        exact rfl
      · exact CB.refl _ _
      · exact IsOut
    refine ⟨fun u W hb hd K hK => ?_, ?_⟩
    · simp only [Facts, nthR, Is, and_true] at hd
      have h3 := hd
      clear hd
      simp only [h3] at hK ⊢
      go_simp
      refine (isNumber_e m.life _).mono ?_
      rintro e wy ⟨rfl, hby⟩
      rw [y9.out]
      exact hK _ _ _ rfl (CB.of hby hb.size) IsOut
    refine ⟨fun u W hb hd K hK => ?_, ?_⟩
    · simp only [Facts, nthR, Is, and_true] at hd
      have h4 := hd
      clear hd
      simp only [h4] at hK ⊢
      go_simp
      apply hK
      · simp only [Act.put, zSa, zSz, zSs]
        exact rfl
      · exact CB.refl _ _
      · exact IsOut
    refine ⟨fun u W hb hd K hK => ?_, ?_⟩
    · simp only [Facts, nthR, Is, and_true] at hd
      have h5 := hd
      clear hd
      simp only [h5] at hK ⊢
      go_simp
      apply hK
      · simp only [Act.put, zSa, zSz, zSs]
        exact rfl
      · exact CB.refl _ _
      · exact IsOut
    refine ⟨fun u W hb hd K hK => ?_, ?_⟩
    · simp only [Facts, nthR, Is, and_true] at hd
      obtain ⟨h5, h6⟩ := hd
      simp only [h5, h6] at hK ⊢
      go_simp
      apply hK
      · simp only [Act.put, zSa, zSz, zSs]
        exact rfl
      · exact CB.refl _ _
      · exact IsOut
    refine ⟨fun u W hb hd K hK => ?_, ?_⟩
    · simp only [Facts, nthR, Is, and_true] at hd
      obtain ⟨h5, h7⟩ := hd
      simp only [h5, h7] at hK ⊢
      go_simp
      apply hK
      · simp only [Act.put, zSa, zSz, zSs]
        exact rfl
      · exact CB.refl _ _
      · exact IsOut
    refine ⟨fun u W hb hd K hK => ?_, ?_⟩
    · simp only [Facts, nthR, Is, and_true] at hd
      obtain ⟨h5, h8⟩ := hd
      simp only [h5, h8] at hK ⊢
      have hc := (hM.below hb).age
      go_simp
      apply hK
      · simp only [Act.put, zSa, zSz, zSs]
        exact rfl
      · exact CB.refl _ _
      · exact IsOut
    refine ⟨fun u W hb hd K hK => ?_, ?_⟩
    · simp only [Facts, nthR, Is, and_true] at hd
      obtain ⟨h5, h9⟩ := hd
      simp only [h5, h9] at hK ⊢
      go_simp
      refine (isNumber_e m.age _).mono ?_
      rintro e wy ⟨rfl, hby⟩
      rw [y6.out]
      exact hK _ _ _ rfl (CB.of hby hb.size) IsOut
    refine ⟨fun u W hb hd K hK => ?_, ?_⟩
    · simp only [Facts, nthR, Is, and_true] at hd
      obtain ⟨h5, h10⟩ := hd
      simp only [h5, h10] at hK ⊢
      go_simp
      apply hK
      · simp only [Act.put, zSa, zSz, zSs]
        exact rfl
      · exact CB.refl _ _
      · exact IsOut
    refine ⟨fun u W hb hd K hK => ?_, ?_⟩
    · simp only [Facts, nthR, Is, and_true] at hd
      have h11 := hd
      clear hd
      simp only [h11] at hK ⊢
      go_simp
      apply hK
      · simp only [Act.put, zSa, zSz, zSs]
        exact rfl
      · exact CB.refl _ _
      · exact IsOut
    refine ⟨fun u W hb hd K hK => ?_, ?_⟩
    · simp only [Facts, nthR, Is, and_true] at hd
      have h12 := hd
      clear hd
      simp only [h12] at hK ⊢
      go_simp
      apply hK
      · simp only [Act.put, zSa, zSz, zSs]
        exact rfl
      · exact CB.refl _ _
      · exact IsOut
    refine ⟨fun u W hb hd K hK => ?_, ?_⟩
    · simp only [Facts, nthR, Is, and_true] at hd
      obtain ⟨h12, h13⟩ := hd
      simp only [h12, h13] at hK ⊢
      go_simp
      apply hK
      · simp only [Act.put, zSa, zSz, zSs]
        exact rfl
      · exact CB.refl _ _
      · exact IsOut
    refine ⟨fun u W hb hd K hK => ?_, ?_⟩
    · simp only [Facts, nthR, Is, and_true] at hd
      obtain ⟨h12, h14⟩ := hd
      simp only [h12, h14] at hK ⊢
      go_simp
      apply hK
      · simp only [Act.put, zSa, zSz, zSs]
        exact rfl
      · exact CB.refl _ _
      · exact IsOut
    refine ⟨fun u W hb hd K hK => ?_, ?_⟩
    · simp only [Facts, nthR, Is, and_true] at hd
      obtain ⟨h12, h15⟩ := hd
      simp only [h12, h15] at hK ⊢
      obtain ⟨v, hc, hv⟩ := (hM.below hb).non
      go_simp
      exact hK _ _ _ rfl (CB.refl _ _) hv
    refine ⟨fun u W hb hd K hK => ?_, ?_⟩
    · simp only [Facts, nthR, Is, and_true] at hd
      obtain ⟨h12, h16⟩ := hd
      simp only [h12] at hK ⊢
      go_simp
      refine (sized_e _ m.non 1 8 _ h16).mono ?_
      rintro e wy ⟨rfl, hby⟩
      rw [y10.out]
      exact hK _ _ _ rfl (CB.of hby hb.size) IsOut
    refine ⟨fun u W hb hd K hK => ?_, ?_⟩
    · simp only [Facts, nthR, Is, and_true] at hd
      obtain ⟨h12, h17⟩ := hd
      simp only [h12, h17] at hK ⊢
      go_simp
      apply hK
      · simp only [Act.put, zSa, zSz, zSs]
        exact rfl
      · exact CB.refl _ _
      · exact IsOut
    refine ⟨fun u W hb hd K hK => ?_, ?_⟩
    · simp only [Facts, nthR, Is, and_true] at hd
      have h18 := hd
      clear hd
      simp only [h18] at hK ⊢
      go_simp
      apply hK
      · simp only [Act.put, zSa, zSz, zSs]
        exact rfl
      · exact CB.refl _ _
      · exact IsOut
    refine ⟨fun u W hb hd K hK => ?_, ?_⟩
    · simp only [Facts, nthR, Is, and_true] at hd
      have h19 := hd
      clear hd
      simp only [h19] at hK ⊢
      go_simp
      apply hK
      · simp only [Act.put, zSa, zSz, zSs]
        exact rfl
      · exact CB.refl _ _
      · exact IsOut
    refine ⟨fun u W hb hd K hK => ?_, ?_⟩
    · simp only [Facts, nthR, Is, and_true] at hd
      obtain ⟨h19, h20⟩ := hd
      simp only [h19, h20] at hK ⊢
      go_simp
      apply hK
      · simp only [Act.put, zSa, zSz, zSs]
        exact rfl
      · exact CB.refl _ _
      · exact IsOut
    refine ⟨fun u W hb hd K hK => ?_, ?_⟩
    · simp only [Facts, nthR, Is, and_true] at hd
      obtain ⟨h19, h21⟩ := hd
      simp only [h19, h21] at hK ⊢
      go_simp
      apply hK
      · simp only [Act.put, zSa, zSz, zSs]
        exact rfl
      · exact CB.refl _ _
      · exact IsOut
    refine ⟨fun u W hb hd K hK => ?_, ?_⟩
    · simp only [Facts, nthR, Is, and_true] at hd
      obtain ⟨h19, h22⟩ := hd
      simp only [h19, h22] at hK ⊢
      go_simp
      apply hK
      · simp only [Act.put, zSa, zSz, zSs]
        exact rfl
      · exact CB.refl _ _
      · exact IsOut
    refine ⟨fun u W hb hd K hK => ?_, ?_⟩
    · simp only [Facts, nthR, Is, and_true] at hd
      obtain ⟨h19, h23⟩ := hd
      simp only [h19, h23] at hK ⊢
      go_simp
      apply hK
      · simp only [Act.put, zSa, zSz, zSs]
        exact rfl
      · exact CB.refl _ _
      · exact IsOut
    refine ⟨fun u W hb hd K hK => ?_, ?_⟩
    · simp only [Facts, nthR, Is, and_true] at hd
      obtain ⟨h19, h24⟩ := hd
      simp only [h19, h24] at hK ⊢
      go_simp
      apply hK
      · simp only [Act.put, zSa, zSz, zSs]
        exact rfl
      · exact CB.refl _ _
      · exact IsOut
    exact trivial
  · exact (.is (.is (.is (.is (.is (.is (.is (.is (.is (.is (.is (.is (.is (.is (.is (.is (.cons (fun _ _ _ h hb => h.cb hb) (.is (.is (.is (.is (.is (.is (.is (.is (.is .nil))))))))))))))))))))))))))
  intro u w1 hb hd
  simp only [List.drop_succ_cons, List.drop_zero]
  simp only [Facts, nthR, Is, and_true] at hd
  have h25 := hd
  clear hd
  simp only [h25]
  clear h25
  replace hM := hM.below hb
  replace hb0 := hb0.trans (hb.mono hb0.size)
  clear hb
  go_wp2
  refine bodyPost_ret (results_tmp Tryd.results35 _ _ _) rfl ?_
  exact ⟨rfl, hb0⟩
set_option maxRecDepth 100000 in
set_option maxHeartbeats 400000 in
theorem fits4d (m : Msg) (g : Nat) (w : World) (_hT : TabH w) (hM : MAt w g m) (hk : m.kind = 4) (y9 : Hid (wide m.life = true))(y6 : Hid (wide m.age = true))(y10 : Hid (sized m.non 1 8 = true))(y5 : Hid (sized m.tic 1 1000 = false)) : Calls Tryd.prog 35 #[.pointer (some ⟨g, 0, none⟩)] w fun e w' => e = .returned (.bool false) ∧ Below w.heap.size w w' := by
  have hc := hM.kind
  rw [hk] at hc
  have hl := hM.lens
  go_enter Tryd.func35, Tryd.ntmps35
  have hb0 : Below w.heap.size w w := Below.refl _ _
  go_upto_region 7 with (fail)
  apply wp_plain_onceK (m := 26) (J := [[], [0], [1], [2], [3], [4], [5], [5, 6], [5, 7], [5, 8], [5, 9], [5, 10], [11], [12], [12, 13], [12, 14], [12, 15], [12, 16], [12, 17], [18], [19], [19, 20], [19, 21], [19, 22], [19, 23], [19, 24]]) (Je := [25]) (Rs := [Is _, Is _, Is _, Is _, Is _, Is _, Is _, Is _, Is _, Is _, Is _, Is _, Is _, Is _, Is _, Is _, fun v V => SlV V v (m.non), Is _, Is _, Is _, Is _, Is _, Is _, fun v V => SlV V v (m.tic), Is _, Is _])
  · kernel_rfl
  · kernel_rfl
  · intro u
    simp only [List.take_succ_cons, List.take_zero, List.map_cons, List.map_nil, fillU, List.setIfInBounds_toArray, List.set_cons_zero, List.set_cons_succ, Nat.reduceAdd]
    exact rfl
  · simp only [List.take_succ_cons, List.take_zero]
    refine ⟨fun u W hb hd K hK => ?_, ?_⟩
    · clear hd
      go_simp
      apply hK
      · simp only [Act.put, zSa, zSz, zSs]
        exact rfl
      · exact CB.refl _ _
      · exact IsOut
    refine ⟨fun u W hb hd K hK => ?_, ?_⟩
    · simp only [Facts, nthR, Is, and_true] at hd
      have h0 := hd
      clear hd
      simp only [h0] at hK ⊢
      go_simp
      apply hK
      · simp only [Act.put, zSa, zSz, zSs]
        exact rfl
      · exact CB.refl _ _
      · exact IsOut
    refine ⟨fun u W hb hd K hK => ?_, ?_⟩
    · simp only [Facts, nthR, Is, and_true] at hd
      have h1 := hd
      clear hd
      simp only [h1] at hK ⊢
      go_simp
      apply hK
      · simp only [Act.put, zSa, zSz, zSs]
        exact rfl
      · exact CB.refl _ _
      · exact IsOut
    refine ⟨fun u W hb hd K hK => ?_, ?_⟩
    · simp only [Facts, nthR, Is, and_true] at hd
      have h2 := hd
      clear hd
      simp only [h2] at hK ⊢
      have hc := (hM.below hb).life
      go_simp
      apply hK
      · simp only [Act.put, zSa, zSz, zSs]
        exact rfl
      · exact CB.refl _ _
      · exact IsOut
    refine ⟨fun u W hb hd K hK => ?_, ?_⟩
    · simp only [Facts, nthR, Is, and_true] at hd
      have h3 := hd
      clear hd
      simp only [h3] at hK ⊢
      go_simp
      refine (isNumber_e m.life _).mono ?_
      rintro e wy ⟨rfl, hby⟩
      rw [y9.out]
      exact hK _ _ _ rfl (CB.of hby hb.size) IsOut
    refine ⟨fun u W hb hd K hK => ?_, ?_⟩
    · simp only [Facts, nthR, Is, and_true] at hd
      have h4 := hd
      clear hd
      simp only [h4] at hK ⊢
      go_simp
      apply hK
      · simp only [Act.put, zSa, zSz, zSs]
        exact rfl
      · exact CB.refl _ _
      · exact IsOut
    refine ⟨fun u W hb hd K hK => ?_, ?_⟩
    · simp only [Facts, nthR, Is, and_true] at hd
      have h5 := hd
      clear hd
      simp only [h5] at hK ⊢
      go_simp
      apply hK
      · simp only [Act.put, zSa, zSz, zSs]
        exact rfl
      · exact CB.refl _ _
      · exact IsOut
    refine ⟨fun u W hb hd K hK => ?_, ?_⟩
    · simp only [Facts, nthR, Is, and_true] at hd
      obtain ⟨h5, h6⟩ := hd
      simp only [h5, h6] at hK ⊢
      go_simp
      apply hK
      · simp only [Act.put, zSa, zSz, zSs]
        exact rfl
      · exact CB.refl _ _
      · exact IsOut
    refine ⟨fun u W hb hd K hK => ?_, ?_⟩
    · simp only [Facts, nthR, Is, and_true] at hd
      obtain ⟨h5, h7⟩ := hd
      simp only [h5, h7] at hK ⊢
      go_simp
      apply hK
      · simp only [Act.put, zSa, zSz, zSs]
        exact rfl
      · exact CB.refl _ _
      · exact IsOut
    refine ⟨fun u W hb hd K hK => ?_, ?_⟩
    · simp only [Facts, nthR, Is, and_true] at hd
      obtain ⟨h5, h8⟩ := hd
      simp only [h5, h8] at hK ⊢
      have hc := (hM.below hb).age
      go_simp
      apply hK
      · simp only [Act.put, zSa, zSz, zSs]
        exact rfl
      · exact CB.refl _ _
      · exact IsOut
    refine ⟨fun u W hb hd K hK => ?_, ?_⟩
    · simp only [Facts, nthR, Is, and_true] at hd
      obtain ⟨h5, h9⟩ := hd
      simp only [h5, h9] at hK ⊢
      go_simp
      refine (isNumber_e m.age _).mono ?_
      rintro e wy ⟨rfl, hby⟩
      rw [y6.out]
      exact hK _ _ _ rfl (CB.of hby hb.size) IsOut
    refine ⟨fun u W hb hd K hK => ?_, ?_⟩
    · simp only [Facts, nthR, Is, and_true] at hd
      obtain ⟨h5, h10⟩ := hd
      simp only [h5, h10] at hK ⊢
      go_simp
      apply hK
      · simp only [Act.put, zSa, zSz, zSs]
        exact rfl
      · exact CB.refl _ _
      · exact IsOut
    refine ⟨fun u W hb hd K hK => ?_, ?_⟩
    · simp only [Facts, nthR, Is, and_true] at hd
      have h11 := hd
      clear hd
      simp only [h11] at hK ⊢
      go_simp
      apply hK
      · simp only [Act.put, zSa, zSz, zSs]
        exact rfl
      · exact CB.refl _ _
      · exact IsOut
    refine ⟨fun u W hb hd K hK => ?_, ?_⟩
    · simp only [Facts, nthR, Is, and_true] at hd
      have h12 := hd
      clear hd
      simp only [h12] at hK ⊢
      go_simp
      apply hK
      · simp only [Act.put, zSa, zSz, zSs]
        exact rfl
      · exact CB.refl _ _
      · exact IsOut
    refine ⟨fun u W hb hd K hK => ?_, ?_⟩
    · simp only [Facts, nthR, Is, and_true] at hd
      obtain ⟨h12, h13⟩ := hd
      simp only [h12, h13] at hK ⊢
      go_simp
      apply hK
      · simp only [Act.put, zSa, zSz, zSs]
        exact rfl
      · exact CB.refl _ _
      · exact IsOut
    refine ⟨fun u W hb hd K hK => ?_, ?_⟩
    · simp only [Facts, nthR, Is, and_true] at hd
      obtain ⟨h12, h14⟩ := hd
      simp only [h12, h14] at hK ⊢
      go_simp
      apply hK
      · simp only [Act.put, zSa, zSz, zSs]
        exact rfl
      · exact CB.refl _ _
      · exact IsOut
    refine ⟨fun u W hb hd K hK => ?_, ?_⟩
    · simp only [Facts, nthR, Is, and_true] at hd
      obtain ⟨h12, h15⟩ := hd
      simp only [h12, h15] at hK ⊢
      obtain ⟨v, hc, hv⟩ := (hM.below hb).non
      go_simp
      exact hK _ _ _ rfl (CB.refl _ _) hv
    refine ⟨fun u W hb hd K hK => ?_, ?_⟩
    · simp only [Facts, nthR, Is, and_true] at hd
      obtain ⟨h12, h16⟩ := hd
      simp only [h12] at hK ⊢
      go_simp
      refine (sized_e _ m.non 1 8 _ h16).mono ?_
      rintro e wy ⟨rfl, hby⟩
      rw [y10.out]
      exact hK _ _ _ rfl (CB.of hby hb.size) IsOut
    refine ⟨fun u W hb hd K hK => ?_, ?_⟩
    · simp only [Facts, nthR, Is, and_true] at hd
      obtain ⟨h12, h17⟩ := hd
      simp only [h12, h17] at hK ⊢
      go_simp
      apply hK
      · simp only [Act.put, zSa, zSz, zSs]
        exact rfl
      · exact CB.refl _ _
      · exact IsOut
    refine ⟨fun u W hb hd K hK => ?_, ?_⟩
    · simp only [Facts, nthR, Is, and_true] at hd
      have h18 := hd
      clear hd
      simp only [h18] at hK ⊢
      go_simp
      apply hK
      · simp only [Act.put, zSa, zSz, zSs]
        exact rfl
      · exact CB.refl _ _
      · exact IsOut
    refine ⟨fun u W hb hd K hK => ?_, ?_⟩
    · simp only [Facts, nthR, Is, and_true] at hd
      have h19 := hd
      clear hd
      simp only [h19] at hK ⊢
      go_simp
      apply hK
      · simp only [Act.put, zSa, zSz, zSs]
        exact rfl
      · exact CB.refl _ _
      · exact IsOut
    refine ⟨fun u W hb hd K hK => ?_, ?_⟩
    · simp only [Facts, nthR, Is, and_true] at hd
      obtain ⟨h19, h20⟩ := hd
      simp only [h19, h20] at hK ⊢
      go_simp
      apply hK
      · simp only [Act.put, zSa, zSz, zSs]
        exact rfl
      · exact CB.refl _ _
      · exact IsOut
    refine ⟨fun u W hb hd K hK => ?_, ?_⟩
    · simp only [Facts, nthR, Is, and_true] at hd
      obtain ⟨h19, h21⟩ := hd
      simp only [h19, h21] at hK ⊢
      go_simp
      apply hK
      · simp only [Act.put, zSa, zSz, zSs]
        exact rfl
      · exact CB.refl _ _
      · exact IsOut
    refine ⟨fun u W hb hd K hK => ?_, ?_⟩
    · simp only [Facts, nthR, Is, and_true] at hd
      obtain ⟨h19, h22⟩ := hd
      simp only [h19, h22] at hK ⊢
      obtain ⟨v, hc, hv⟩ := (hM.below hb).tic
      go_simp
      exact hK _ _ _ rfl (CB.refl _ _) hv
    refine ⟨fun u W hb hd K hK => ?_, ?_⟩
    · simp only [Facts, nthR, Is, and_true] at hd
      obtain ⟨h19, h23⟩ := hd
      simp only [h19] at hK ⊢
      go_simp
      refine (sized_e _ m.tic 1 1000 _ h23).mono ?_
      rintro e wy ⟨rfl, hby⟩
      rw [y5.out]
      exact hK _ _ _ rfl (CB.of hby hb.size) IsOut
    refine ⟨fun u W hb hd K hK => ?_, ?_⟩
    · simp only [Facts, nthR, Is, and_true] at hd
      obtain ⟨h19, h24⟩ := hd
      simp only [h19, h24] at hK ⊢
      go_simp
      apply hK
      · simp only [Act.put, zSa, zSz, zSs]
        exact rfl
      · exact CB.refl _ _
      · exact IsOut
    exact trivial
  · exact (.is (.is (.is (.is (.is (.is (.is (.is (.is (.is (.is (.is (.is (.is (.is (.is (.cons (fun _ _ _ h hb => h.cb hb) (.is (.is (.is (.is (.is (.is (.cons (fun _ _ _ h hb => h.cb hb) (.is (.is .nil))))))))))))))))))))))))))
  intro u w1 hb hd
  simp only [List.drop_succ_cons, List.drop_zero]
  simp only [Facts, nthR, Is, and_true] at hd
  have h25 := hd
  clear hd
  simp only [h25]
  clear h25
  replace hM := hM.below hb
  replace hb0 := hb0.trans (hb.mono hb0.size)
  clear hb
  go_wp2
  refine bodyPost_ret (results_tmp Tryd.results35 _ _ _) rfl ?_
  exact ⟨rfl, hb0⟩
set_option maxRecDepth 100000 in
set_option maxHeartbeats 400000 in
theorem fits4e (m : Msg) (g : Nat) (w : World) (_hT : TabH w) (hM : MAt w g m) (hk : m.kind = 4) (y9 : Hid (wide m.life = true))(y6 : Hid (wide m.age = true))(y10 : Hid (sized m.non 1 8 = true))(y5 : Hid (sized m.tic 1 1000 = true)) : Calls Tryd.prog 35 #[.pointer (some ⟨g, 0, none⟩)] w fun e w' => e = .returned (.bool true) ∧ Below w.heap.size w w' := by
  have hc := hM.kind
  rw [hk] at hc
  have hl := hM.lens
  go_enter Tryd.func35, Tryd.ntmps35
  have hb0 : Below w.heap.size w w := Below.refl _ _
  go_upto_region 7 with (fail)
  apply wp_plain_onceK (m := 26) (J := [[], [0], [1], [2], [3], [4], [5], [5, 6], [5, 7], [5, 8], [5, 9], [5, 10], [11], [12], [12, 13], [12, 14], [12, 15], [12, 16], [12, 17], [18], [19], [19, 20], [19, 21], [19, 22], [19, 23], [19, 24]]) (Je := [25]) (Rs := [Is _, Is _, Is _, Is _, Is _, Is _, Is _, Is _, Is _, Is _, Is _, Is _, Is _, Is _, Is _, Is _, fun v V => SlV V v (m.non), Is _, Is _, Is _, Is _, Is _, Is _, fun v V => SlV V v (m.tic), Is _, Is _])
  · kernel_rfl
  · kernel_rfl
  · intro u
    simp only [List.take_succ_cons, List.take_zero, List.map_cons, List.map_nil, fillU, List.setIfInBounds_toArray, List.set_cons_zero, List.set_cons_succ, Nat.reduceAdd]
    exact rfl
  · simp only [List.take_succ_cons, List.take_zero]
    refine ⟨fun u W hb hd K hK => ?_, ?_⟩
    · clear hd
      go_simp
      apply hK
      · simp only [Act.put, zSa, zSz, zSs]
        exact rfl
      · exact CB.refl _ _
      · exact IsOut
    refine ⟨fun u W hb hd K hK => ?_, ?_⟩
    · simp only [Facts, nthR, Is, and_true] at hd
      have h0 := hd
      clear hd
      simp only [h0] at hK ⊢
      go_simp
      apply hK
      · simp only [Act.put, zSa, zSz, zSs]
        exact rfl
      · exact CB.refl _ _
      · exact IsOut
    refine ⟨fun u W hb hd K hK => ?_, ?_⟩
    · simp only [Facts, nthR, Is, and_true] at hd
      have h1 := hd
      clear hd
      simp only [h1] at hK ⊢
      go_simp
      apply hK
      · simp only [Act.put, zSa, zSz, zSs]
        exact rfl
      · exact CB.refl _ _
      · exact IsOut
    refine ⟨fun u W hb hd K hK => ?_, ?_⟩
    · simp only [Facts, nthR, Is, and_true] at hd
      have h2 := hd
      clear hd
      simp only [h2] at hK ⊢
      have hc := (hM.below hb).life
      go_simp
      apply hK
      · simp only [Act.put, zSa, zSz, zSs]
        exact rfl
      · exact CB.refl _ _
      · exact IsOut
    refine ⟨fun u W hb hd K hK => ?_, ?_⟩
    · simp only [Facts, nthR, Is, and_true] at hd
      have h3 := hd
      clear hd
      simp only [h3] at hK ⊢
      go_simp
      refine (isNumber_e m.life _).mono ?_
      rintro e wy ⟨rfl, hby⟩
      rw [y9.out]
      exact hK _ _ _ rfl (CB.of hby hb.size) IsOut
    refine ⟨fun u W hb hd K hK => ?_, ?_⟩
    · simp only [Facts, nthR, Is, and_true] at hd
      have h4 := hd
      clear hd
      simp only [h4] at hK ⊢
      go_simp
      apply hK
      · simp only [Act.put, zSa, zSz, zSs]
        exact rfl
      · exact CB.refl _ _
      · exact IsOut
    refine ⟨fun u W hb hd K hK => ?_, ?_⟩
    · simp only [Facts, nthR, Is, and_true] at hd
      have h5 := hd
      clear hd
      simp only [h5] at hK ⊢
      go_simp
      apply hK
      · simp only [Act.put, zSa, zSz, zSs]
        exact rfl
      · exact CB.refl _ _
      · exact IsOut
    refine ⟨fun u W hb hd K hK => ?_, ?_⟩
    · simp only [Facts, nthR, Is, and_true] at hd
      obtain ⟨h5, h6⟩ := hd
      simp only [h5, h6] at hK ⊢
      go_simp
      apply hK
      · simp only [Act.put, zSa, zSz, zSs]
        exact rfl
      · exact CB.refl _ _
      · exact IsOut
    refine ⟨fun u W hb hd K hK => ?_, ?_⟩
    · simp only [Facts, nthR, Is, and_true] at hd
      obtain ⟨h5, h7⟩ := hd
      simp only [h5, h7] at hK ⊢
      go_simp
      apply hK
      · simp only [Act.put, zSa, zSz, zSs]
        exact rfl
      · exact CB.refl _ _
      · exact IsOut
    refine ⟨fun u W hb hd K hK => ?_, ?_⟩
    · simp only [Facts, nthR, Is, and_true] at hd
      obtain ⟨h5, h8⟩ := hd
      simp only [h5, h8] at hK ⊢
      have hc := (hM.below hb).age
      go_simp
      apply hK
      · simp only [Act.put, zSa, zSz, zSs]
        exact rfl
      · exact CB.refl _ _
      · exact IsOut
    refine ⟨fun u W hb hd K hK => ?_, ?_⟩
    · simp only [Facts, nthR, Is, and_true] at hd
      obtain ⟨h5, h9⟩ := hd
      simp only [h5, h9] at hK ⊢
      go_simp
      refine (isNumber_e m.age _).mono ?_
      rintro e wy ⟨rfl, hby⟩
      rw [y6.out]
      exact hK _ _ _ rfl (CB.of hby hb.size) IsOut
    refine ⟨fun u W hb hd K hK => ?_, ?_⟩
    · simp only [Facts, nthR, Is, and_true] at hd
      obtain ⟨h5, h10⟩ := hd
      simp only [h5, h10] at hK ⊢
      go_simp
      apply hK
      · simp only [Act.put, zSa, zSz, zSs]
        exact rfl
      · exact CB.refl _ _
      · exact IsOut
    refine ⟨fun u W hb hd K hK => ?_, ?_⟩
    · simp only [Facts, nthR, Is, and_true] at hd
      have h11 := hd
      clear hd
      simp only [h11] at hK ⊢
      go_simp
      apply hK
      · simp only [Act.put, zSa, zSz, zSs]
        exact rfl
      · exact CB.refl _ _
      · exact IsOut
    refine ⟨fun u W hb hd K hK => ?_, ?_⟩
    · simp only [Facts, nthR, Is, and_true] at hd
      have h12 := hd
      clear hd
      simp only [h12] at hK ⊢
      go_simp
      apply hK
      · simp only [Act.put, zSa, zSz, zSs]
        exact rfl
      · exact CB.refl _ _
      · exact IsOut
    refine ⟨fun u W hb hd K hK => ?_, ?_⟩
    · simp only [Facts, nthR, Is, and_true] at hd
      obtain ⟨h12, h13⟩ := hd
      simp only [h12, h13] at hK ⊢
      go_simp
      apply hK
      · simp only [Act.put, zSa, zSz, zSs]
        exact rfl
      · exact CB.refl _ _
      · exact IsOut
    refine ⟨fun u W hb hd K hK => ?_, ?_⟩
    · simp only [Facts, nthR, Is, and_true] at hd
      obtain ⟨h12, h14⟩ := hd
      simp only [h12, h14] at hK ⊢
      go_simp
      apply hK
      · simp only [Act.put, zSa, zSz, zSs]
        exact rfl
      · exact CB.refl _ _
      · exact IsOut
    refine ⟨fun u W hb hd K hK => ?_, ?_⟩
    · simp only [Facts, nthR, Is, and_true] at hd
      obtain ⟨h12, h15⟩ := hd
      simp only [h12, h15] at hK ⊢
      obtain ⟨v, hc, hv⟩ := (hM.below hb).non
      go_simp
      exact hK _ _ _ rfl (CB.refl _ _) hv
    refine ⟨fun u W hb hd K hK => ?_, ?_⟩
    · simp only [Facts, nthR, Is, and_true] at hd
      obtain ⟨h12, h16⟩ := hd
      simp only [h12] at hK ⊢
      go_simp
      refine (sized_e _ m.non 1 8 _ h16).mono ?_
      rintro e wy ⟨rfl, hby⟩
      rw [y10.out]
      exact hK _ _ _ rfl (CB.of hby hb.size) IsOut
    refine ⟨fun u W hb hd K hK => ?_, ?_⟩
    · simp only [Facts, nthR, Is, and_true] at hd
      obtain ⟨h12, h17⟩ := hd
      simp only [h12, h17] at hK ⊢
      go_simp
      apply hK
      · simp only [Act.put, zSa, zSz, zSs]
        exact rfl
      · exact CB.refl _ _
      · exact IsOut
    refine ⟨fun u W hb hd K hK => ?_, ?_⟩
    · simp only [Facts, nthR, Is, and_true] at hd
      have h18 := hd
      clear hd
      simp only [h18] at hK ⊢
      go_simp
      apply hK
      · simp only [Act.put, zSa, zSz, zSs]
        exact rfl
      · exact CB.refl _ _
      · exact IsOut
    refine ⟨fun u W hb hd K hK => ?_, ?_⟩
    · simp only [Facts, nthR, Is, and_true] at hd
      have h19 := hd
      clear hd
      simp only [h19] at hK ⊢
      go_simp
      apply hK
      · simp only [Act.put, zSa, zSz, zSs]
        exact rfl
      · exact CB.refl _ _
      · exact IsOut
    refine ⟨fun u W hb hd K hK => ?_, ?_⟩
    · simp only [Facts, nthR, Is, and_true] at hd
      obtain ⟨h19, h20⟩ := hd
      simp only [h19, h20] at hK ⊢
      go_simp
      apply hK
      · simp only [Act.put, zSa, zSz, zSs]
        exact rfl
      · exact CB.refl _ _
      · exact IsOut
    refine ⟨fun u W hb hd K hK => ?_, ?_⟩
    · simp only [Facts, nthR, Is, and_true] at hd
      obtain ⟨h19, h21⟩ := hd
      simp only [h19, h21] at hK ⊢
      go_simp
      apply hK
      · simp only [Act.put, zSa, zSz, zSs]
        exact rfl
      · exact CB.refl _ _
      · exact IsOut
    refine ⟨fun u W hb hd K hK => ?_, ?_⟩
    · simp only [Facts, nthR, Is, and_true] at hd
      obtain ⟨h19, h22⟩ := hd
      simp only [h19, h22] at hK ⊢
      obtain ⟨v, hc, hv⟩ := (hM.below hb).tic
      go_simp
      exact hK _ _ _ rfl (CB.refl _ _) hv
    refine ⟨fun u W hb hd K hK => ?_, ?_⟩
    · simp only [Facts, nthR, Is, and_true] at hd
      obtain ⟨h19, h23⟩ := hd
      simp only [h19] at hK ⊢
      go_simp
      refine (sized_e _ m.tic 1 1000 _ h23).mono ?_
      rintro e wy ⟨rfl, hby⟩
      rw [y5.out]
      exact hK _ _ _ rfl (CB.of hby hb.size) IsOut
    refine ⟨fun u W hb hd K hK => ?_, ?_⟩
    · simp only [Facts, nthR, Is, and_true] at hd
      obtain ⟨h19, h24⟩ := hd
      simp only [h19, h24] at hK ⊢
      go_simp
      apply hK
      · simp only [Act.put, zSa, zSz, zSs]
        exact rfl
      · exact CB.refl _ _
      · exact IsOut
    exact trivial
  · exact (.is (.is (.is (.is (.is (.is (.is (.is (.is (.is (.is (.is (.is (.is (.is (.is (.cons (fun _ _ _ h hb => h.cb hb) (.is (.is (.is (.is (.is (.is (.cons (fun _ _ _ h hb => h.cb hb) (.is (.is .nil))))))))))))))))))))))))))
  intro u w1 hb hd
  simp only [List.drop_succ_cons, List.drop_zero]
  simp only [Facts, nthR, Is, and_true] at hd
  have h25 := hd
  clear hd
  simp only [h25]
  clear h25
  replace hM := hM.below hb
  replace hb0 := hb0.trans (hb.mono hb0.size)
  clear hb
  go_wp2
  refine bodyPost_ret (results_tmp Tryd.results35 _ _ _) rfl ?_
  exact ⟨rfl, hb0⟩
end Go.Proofs.YtagblbfbjemfhaaDoor
