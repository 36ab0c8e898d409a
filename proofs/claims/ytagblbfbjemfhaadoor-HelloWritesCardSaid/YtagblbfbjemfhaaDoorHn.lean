/-
  Package hello's fits: have a message's parts their sizes?
-/
import Derived.Test.YtagblbfbjemfhaaDoorHm
namespace Go.Proofs.YtagblbfbjemfhaaDoor
open Go.RowKit
open HelloMath (numB numB_length vecB vecB_length Msg isKind sized wide kinds zero32 some8 okF okM fitM formM special)

set_option maxRecDepth 100000 in
set_option maxHeartbeats 400000 in
theorem fits1a (m : Msg) (g : Nat) (w : World) (_hT : TabH w) (hM : MAt w g m) (hk : m.kind = 1) (y1 : Hid (sized m.ses 0 32 = false)) : Calls Tryd.prog 35 #[.pointer (some ⟨g, 0, none⟩)] w fun e w' => e = .returned (.bool false) ∧ Below w.heap.size w w' := by
  have hc := hM.kind
  rw [hk] at hc
  have hl := hM.lens
  go_enter Tryd.func35, Tryd.ntmps35
  have hb0 : Below w.heap.size w w := Below.refl _ _
  go_upto_region 3 with (fail)
  apply wp_plain_onceK (m := 42) (J := [[], [0], [1], [2], [3], [4], [5], [5, 6], [5, 7], [5, 8], [5, 9], [5, 10], [5, 11], [12], [12, 13], [12, 14], [12, 15], [12, 16], [12, 17], [5, 12, 18], [5, 19], [20], [21], [21, 22], [21, 23], [21, 24], [21, 25], [21, 26], [27], [27, 28], [27, 29], [27, 30], [27, 31], [27, 32], [33], [33, 34], [33, 35], [33, 36], [33, 37], [27, 33, 38], [21, 27, 39], [21, 40]]) (Je := [41]) (Rs := [Is _, Is _, Is _, fun v V => SlV V v (m.ses), Is _, Is _, Is _, Is _, Is _, Is _, Is _, Is _, Is _, Is _, Is _, Is _, Is _, Is _, Is _, Is _, Is _, Is _, Is _, Is _, Is _, Is _, Is _, Is _, Is _, Is _, Is _, Is _, Is _, Is _, Is _, Is _, Is _, Is _, Is _, Is _, Is _, Is _])
  · kernel_rfl
  · kernel_rfl
  · intro u
    simp only [List.take_succ_cons, List.take_zero, List.map_cons, List.map_nil, fillU, List.setIfInBounds_toArray, List.set_cons_zero, List.set_cons_succ, Nat.reduceAdd]
    exact rfl
  · simp only [List.take_succ_cons, List.take_zero]
    refine ⟨fun u W hb hd K hK => ?_, ?_⟩
    · clear hd
      go_simp
      apply hK
      · simp only [Act.put, zSa, zSz, zSs]
        exact rfl
      · exact CB.refl _ _
      · exact IsOut
    refine ⟨fun u W hb hd K hK => ?_, ?_⟩
    · simp only [Facts, nthR, Is, and_true] at hd
      have h0 := hd
      clear hd
      simp only [h0] at hK ⊢
      go_simp
      apply hK
      · simp only [Act.put, zSa, zSz, zSs]
        exact rfl
      · exact CB.refl _ _
      · exact IsOut
    refine ⟨fun u W hb hd K hK => ?_, ?_⟩
    · simp only [Facts, nthR, Is, and_true] at hd
      have h1 := hd
      clear hd
      simp only [h1] at hK ⊢
      go_simp
      apply hK
      · simp only [Act.put, zSa, zSz, zSs]
        exact rfl
      · exact CB.refl _ _
      · exact IsOut
    refine ⟨fun u W hb hd K hK => ?_, ?_⟩
    · simp only [Facts, nthR, Is, and_true] at hd
      have h2 := hd
      clear hd
      simp only [h2] at hK ⊢
      obtain ⟨v, hc, hv⟩ := (hM.below hb).ses
      go_simp
      exact hK _ _ _ rfl (CB.refl _ _) hv
    refine ⟨fun u W hb hd K hK => ?_, ?_⟩
    · simp only [Facts, nthR, and_true] at hd
      have h3 := hd
      clear hd
      go_simp
      refine (sized_e _ m.ses 0 32 _ h3).mono ?_
      rintro e wy ⟨rfl, hby⟩
      rw [y1.out]
      exact hK _ _ _ rfl (CB.of hby hb.size) IsOut
    refine ⟨fun u W hb hd K hK => ?_, ?_⟩
    · simp only [Facts, nthR, Is, and_true] at hd
      have h4 := hd
      clear hd
      simp only [h4] at hK ⊢
      go_simp
      apply hK
      · simp only [Act.put, zSa, zSz, zSs]
        exact rfl
      · exact CB.refl _ _
      · exact IsOut
    refine ⟨fun u W hb hd K hK => ?_, ?_⟩
    · simp only [Facts, nthR, Is, and_true] at hd
      have h5 := hd
      clear hd
      simp only [h5] at hK ⊢
      go_simp
      apply hK
      · simp only [Act.put, zSa, zSz, zSs]
        exact rfl
      · exact CB.refl _ _
      · exact IsOut
    refine ⟨fun u W hb hd K hK => ?_, ?_⟩
    · simp only [Facts, nthR, Is, and_true] at hd
      obtain ⟨h5, h6⟩ := hd
      simp only [h5, h6] at hK ⊢
      go_simp
      apply hK
      · simp only [Act.put, zSa, zSz, zSs]
        exact rfl
      · exact CB.refl _ _
      · exact IsOut
    refine ⟨fun u W hb hd K hK => ?_, ?_⟩
    · simp only [Facts, nthR, Is, and_true] at hd
      obtain ⟨h5, h7⟩ := hd
      simp only [h5, h7] at hK ⊢
      go_simp
      apply hK
      · simp only [Act.put, zSa, zSz, zSs]
        exact rfl
      · exact CB.refl _ _
      · exact IsOut
    refine ⟨fun u W hb hd K hK => ?_, ?_⟩
    · simp only [Facts, nthR, Is, and_true] at hd
      obtain ⟨h5, h8⟩ := hd
      simp only [h5, h8] at hK ⊢
      go_simp
      apply hK
      · simp only [Act.put, zSa, zSz, zSs]
        exact rfl
      · exact CB.refl _ _
      · exact IsOut
    refine ⟨fun u W hb hd K hK => ?_, ?_⟩
    · simp only [Facts, nthR, Is, and_true] at hd
      obtain ⟨h5, h9⟩ := hd
      simp only [h5, h9] at hK ⊢
      go_simp
      apply hK
      · simp only [Act.put, zSa, zSz, zSs]
        exact rfl
      · exact CB.refl _ _
      · exact IsOut
    refine ⟨fun u W hb hd K hK => ?_, ?_⟩
    · simp only [Facts, nthR, Is, and_true] at hd
      obtain ⟨h5, h10⟩ := hd
      simp only [h5, h10] at hK ⊢
      go_simp
      apply hK
      · simp only [Act.put, zSa, zSz, zSs]
        exact rfl
      · exact CB.refl _ _
      · exact IsOut
    refine ⟨fun u W hb hd K hK => ?_, ?_⟩
    · simp only [Facts, nthR, Is, and_true] at hd
      obtain ⟨h5, h11⟩ := hd
      simp only [h5, h11] at hK ⊢
      go_simp
      apply hK
      · simp only [Act.put, zSa, zSz, zSs]
        exact rfl
      · exact CB.refl _ _
      · exact IsOut
    refine ⟨fun u W hb hd K hK => ?_, ?_⟩
    · simp only [Facts, nthR, Is, and_true] at hd
      have h12 := hd
      clear hd
      simp only [h12] at hK ⊢
      go_simp
      apply hK
      · simp only [Act.put, zSa, zSz, zSs]
        exact rfl
      · exact CB.refl _ _
      · exact IsOut
    refine ⟨fun u W hb hd K hK => ?_, ?_⟩
    · simp only [Facts, nthR, Is, and_true] at hd
      obtain ⟨h12, h13⟩ := hd
      simp only [h12, h13] at hK ⊢
      go_simp
      apply hK
      · simp only [Act.put, zSa, zSz, zSs]
        exact rfl
      · exact CB.refl _ _
      · exact IsOut
    refine ⟨fun u W hb hd K hK => ?_, ?_⟩
    · simp only [Facts, nthR, Is, and_true] at hd
      obtain ⟨h12, h14⟩ := hd
      simp only [h12, h14] at hK ⊢
      go_simp
      apply hK
      · simp only [Act.put, zSa, zSz, zSs]
        exact rfl
      · exact CB.refl _ _
      · exact IsOut
    refine ⟨fun u W hb hd K hK => ?_, ?_⟩
    · simp only [Facts, nthR, Is, and_true] at hd
      obtain ⟨h12, h15⟩ := hd
      simp only [h12, h15] at hK ⊢
      go_simp
      apply hK
      · simp only [Act.put, zSa, zSz, zSs]
        exact rfl
      · exact CB.refl _ _
      · exact IsOut
    refine ⟨fun u W hb hd K hK => ?_, ?_⟩
    · simp only [Facts, nthR, Is, and_true] at hd
      obtain ⟨h12, h16⟩ := hd
      simp only [h12, h16] at hK ⊢
      go_simp
      apply hK
      · simp only [Act.put, zSa, zSz, zSs]
        exact rfl
      · exact CB.refl _ _
      · exact IsOut
    refine ⟨fun u W hb hd K hK => ?_, ?_⟩
    · simp only [Facts, nthR, Is, and_true] at hd
      obtain ⟨h12, h17⟩ := hd
      simp only [h12, h17] at hK ⊢
      go_simp
      apply hK
      · simp only [Act.put, zSa, zSz, zSs]
        exact rfl
      · exact CB.refl _ _
      · exact IsOut
    refine ⟨fun u W hb hd K hK => ?_, ?_⟩
    · simp only [Facts, nthR, Is, and_true] at hd
      obtain ⟨h5, h12, h18⟩ := hd
      simp only [h5, h12, h18] at hK ⊢
      go_simp
      apply hK
      · simp only [Act.put, zSa, zSz, zSs]
        exact rfl
      · exact CB.refl _ _
      · exact IsOut
    refine ⟨fun u W hb hd K hK => ?_, ?_⟩
    · simp only [Facts, nthR, Is, and_true] at hd
      obtain ⟨h5, h19⟩ := hd
      simp only [h5, h19] at hK ⊢
      go_simp
      apply hK
      · simp only [Act.put, zSa, zSz, zSs]
        exact rfl
      · exact CB.refl _ _
      · exact IsOut
    refine ⟨fun u W hb hd K hK => ?_, ?_⟩
    · simp only [Facts, nthR, Is, and_true] at hd
      have h20 := hd
      clear hd
      simp only [h20] at hK ⊢
      go_simp
      apply hK
      · simp only [Act.put, zSa, zSz, zSs]
        exact rfl
      · exact CB.refl _ _
      · exact IsOut
    refine ⟨fun u W hb hd K hK => ?_, ?_⟩
    · simp only [Facts, nthR, Is, and_true] at hd
      have h21 := hd
      clear hd
      simp only [h21] at hK ⊢
      go_simp
      apply hK
      · simp only [Act.put, zSa, zSz, zSs]
        exact rfl
      · exact CB.refl _ _
      · exact IsOut
    refine ⟨fun u W hb hd K hK => ?_, ?_⟩
    · simp only [Facts, nthR, Is, and_true] at hd
      obtain ⟨h21, h22⟩ := hd
      simp only [h21, h22] at hK ⊢
      go_simp
      apply hK
      · simp only [Act.put, zSa, zSz, zSs]
        exact rfl
      · exact CB.refl _ _
      · exact IsOut
    refine ⟨fun u W hb hd K hK => ?_, ?_⟩
    · simp only [Facts, nthR, Is, and_true] at hd
      obtain ⟨h21, h23⟩ := hd
      simp only [h21, h23] at hK ⊢
      go_simp
      apply hK
      · simp only [Act.put, zSa, zSz, zSs]
        exact rfl
      · exact CB.refl _ _
      · exact IsOut
    refine ⟨fun u W hb hd K hK => ?_, ?_⟩
    · simp only [Facts, nthR, Is, and_true] at hd
      obtain ⟨h21, h24⟩ := hd
      simp only [h21, h24] at hK ⊢
      go_simp
      apply hK
      · simp only [Act.put, zSa, zSz, zSs]
        exact rfl
      · exact CB.refl _ _
      · exact IsOut
    refine ⟨fun u W hb hd K hK => ?_, ?_⟩
    · simp only [Facts, nthR, Is, and_true] at hd
      obtain ⟨h21, h25⟩ := hd
      simp only [h21, h25] at hK ⊢
      go_simp
      apply hK
      · simp only [Act.put, zSa, zSz, zSs]
        exact rfl
      · exact CB.refl _ _
      · exact IsOut
    refine ⟨fun u W hb hd K hK => ?_, ?_⟩
    · simp only [Facts, nthR, Is, and_true] at hd
      obtain ⟨h21, h26⟩ := hd
      simp only [h21, h26] at hK ⊢
      go_simp
      apply hK
      · simp only [Act.put, zSa, zSz, zSs]
        exact rfl
      · exact CB.refl _ _
      · exact IsOut
    refine ⟨fun u W hb hd K hK => ?_, ?_⟩
    · simp only [Facts, nthR, Is, and_true] at hd
      have h27 := hd
      clear hd
      simp only [h27] at hK ⊢
      go_simp
      apply hK
      · simp only [Act.put, zSa, zSz, zSs]
        exact rfl
      · exact CB.refl _ _
      · exact IsOut
    refine ⟨fun u W hb hd K hK => ?_, ?_⟩
    · simp only [Facts, nthR, Is, and_true] at hd
      obtain ⟨h27, h28⟩ := hd
      simp only [h27, h28] at hK ⊢
      go_simp
      apply hK
      · simp only [Act.put, zSa, zSz, zSs]
        exact rfl
      · exact CB.refl _ _
      · exact IsOut
    refine ⟨fun u W hb hd K hK => ?_, ?_⟩
    · simp only [Facts, nthR, Is, and_true] at hd
      obtain ⟨h27, h29⟩ := hd
      simp only [h27, h29] at hK ⊢
      go_simp
      apply hK
      · simp only [Act.put, zSa, zSz, zSs]
        exact rfl
      · exact CB.refl _ _
      · exact IsOut
    refine ⟨fun u W hb hd K hK => ?_, ?_⟩
    · simp only [Facts, nthR, Is, and_true] at hd
      obtain ⟨h27, h30⟩ := hd
      simp only [h27, h30] at hK ⊢
      go_simp
      apply hK
      · simp only [Act.put, zSa, zSz, zSs]
        exact rfl
      · exact CB.refl _ _
      · exact IsOut
    refine ⟨fun u W hb hd K hK => ?_, ?_⟩
    · simp only [Facts, nthR, Is, and_true] at hd
      obtain ⟨h27, h31⟩ := hd
      simp only [h27, h31] at hK ⊢
      go_simp
      apply hK
      · simp only [Act.put, zSa, zSz, zSs]
        exact rfl
      · exact CB.refl _ _
      · exact IsOut
    refine ⟨fun u W hb hd K hK => ?_, ?_⟩
    · simp only [Facts, nthR, Is, and_true] at hd
      obtain ⟨h27, h32⟩ := hd
      simp only [h27, h32] at hK ⊢
      go_simp
      apply hK
      · simp only [Act.put, zSa, zSz, zSs]
        exact rfl
      · exact CB.refl _ _
      · exact IsOut
    refine ⟨fun u W hb hd K hK => ?_, ?_⟩
    · simp only [Facts, nthR, Is, and_true] at hd
      have h33 := hd
      clear hd
      simp only [h33] at hK ⊢
      go_simp
      apply hK
      · simp only [Act.put, zSa, zSz, zSs]
        exact rfl
      · exact CB.refl _ _
      · exact IsOut
    refine ⟨fun u W hb hd K hK => ?_, ?_⟩
    · simp only [Facts, nthR, Is, and_true] at hd
      obtain ⟨h33, h34⟩ := hd
      simp only [h33, h34] at hK ⊢
      go_simp
      apply hK
      · simp only [Act.put, zSa, zSz, zSs]
        exact rfl
      · exact CB.refl _ _
      · exact IsOut
    refine ⟨fun u W hb hd K hK => ?_, ?_⟩
    · simp only [Facts, nthR, Is, and_true] at hd
      obtain ⟨h33, h35⟩ := hd
      simp only [h33, h35] at hK ⊢
      go_simp
      apply hK
      · simp only [Act.put, zSa, zSz, zSs]
        exact rfl
      · exact CB.refl _ _
      · exact IsOut
    refine ⟨fun u W hb hd K hK => ?_, ?_⟩
    · simp only [Facts, nthR, Is, and_true] at hd
      obtain ⟨h33, h36⟩ := hd
      simp only [h33, h36] at hK ⊢
      go_simp
      apply hK
      · simp only [Act.put, zSa, zSz, zSs]
        exact rfl
      · exact CB.refl _ _
      · exact IsOut
    refine ⟨fun u W hb hd K hK => ?_, ?_⟩
    · simp only [Facts, nthR, Is, and_true] at hd
      obtain ⟨h33, h37⟩ := hd
      simp only [h33, h37] at hK ⊢
      go_simp
      apply hK
      · simp only [Act.put, zSa, zSz, zSs]
        exact rfl
      · exact CB.refl _ _
      · exact IsOut
    refine ⟨fun u W hb hd K hK => ?_, ?_⟩
    · simp only [Facts, nthR, Is, and_true] at hd
      obtain ⟨h27, h33, h38⟩ := hd
      simp only [h27, h33, h38] at hK ⊢
      go_simp
      apply hK
      · simp only [Act.put, zSa, zSz, zSs]
        exact rfl
      · exact CB.refl _ _
      · exact IsOut
    refine ⟨fun u W hb hd K hK => ?_, ?_⟩
    · simp only [Facts, nthR, Is, and_true] at hd
      obtain ⟨h21, h27, h39⟩ := hd
      simp only [h21, h27, h39] at hK ⊢
      go_simp
      apply hK
      · simp only [Act.put, zSa, zSz, zSs]
        exact rfl
      · exact CB.refl _ _
      · exact IsOut
    refine ⟨fun u W hb hd K hK => ?_, ?_⟩
    · simp only [Facts, nthR, Is, and_true] at hd
      obtain ⟨h21, h40⟩ := hd
      simp only [h21, h40] at hK ⊢
      go_simp
      apply hK
      · simp only [Act.put, zSa, zSz, zSs]
        exact rfl
      · exact CB.refl _ _
      · exact IsOut
    exact trivial
  · exact (.is (.is (.is (.cons (fun _ _ _ h hb => h.cb hb) (.is (.is (.is (.is (.is (.is (.is (.is (.is (.is (.is (.is (.is (.is (.is (.is (.is (.is (.is (.is (.is (.is (.is (.is (.is (.is (.is (.is (.is (.is (.is (.is (.is (.is (.is (.is (.is (.is .nil))))))))))))))))))))))))))))))))))))))))))
  intro u w1 hb hd
  simp only [List.drop_succ_cons, List.drop_zero]
  simp only [Facts, nthR, Is, and_true] at hd
  have h41 := hd
  clear hd
  simp only [h41]
  clear h41
  replace hM := hM.below hb
  replace hb0 := hb0.trans (hb.mono hb0.size)
  clear hb
  go_wp2
  refine bodyPost_ret (results_tmp Tryd.results35 _ _ _) rfl ?_
  exact ⟨rfl, hb0⟩
set_option maxRecDepth 100000 in
set_option maxHeartbeats 400000 in
theorem fits1b (m : Msg) (g : Nat) (w : World) (_hT : TabH w) (hM : MAt w g m) (hk : m.kind = 1) (y1 : Hid (sized m.ses 0 32 = true))(y2 : Hid (decide (m.sha.length = 0) = false))(y3 : Hid (decide (m.sha.length = 65) = false)) : Calls Tryd.prog 35 #[.pointer (some ⟨g, 0, none⟩)] w fun e w' => e = .returned (.bool false) ∧ Below w.heap.size w w' := by
  have hc := hM.kind
  rw [hk] at hc
  have hl := hM.lens
  go_enter Tryd.func35, Tryd.ntmps35
  have hb0 : Below w.heap.size w w := Below.refl _ _
  go_upto_region 3 with (fail)
  apply wp_plain_onceK (m := 42) (J := [[], [0], [1], [2], [3], [4], [5], [5, 6], [5, 7], [5, 8], [5, 9], [5, 10], [5, 11], [12], [12, 13], [12, 14], [12, 15], [12, 16], [12, 17], [5, 12, 18], [5, 19], [20], [21], [21, 22], [21, 23], [21, 24], [21, 25], [21, 26], [27], [27, 28], [27, 29], [27, 30], [27, 31], [27, 32], [33], [33, 34], [33, 35], [33, 36], [33, 37], [27, 33, 38], [21, 27, 39], [21, 40]]) (Je := [41]) (Rs := [Is _, Is _, Is _, fun v V => SlV V v (m.ses), Is _, Is _, Is _, Is _, Is _, fun v V => SlV V v (m.sha), Is _, Is _, Is _, Is _, Is _, Is _, fun v V => SlV V v (m.sha), Is _, Is _, Is _, Is _, Is _, Is _, Is _, Is _, Is _, Is _, Is _, Is _, Is _, Is _, Is _, Is _, Is _, Is _, Is _, Is _, Is _, Is _, Is _, Is _, Is _])
  · kernel_rfl
  · kernel_rfl
  · intro u
    simp only [List.take_succ_cons, List.take_zero, List.map_cons, List.map_nil, fillU, List.setIfInBounds_toArray, List.set_cons_zero, List.set_cons_succ, Nat.reduceAdd]
    exact rfl
  · simp only [List.take_succ_cons, List.take_zero]
    refine ⟨fun u W hb hd K hK => ?_, ?_⟩
    · clear hd
      go_simp
      apply hK
      · simp only [Act.put, zSa, zSz, zSs]
        exact rfl
      · exact CB.refl _ _
      · exact IsOut
    refine ⟨fun u W hb hd K hK => ?_, ?_⟩
    · simp only [Facts, nthR, Is, and_true] at hd
      have h0 := hd
      clear hd
      simp only [h0] at hK ⊢
      go_simp
      apply hK
      · simp only [Act.put, zSa, zSz, zSs]
        exact rfl
      · exact CB.refl _ _
      · exact IsOut
    refine ⟨fun u W hb hd K hK => ?_, ?_⟩
    · simp only [Facts, nthR, Is, and_true] at hd
      have h1 := hd
      clear hd
      simp only [h1] at hK ⊢
      go_simp
      apply hK
      · simp only [Act.put, zSa, zSz, zSs]
        exact rfl
      · exact CB.refl _ _
      · exact IsOut
    refine ⟨fun u W hb hd K hK => ?_, ?_⟩
    · simp only [Facts, nthR, Is, and_true] at hd
      have h2 := hd
      clear hd
      simp only [h2] at hK ⊢
      obtain ⟨v, hc, hv⟩ := (hM.below hb).ses
      go_simp
      exact hK _ _ _ rfl (CB.refl _ _) hv
    refine ⟨fun u W hb hd K hK => ?_, ?_⟩
    · simp only [Facts, nthR, and_true] at hd
      have h3 := hd
      clear hd
      go_simp
      refine (sized_e _ m.ses 0 32 _ h3).mono ?_
      rintro e wy ⟨rfl, hby⟩
      rw [y1.out]
      exact hK _ _ _ rfl (CB.of hby hb.size) IsOut
    refine ⟨fun u W hb hd K hK => ?_, ?_⟩
    · simp only [Facts, nthR, Is, and_true] at hd
      have h4 := hd
      clear hd
      simp only [h4] at hK ⊢
      go_simp
      apply hK
      · simp only [Act.put, zSa, zSz, zSs]
        exact rfl
      · exact CB.refl _ _
      · exact IsOut
    refine ⟨fun u W hb hd K hK => ?_, ?_⟩
    · simp only [Facts, nthR, Is, and_true] at hd
      have h5 := hd
      clear hd
      simp only [h5] at hK ⊢
      go_simp
      apply hK
      · simp only [Act.put, zSa, zSz, zSs]
        exact rfl
      · exact CB.refl _ _
      · exact IsOut
    refine ⟨fun u W hb hd K hK => ?_, ?_⟩
    · simp only [Facts, nthR, Is, and_true] at hd
      obtain ⟨h5, h6⟩ := hd
      simp only [h5, h6] at hK ⊢
      go_simp
      apply hK
      · simp only [Act.put, zSa, zSz, zSs]
        exact rfl
      · exact CB.refl _ _
      · exact IsOut
    refine ⟨fun u W hb hd K hK => ?_, ?_⟩
    · simp only [Facts, nthR, Is, and_true] at hd
      obtain ⟨h5, h7⟩ := hd
      simp only [h5, h7] at hK ⊢
      go_simp
      apply hK
      · simp only [Act.put, zSa, zSz, zSs]
        exact rfl
      · exact CB.refl _ _
      · exact IsOut
    refine ⟨fun u W hb hd K hK => ?_, ?_⟩
    · simp only [Facts, nthR, Is, and_true] at hd
      obtain ⟨h5, h8⟩ := hd
      simp only [h5, h8] at hK ⊢
      obtain ⟨v, hc, hv⟩ := (hM.below hb).sha
      go_simp
      exact hK _ _ _ rfl (CB.refl _ _) hv
    refine ⟨fun u W hb hd K hK => ?_, ?_⟩
    · simp only [Facts, nthR, Is, and_true] at hd
      obtain ⟨h5, h9⟩ := hd
      simp only [h5] at hK ⊢
      obtain ⟨A0, c0, e0, f0⟩ := h9
      simp only [e0] at hK ⊢
      go_simp
      apply hK
      · simp only [Act.put, zSa, zSz, zSs]
        exact rfl
      · exact CB.refl _ _
      · exact IsOut
    refine ⟨fun u W hb hd K hK => ?_, ?_⟩
    · simp only [Facts, nthR, Is, and_true] at hd
      obtain ⟨h5, h10⟩ := hd
      simp only [h5, h10] at hK ⊢
      have hh := Lib.hid (show ((m.sha.length : Int) == (0 : Int)) = _ from (beqN m.sha.length 0).trans y2.out)
      go_simp
      rw [hh.out]
      apply hK
      · simp only [Act.put, zSa, zSz, zSs]
        exact rfl
      · exact CB.refl _ _
      · exact IsOut
    refine ⟨fun u W hb hd K hK => ?_, ?_⟩
    · simp only [Facts, nthR, Is, and_true] at hd
      obtain ⟨h5, h11⟩ := hd
      simp only [h5, h11] at hK ⊢
      go_simp
      apply hK
      · simp only [Act.put, zSa, zSz, zSs]
        exact rfl
      · exact CB.refl _ _
      · exact IsOut
    refine ⟨fun u W hb hd K hK => ?_, ?_⟩
    · simp only [Facts, nthR, Is, and_true] at hd
      have h12 := hd
      clear hd
      simp only [h12] at hK ⊢
      go_simp
      apply hK
      · simp only [Act.put, zSa, zSz, zSs]
        exact rfl
      · exact CB.refl _ _
      · exact IsOut
    refine ⟨fun u W hb hd K hK => ?_, ?_⟩
    · simp only [Facts, nthR, Is, and_true] at hd
      obtain ⟨h12, h13⟩ := hd
      simp only [h12, h13] at hK ⊢
      go_simp
      apply hK
      · simp only [Act.put, zSa, zSz, zSs]
        exact rfl
      · exact CB.refl _ _
      · exact IsOut
    refine ⟨fun u W hb hd K hK => ?_, ?_⟩
    · simp only [Facts, nthR, Is, and_true] at hd
      obtain ⟨h12, h14⟩ := hd
      simp only [h12, h14] at hK ⊢
      go_simp
      apply hK
      · simp only [Act.put, zSa, zSz, zSs]
        exact rfl
      · exact CB.refl _ _
      · exact IsOut
    refine ⟨fun u W hb hd K hK => ?_, ?_⟩
    · simp only [Facts, nthR, Is, and_true] at hd
      obtain ⟨h12, h15⟩ := hd
      simp only [h12, h15] at hK ⊢
      obtain ⟨v, hc, hv⟩ := (hM.below hb).sha
      go_simp
      exact hK _ _ _ rfl (CB.refl _ _) hv
    refine ⟨fun u W hb hd K hK => ?_, ?_⟩
    · simp only [Facts, nthR, Is, and_true] at hd
      obtain ⟨h12, h16⟩ := hd
      simp only [h12] at hK ⊢
      obtain ⟨A0, c0, e0, f0⟩ := h16
      simp only [e0] at hK ⊢
      go_simp
      apply hK
      · simp only [Act.put, zSa, zSz, zSs]
        exact rfl
      · exact CB.refl _ _
      · exact IsOut
    refine ⟨fun u W hb hd K hK => ?_, ?_⟩
    · simp only [Facts, nthR, Is, and_true] at hd
      obtain ⟨h12, h17⟩ := hd
      simp only [h12, h17] at hK ⊢
      have hh := Lib.hid (show ((m.sha.length : Int) == (65 : Int)) = _ from (beqN m.sha.length 65).trans y3.out)
      go_simp
      rw [hh.out]
      apply hK
      · simp only [Act.put, zSa, zSz, zSs]
        exact rfl
      · exact CB.refl _ _
      · exact IsOut
    refine ⟨fun u W hb hd K hK => ?_, ?_⟩
    · simp only [Facts, nthR, Is, and_true] at hd
      obtain ⟨h5, h12, h18⟩ := hd
      simp only [h5, h12, h18] at hK ⊢
      go_simp
      apply hK
      · simp only [Act.put, zSa, zSz, zSs]
        exact rfl
      · exact CB.refl _ _
      · exact IsOut
    refine ⟨fun u W hb hd K hK => ?_, ?_⟩
    · simp only [Facts, nthR, Is, and_true] at hd
      obtain ⟨h5, h19⟩ := hd
      simp only [h5, h19] at hK ⊢
      go_simp
      apply hK
      · simp only [Act.put, zSa, zSz, zSs]
        exact rfl
      · exact CB.refl _ _
      · exact IsOut
    refine ⟨fun u W hb hd K hK => ?_, ?_⟩
    · simp only [Facts, nthR, Is, and_true] at hd
      have h20 := hd
      clear hd
      simp only [h20] at hK ⊢
      go_simp
      apply hK
      · simp only [Act.put, zSa, zSz, zSs]
        exact rfl
      · exact CB.refl _ _
      · exact IsOut
    refine ⟨fun u W hb hd K hK => ?_, ?_⟩
    · simp only [Facts, nthR, Is, and_true] at hd
      have h21 := hd
      clear hd
      simp only [h21] at hK ⊢
      go_simp
      apply hK
      · simp only [Act.put, zSa, zSz, zSs]
        exact rfl
      · exact CB.refl _ _
      · exact IsOut
    refine ⟨fun u W hb hd K hK => ?_, ?_⟩
    · simp only [Facts, nthR, Is, and_true] at hd
      obtain ⟨h21, h22⟩ := hd
      simp only [h21, h22] at hK ⊢
      go_simp
      apply hK
      · simp only [Act.put, zSa, zSz, zSs]
        exact rfl
      · exact CB.refl _ _
      · exact IsOut
    refine ⟨fun u W hb hd K hK => ?_, ?_⟩
    · simp only [Facts, nthR, Is, and_true] at hd
      obtain ⟨h21, h23⟩ := hd
      simp only [h21, h23] at hK ⊢
      go_simp
      apply hK
      · simp only [Act.put, zSa, zSz, zSs]
        exact rfl
      · exact CB.refl _ _
      · exact IsOut
    refine ⟨fun u W hb hd K hK => ?_, ?_⟩
    · simp only [Facts, nthR, Is, and_true] at hd
      obtain ⟨h21, h24⟩ := hd
      simp only [h21, h24] at hK ⊢
      go_simp
      apply hK
      · simp only [Act.put, zSa, zSz, zSs]
        exact rfl
      · exact CB.refl _ _
      · exact IsOut
    refine ⟨fun u W hb hd K hK => ?_, ?_⟩
    · simp only [Facts, nthR, Is, and_true] at hd
      obtain ⟨h21, h25⟩ := hd
      simp only [h21, h25] at hK ⊢
      go_simp
      apply hK
      · simp only [Act.put, zSa, zSz, zSs]
        exact rfl
      · exact CB.refl _ _
      · exact IsOut
    refine ⟨fun u W hb hd K hK => ?_, ?_⟩
    · simp only [Facts, nthR, Is, and_true] at hd
      obtain ⟨h21, h26⟩ := hd
      simp only [h21, h26] at hK ⊢
      go_simp
      apply hK
      · simp only [Act.put, zSa, zSz, zSs]
        exact rfl
      · exact CB.refl _ _
      · exact IsOut
    refine ⟨fun u W hb hd K hK => ?_, ?_⟩
    · simp only [Facts, nthR, Is, and_true] at hd
      have h27 := hd
      clear hd
      simp only [h27] at hK ⊢
      go_simp
      apply hK
      · simp only [Act.put, zSa, zSz, zSs]
        exact rfl
      · exact CB.refl _ _
      · exact IsOut
    refine ⟨fun u W hb hd K hK => ?_, ?_⟩
    · simp only [Facts, nthR, Is, and_true] at hd
      obtain ⟨h27, h28⟩ := hd
      simp only [h27, h28] at hK ⊢
      go_simp
      apply hK
      · simp only [Act.put, zSa, zSz, zSs]
        exact rfl
      · exact CB.refl _ _
      · exact IsOut
    refine ⟨fun u W hb hd K hK => ?_, ?_⟩
    · simp only [Facts, nthR, Is, and_true] at hd
      obtain ⟨h27, h29⟩ := hd
      simp only [h27, h29] at hK ⊢
      go_simp
      apply hK
      · simp only [Act.put, zSa, zSz, zSs]
        exact rfl
      · exact CB.refl _ _
      · exact IsOut
    refine ⟨fun u W hb hd K hK => ?_, ?_⟩
    · simp only [Facts, nthR, Is, and_true] at hd
      obtain ⟨h27, h30⟩ := hd
      simp only [h27, h30] at hK ⊢
      go_simp
      apply hK
      · simp only [Act.put, zSa, zSz, zSs]
        exact rfl
      · exact CB.refl _ _
      · exact IsOut
    refine ⟨fun u W hb hd K hK => ?_, ?_⟩
    · simp only [Facts, nthR, Is, and_true] at hd
      obtain ⟨h27, h31⟩ := hd
      simp only [h27, h31] at hK ⊢
      go_simp
      apply hK
      · simp only [Act.put, zSa, zSz, zSs]
        exact rfl
      · exact CB.refl _ _
      · exact IsOut
    refine ⟨fun u W hb hd K hK => ?_, ?_⟩
    · simp only [Facts, nthR, Is, and_true] at hd
      obtain ⟨h27, h32⟩ := hd
      simp only [h27, h32] at hK ⊢
      go_simp
      apply hK
      · simp only [Act.put, zSa, zSz, zSs]
        exact rfl
      · exact CB.refl _ _
      · exact IsOut
    refine ⟨fun u W hb hd K hK => ?_, ?_⟩
    · simp only [Facts, nthR, Is, and_true] at hd
      have h33 := hd
      clear hd
      simp only [h33] at hK ⊢
      go_simp
      apply hK
      · simp only [Act.put, zSa, zSz, zSs]
        exact rfl
      · exact CB.refl _ _
      · exact IsOut
    refine ⟨fun u W hb hd K hK => ?_, ?_⟩
    · simp only [Facts, nthR, Is, and_true] at hd
      obtain ⟨h33, h34⟩ := hd
      simp only [h33, h34] at hK ⊢
      go_simp
      apply hK
      · simp only [Act.put, zSa, zSz, zSs]
        exact rfl
      · exact CB.refl _ _
      · exact IsOut
    refine ⟨fun u W hb hd K hK => ?_, ?_⟩
    · simp only [Facts, nthR, Is, and_true] at hd
      obtain ⟨h33, h35⟩ := hd
      simp only [h33, h35] at hK ⊢
      go_simp
      apply hK
      · simp only [Act.put, zSa, zSz, zSs]
        exact rfl
      · exact CB.refl _ _
      · exact IsOut
    refine ⟨fun u W hb hd K hK => ?_, ?_⟩
    · simp only [Facts, nthR, Is, and_true] at hd
      obtain ⟨h33, h36⟩ := hd
      simp only [h33, h36] at hK ⊢
      go_simp
      apply hK
      · simp only [Act.put, zSa, zSz, zSs]
        exact rfl
      · exact CB.refl _ _
      · exact IsOut
    refine ⟨fun u W hb hd K hK => ?_, ?_⟩
    · simp only [Facts, nthR, Is, and_true] at hd
      obtain ⟨h33, h37⟩ := hd
      simp only [h33, h37] at hK ⊢
      go_simp
      apply hK
      · simp only [Act.put, zSa, zSz, zSs]
        exact rfl
      · exact CB.refl _ _
      · exact IsOut
    refine ⟨fun u W hb hd K hK => ?_, ?_⟩
    · simp only [Facts, nthR, Is, and_true] at hd
      obtain ⟨h27, h33, h38⟩ := hd
      simp only [h27, h33, h38] at hK ⊢
      go_simp
      apply hK
      · simp only [Act.put, zSa, zSz, zSs]
        exact rfl
      · exact CB.refl _ _
      · exact IsOut
    refine ⟨fun u W hb hd K hK => ?_, ?_⟩
    · simp only [Facts, nthR, Is, and_true] at hd
      obtain ⟨h21, h27, h39⟩ := hd
      simp only [h21, h27, h39] at hK ⊢
      go_simp
      apply hK
      · simp only [Act.put, zSa, zSz, zSs]
        exact rfl
      · exact CB.refl _ _
      · exact IsOut
    refine ⟨fun u W hb hd K hK => ?_, ?_⟩
    · simp only [Facts, nthR, Is, and_true] at hd
      obtain ⟨h21, h40⟩ := hd
      simp only [h21, h40] at hK ⊢
      go_simp
      apply hK
      · simp only [Act.put, zSa, zSz, zSs]
        exact rfl
      · exact CB.refl _ _
      · exact IsOut
    exact trivial
  · exact (.is (.is (.is (.cons (fun _ _ _ h hb => h.cb hb) (.is (.is (.is (.is (.is (.cons (fun _ _ _ h hb => h.cb hb) (.is (.is (.is (.is (.is (.is (.cons (fun _ _ _ h hb => h.cb hb) (.is (.is (.is (.is (.is (.is (.is (.is (.is (.is (.is (.is (.is (.is (.is (.is (.is (.is (.is (.is (.is (.is (.is (.is (.is .nil))))))))))))))))))))))))))))))))))))))))))
  intro u w1 hb hd
  simp only [List.drop_succ_cons, List.drop_zero]
  simp only [Facts, nthR, Is, and_true] at hd
  have h41 := hd
  clear hd
  simp only [h41]
  clear h41
  replace hM := hM.below hb
  replace hb0 := hb0.trans (hb.mono hb0.size)
  clear hb
  go_wp2
  refine bodyPost_ret (results_tmp Tryd.results35 _ _ _) rfl ?_
  exact ⟨rfl, hb0⟩
set_option maxRecDepth 100000 in
set_option maxHeartbeats 400000 in
theorem fits1sc (m : Msg) (g : Nat) (w : World) (_hT : TabH w) (hM : MAt w g m) (hk : m.kind = 1) (y1 : Hid (sized m.ses 0 32 = true))(y2 : Hid (decide (m.sha.length = 0) = true))(y4 : Hid (m.psk = false)) : Calls Tryd.prog 35 #[.pointer (some ⟨g, 0, none⟩)] w fun e w' => e = .returned (.bool true) ∧ Below w.heap.size w w' := by
  have hc := hM.kind
  rw [hk] at hc
  have hl := hM.lens
  go_enter Tryd.func35, Tryd.ntmps35
  have hb0 : Below w.heap.size w w := Below.refl _ _
  go_upto_region 3 with (fail)
  apply wp_plain_onceK (m := 42) (J := [[], [0], [1], [2], [3], [4], [5], [5, 6], [5, 7], [5, 8], [5, 9], [5, 10], [5, 11], [12], [12, 13], [12, 14], [12, 15], [12, 16], [12, 17], [5, 12, 18], [5, 19], [20], [21], [21, 22], [21, 23], [21, 24], [21, 25], [21, 26], [27], [27, 28], [27, 29], [27, 30], [27, 31], [27, 32], [33], [33, 34], [33, 35], [33, 36], [33, 37], [27, 33, 38], [21, 27, 39], [21, 40]]) (Je := [41]) (Rs := [Is _, Is _, Is _, fun v V => SlV V v (m.ses), Is _, Is _, Is _, Is _, Is _, fun v V => SlV V v (m.sha), Is _, Is _, Is _, Is _, Is _, Is _, Is _, Is _, Is _, Is _, Is _, Is _, Is _, Is _, Is _, Is _, Is _, Is _, Is _, Is _, Is _, Is _, Is _, Is _, Is _, Is _, Is _, Is _, Is _, Is _, Is _, Is _])
  · kernel_rfl
  · kernel_rfl
  · intro u
    simp only [List.take_succ_cons, List.take_zero, List.map_cons, List.map_nil, fillU, List.setIfInBounds_toArray, List.set_cons_zero, List.set_cons_succ, Nat.reduceAdd]
    exact rfl
  · simp only [List.take_succ_cons, List.take_zero]
    refine ⟨fun u W hb hd K hK => ?_, ?_⟩
    · clear hd
      go_simp
      apply hK
      · simp only [Act.put, zSa, zSz, zSs]
        exact rfl
      · exact CB.refl _ _
      · exact IsOut
    refine ⟨fun u W hb hd K hK => ?_, ?_⟩
    · simp only [Facts, nthR, Is, and_true] at hd
      have h0 := hd
      clear hd
      simp only [h0] at hK ⊢
      go_simp
      apply hK
      · simp only [Act.put, zSa, zSz, zSs]
        exact rfl
      · exact CB.refl _ _
      · exact IsOut
    refine ⟨fun u W hb hd K hK => ?_, ?_⟩
    · simp only [Facts, nthR, Is, and_true] at hd
      have h1 := hd
      clear hd
      simp only [h1] at hK ⊢
      go_simp
      apply hK
      · simp only [Act.put, zSa, zSz, zSs]
        exact rfl
      · exact CB.refl _ _
      · exact IsOut
    refine ⟨fun u W hb hd K hK => ?_, ?_⟩
    · simp only [Facts, nthR, Is, and_true] at hd
      have h2 := hd
      clear hd
      simp only [h2] at hK ⊢
      obtain ⟨v, hc, hv⟩ := (hM.below hb).ses
      go_simp
      exact hK _ _ _ rfl (CB.refl _ _) hv
    refine ⟨fun u W hb hd K hK => ?_, ?_⟩
    · simp only [Facts, nthR, and_true] at hd
      have h3 := hd
      clear hd
      go_simp
      refine (sized_e _ m.ses 0 32 _ h3).mono ?_
      rintro e wy ⟨rfl, hby⟩
      rw [y1.out]
      exact hK _ _ _ rfl (CB.of hby hb.size) IsOut
    refine ⟨fun u W hb hd K hK => ?_, ?_⟩
    · simp only [Facts, nthR, Is, and_true] at hd
      have h4 := hd
      clear hd
      simp only [h4] at hK ⊢
      go_simp
      apply hK
      · simp only [Act.put, zSa, zSz, zSs]
        exact rfl
      · exact CB.refl _ _
      · exact IsOut
    refine ⟨fun u W hb hd K hK => ?_, ?_⟩
    · simp only [Facts, nthR, Is, and_true] at hd
      have h5 := hd
      clear hd
      simp only [h5] at hK ⊢
      go_simp
      apply hK
      · simp only [Act.put, zSa, zSz, zSs]
        exact rfl
      · exact CB.refl _ _
      · exact IsOut
    refine ⟨fun u W hb hd K hK => ?_, ?_⟩
    · simp only [Facts, nthR, Is, and_true] at hd
      obtain ⟨h5, h6⟩ := hd
      simp only [h5, h6] at hK ⊢
      go_simp
      apply hK
      · simp only [Act.put, zSa, zSz, zSs]
        exact rfl
      · exact CB.refl _ _
      · exact IsOut
    refine ⟨fun u W hb hd K hK => ?_, ?_⟩
    · simp only [Facts, nthR, Is, and_true] at hd
      obtain ⟨h5, h7⟩ := hd
      simp only [h5, h7] at hK ⊢
      go_simp
      apply hK
      · simp only [Act.put, zSa, zSz, zSs]
        exact rfl
      · exact CB.refl _ _
      · exact IsOut
    refine ⟨fun u W hb hd K hK => ?_, ?_⟩
    · simp only [Facts, nthR, Is, and_true] at hd
      obtain ⟨h5, h8⟩ := hd
      simp only [h5, h8] at hK ⊢
      obtain ⟨v, hc, hv⟩ := (hM.below hb).sha
      go_simp
      exact hK _ _ _ rfl (CB.refl _ _) hv
    refine ⟨fun u W hb hd K hK => ?_, ?_⟩
    · simp only [Facts, nthR, Is, and_true] at hd
      obtain ⟨h5, h9⟩ := hd
      simp only [h5] at hK ⊢
      obtain ⟨A0, c0, e0, f0⟩ := h9
      simp only [e0] at hK ⊢
      go_simp
      apply hK
      · simp only [Act.put, zSa, zSz, zSs]
        exact rfl
      · exact CB.refl _ _
      · exact IsOut
    refine ⟨fun u W hb hd K hK => ?_, ?_⟩
    · simp only [Facts, nthR, Is, and_true] at hd
      obtain ⟨h5, h10⟩ := hd
      simp only [h5, h10] at hK ⊢
      have hh := Lib.hid (show ((m.sha.length : Int) == (0 : Int)) = _ from (beqN m.sha.length 0).trans y2.out)
      go_simp
      rw [hh.out]
      apply hK
      · simp only [Act.put, zSa, zSz, zSs]
        exact rfl
      · exact CB.refl _ _
      · exact IsOut
    refine ⟨fun u W hb hd K hK => ?_, ?_⟩
    · simp only [Facts, nthR, Is, and_true] at hd
      obtain ⟨h5, h11⟩ := hd
      simp only [h5, h11] at hK ⊢
      go_simp
      apply hK
      · simp only [Act.put, zSa, zSz, zSs]
        exact rfl
      · exact CB.refl _ _
      · exact IsOut
    refine ⟨fun u W hb hd K hK => ?_, ?_⟩
    · simp only [Facts, nthR, Is, and_true] at hd
      have h12 := hd
      clear hd
      simp only [h12] at hK ⊢
      go_simp
      apply hK
      · simp only [Act.put, zSa, zSz, zSs]
        exact rfl
      · exact CB.refl _ _
      · exact IsOut
    refine ⟨fun u W hb hd K hK => ?_, ?_⟩
    · simp only [Facts, nthR, Is, and_true] at hd
      obtain ⟨h12, h13⟩ := hd
      simp only [h12, h13] at hK ⊢
      go_simp
      apply hK
      · simp only [Act.put, zSa, zSz, zSs]
        exact rfl
      · exact CB.refl _ _
      · exact IsOut
    refine ⟨fun u W hb hd K hK => ?_, ?_⟩
    · simp only [Facts, nthR, Is, and_true] at hd
      obtain ⟨h12, h14⟩ := hd
      simp only [h12, h14] at hK ⊢
      go_simp
      apply hK
      · simp only [Act.put, zSa, zSz, zSs]
        exact rfl
      · exact CB.refl _ _
      · exact IsOut
    refine ⟨fun u W hb hd K hK => ?_, ?_⟩
    · simp only [Facts, nthR, Is, and_true] at hd
      obtain ⟨h12, h15⟩ := hd
      simp only [h12, h15] at hK ⊢
      go_simp
      apply hK
      · simp only [Act.put, zSa, zSz, zSs]
        exact rfl
      · exact CB.refl _ _
      · exact IsOut
    refine ⟨fun u W hb hd K hK => ?_, ?_⟩
    · simp only [Facts, nthR, Is, and_true] at hd
      obtain ⟨h12, h16⟩ := hd
      simp only [h12, h16] at hK ⊢
      go_simp
      apply hK
      · simp only [Act.put, zSa, zSz, zSs]
        exact rfl
      · exact CB.refl _ _
      · exact IsOut
    refine ⟨fun u W hb hd K hK => ?_, ?_⟩
    · simp only [Facts, nthR, Is, and_true] at hd
      obtain ⟨h12, h17⟩ := hd
      simp only [h12, h17] at hK ⊢
      go_simp
      apply hK
      · simp only [Act.put, zSa, zSz, zSs]
        exact rfl
      · exact CB.refl _ _
      · exact IsOut
    refine ⟨fun u W hb hd K hK => ?_, ?_⟩
    · simp only [Facts, nthR, Is, and_true] at hd
      obtain ⟨h5, h12, h18⟩ := hd
      simp only [h5, h12, h18] at hK ⊢
      go_simp
      apply hK
      · simp only [Act.put, zSa, zSz, zSs]
        exact rfl
      · exact CB.refl _ _
      · exact IsOut
    refine ⟨fun u W hb hd K hK => ?_, ?_⟩
    · simp only [Facts, nthR, Is, and_true] at hd
      obtain ⟨h5, h19⟩ := hd
      simp only [h5, h19] at hK ⊢
      go_simp
      apply hK
      · simp only [Act.put, zSa, zSz, zSs]
        exact rfl
      · exact CB.refl _ _
      · exact IsOut
    refine ⟨fun u W hb hd K hK => ?_, ?_⟩
    · simp only [Facts, nthR, Is, and_true] at hd
      have h20 := hd
      clear hd
      simp only [h20] at hK ⊢
      go_simp
      apply hK
      · simp only [Act.put, zSa, zSz, zSs]
        exact rfl
      · exact CB.refl _ _
      · exact IsOut
    refine ⟨fun u W hb hd K hK => ?_, ?_⟩
    · simp only [Facts, nthR, Is, and_true] at hd
      have h21 := hd
      clear hd
      simp only [h21] at hK ⊢
      go_simp
      apply hK
      · simp only [Act.put, zSa, zSz, zSs]
        exact rfl
      · exact CB.refl _ _
      · exact IsOut
    refine ⟨fun u W hb hd K hK => ?_, ?_⟩
    · simp only [Facts, nthR, Is, and_true] at hd
      obtain ⟨h21, h22⟩ := hd
      simp only [h21, h22] at hK ⊢
      go_simp
      apply hK
      · simp only [Act.put, zSa, zSz, zSs]
        exact rfl
      · exact CB.refl _ _
      · exact IsOut
    refine ⟨fun u W hb hd K hK => ?_, ?_⟩
    · simp only [Facts, nthR, Is, and_true] at hd
      obtain ⟨h21, h23⟩ := hd
      simp only [h21, h23] at hK ⊢
      go_simp
      apply hK
      · simp only [Act.put, zSa, zSz, zSs]
        exact rfl
      · exact CB.refl _ _
      · exact IsOut
    refine ⟨fun u W hb hd K hK => ?_, ?_⟩
    · simp only [Facts, nthR, Is, and_true] at hd
      obtain ⟨h21, h24⟩ := hd
      simp only [h21, h24] at hK ⊢
      have hc := (hM.below hb).psk
      rw [y4.out] at hc
      go_simp
      apply hK
      · simp only [Act.put, zSa, zSz, zSs]
        exact rfl
      · exact CB.refl _ _
      · exact IsOut
    refine ⟨fun u W hb hd K hK => ?_, ?_⟩
    · simp only [Facts, nthR, Is, and_true] at hd
      obtain ⟨h21, h25⟩ := hd
      simp only [h21, h25] at hK ⊢
      go_simp
      apply hK
      · simp only [Act.put, zSa, zSz, zSs]
        exact rfl
      · exact CB.refl _ _
      · exact IsOut
    refine ⟨fun u W hb hd K hK => ?_, ?_⟩
    · simp only [Facts, nthR, Is, and_true] at hd
      obtain ⟨h21, h26⟩ := hd
      simp only [h21, h26] at hK ⊢
      go_simp
      apply hK
      · simp only [Act.put, zSa, zSz, zSs]
        exact rfl
      · exact CB.refl _ _
      · exact IsOut
    refine ⟨fun u W hb hd K hK => ?_, ?_⟩
    · simp only [Facts, nthR, Is, and_true] at hd
      have h27 := hd
      clear hd
      simp only [h27] at hK ⊢
      go_simp
      apply hK
      · simp only [Act.put, zSa, zSz, zSs]
        exact rfl
      · exact CB.refl _ _
      · exact IsOut
    refine ⟨fun u W hb hd K hK => ?_, ?_⟩
    · simp only [Facts, nthR, Is, and_true] at hd
      obtain ⟨h27, h28⟩ := hd
      simp only [h27, h28] at hK ⊢
      go_simp
      apply hK
      · simp only [Act.put, zSa, zSz, zSs]
        exact rfl
      · exact CB.refl _ _
      · exact IsOut
    refine ⟨fun u W hb hd K hK => ?_, ?_⟩
    · simp only [Facts, nthR, Is, and_true] at hd
      obtain ⟨h27, h29⟩ := hd
      simp only [h27, h29] at hK ⊢
      go_simp
      apply hK
      · simp only [Act.put, zSa, zSz, zSs]
        exact rfl
      · exact CB.refl _ _
      · exact IsOut
    refine ⟨fun u W hb hd K hK => ?_, ?_⟩
    · simp only [Facts, nthR, Is, and_true] at hd
      obtain ⟨h27, h30⟩ := hd
      simp only [h27, h30] at hK ⊢
      go_simp
      apply hK
      · simp only [Act.put, zSa, zSz, zSs]
        exact rfl
      · exact CB.refl _ _
      · exact IsOut
    refine ⟨fun u W hb hd K hK => ?_, ?_⟩
    · simp only [Facts, nthR, Is, and_true] at hd
      obtain ⟨h27, h31⟩ := hd
      simp only [h27, h31] at hK ⊢
      go_simp
      apply hK
      · simp only [Act.put, zSa, zSz, zSs]
        exact rfl
      · exact CB.refl _ _
      · exact IsOut
    refine ⟨fun u W hb hd K hK => ?_, ?_⟩
    · simp only [Facts, nthR, Is, and_true] at hd
      obtain ⟨h27, h32⟩ := hd
      simp only [h27, h32] at hK ⊢
      go_simp
      apply hK
      · simp only [Act.put, zSa, zSz, zSs]
        exact rfl
      · exact CB.refl _ _
      · exact IsOut
    refine ⟨fun u W hb hd K hK => ?_, ?_⟩
    · simp only [Facts, nthR, Is, and_true] at hd
      have h33 := hd
      clear hd
      simp only [h33] at hK ⊢
      go_simp
      apply hK
      · simp only [Act.put, zSa, zSz, zSs]
        exact rfl
      · exact CB.refl _ _
      · exact IsOut
    refine ⟨fun u W hb hd K hK => ?_, ?_⟩
    · simp only [Facts, nthR, Is, and_true] at hd
      obtain ⟨h33, h34⟩ := hd
      simp only [h33, h34] at hK ⊢
      go_simp
      apply hK
      · simp only [Act.put, zSa, zSz, zSs]
        exact rfl
      · exact CB.refl _ _
      · exact IsOut
    refine ⟨fun u W hb hd K hK => ?_, ?_⟩
    · simp only [Facts, nthR, Is, and_true] at hd
      obtain ⟨h33, h35⟩ := hd
      simp only [h33, h35] at hK ⊢
      go_simp
      apply hK
      · simp only [Act.put, zSa, zSz, zSs]
        exact rfl
      · exact CB.refl _ _
      · exact IsOut
    refine ⟨fun u W hb hd K hK => ?_, ?_⟩
    · simp only [Facts, nthR, Is, and_true] at hd
      obtain ⟨h33, h36⟩ := hd
      simp only [h33, h36] at hK ⊢
      go_simp
      apply hK
      · simp only [Act.put, zSa, zSz, zSs]
        exact rfl
      · exact CB.refl _ _
      · exact IsOut
    refine ⟨fun u W hb hd K hK => ?_, ?_⟩
    · simp only [Facts, nthR, Is, and_true] at hd
      obtain ⟨h33, h37⟩ := hd
      simp only [h33, h37] at hK ⊢
      go_simp
      apply hK
      · simp only [Act.put, zSa, zSz, zSs]
        exact rfl
      · exact CB.refl _ _
      · exact IsOut
    refine ⟨fun u W hb hd K hK => ?_, ?_⟩
    · simp only [Facts, nthR, Is, and_true] at hd
      obtain ⟨h27, h33, h38⟩ := hd
      simp only [h27, h33, h38] at hK ⊢
      go_simp
      apply hK
      · simp only [Act.put, zSa, zSz, zSs]
        exact rfl
      · exact CB.refl _ _
      · exact IsOut
    refine ⟨fun u W hb hd K hK => ?_, ?_⟩
    · simp only [Facts, nthR, Is, and_true] at hd
      obtain ⟨h21, h27, h39⟩ := hd
      simp only [h21, h27, h39] at hK ⊢
      go_simp
      apply hK
      · simp only [Act.put, zSa, zSz, zSs]
        exact rfl
      · exact CB.refl _ _
      · exact IsOut
    refine ⟨fun u W hb hd K hK => ?_, ?_⟩
    · simp only [Facts, nthR, Is, and_true] at hd
      obtain ⟨h21, h40⟩ := hd
      simp only [h21, h40] at hK ⊢
      go_simp
      apply hK
      · simp only [Act.put, zSa, zSz, zSs]
        exact rfl
      · exact CB.refl _ _
      · exact IsOut
    exact trivial
  · exact (.is (.is (.is (.cons (fun _ _ _ h hb => h.cb hb) (.is (.is (.is (.is (.is (.cons (fun _ _ _ h hb => h.cb hb) (.is (.is (.is (.is (.is (.is (.is (.is (.is (.is (.is (.is (.is (.is (.is (.is (.is (.is (.is (.is (.is (.is (.is (.is (.is (.is (.is (.is (.is (.is (.is (.is .nil))))))))))))))))))))))))))))))))))))))))))
  intro u w1 hb hd
  simp only [List.drop_succ_cons, List.drop_zero]
  simp only [Facts, nthR, Is, and_true] at hd
  have h41 := hd
  clear hd
  simp only [h41]
  clear h41
  replace hM := hM.below hb
  replace hb0 := hb0.trans (hb.mono hb0.size)
  clear hb
  go_wp2
  refine bodyPost_ret (results_tmp Tryd.results35 _ _ _) rfl ?_
  exact ⟨rfl, hb0⟩
set_option maxRecDepth 100000 in
set_option maxHeartbeats 400000 in
theorem fits1sd (m : Msg) (g : Nat) (w : World) (_hT : TabH w) (hM : MAt w g m) (hk : m.kind = 1) (y1 : Hid (sized m.ses 0 32 = true))(y2 : Hid (decide (m.sha.length = 0) = true))(y4 : Hid (m.psk = true))(y5 : Hid (sized m.tic 1 1000 = false)) : Calls Tryd.prog 35 #[.pointer (some ⟨g, 0, none⟩)] w fun e w' => e = .returned (.bool false) ∧ Below w.heap.size w w' := by
  have hc := hM.kind
  rw [hk] at hc
  have hl := hM.lens
  go_enter Tryd.func35, Tryd.ntmps35
  have hb0 : Below w.heap.size w w := Below.refl _ _
  go_upto_region 3 with (fail)
  apply wp_plain_onceK (m := 42) (J := [[], [0], [1], [2], [3], [4], [5], [5, 6], [5, 7], [5, 8], [5, 9], [5, 10], [5, 11], [12], [12, 13], [12, 14], [12, 15], [12, 16], [12, 17], [5, 12, 18], [5, 19], [20], [21], [21, 22], [21, 23], [21, 24], [21, 25], [21, 26], [27], [27, 28], [27, 29], [27, 30], [27, 31], [27, 32], [33], [33, 34], [33, 35], [33, 36], [33, 37], [27, 33, 38], [21, 27, 39], [21, 40]]) (Je := [41]) (Rs := [Is _, Is _, Is _, fun v V => SlV V v (m.ses), Is _, Is _, Is _, Is _, Is _, fun v V => SlV V v (m.sha), Is _, Is _, Is _, Is _, Is _, Is _, Is _, Is _, Is _, Is _, Is _, Is _, Is _, Is _, Is _, Is _, Is _, Is _, Is _, Is _, Is _, fun v V => SlV V v (m.tic), Is _, Is _, Is _, Is _, Is _, Is _, Is _, Is _, Is _, Is _])
  · kernel_rfl
  · kernel_rfl
  · intro u
    simp only [List.take_succ_cons, List.take_zero, List.map_cons, List.map_nil, fillU, List.setIfInBounds_toArray, List.set_cons_zero, List.set_cons_succ, Nat.reduceAdd]
    exact rfl
  · simp only [List.take_succ_cons, List.take_zero]
    refine ⟨fun u W hb hd K hK => ?_, ?_⟩
    · clear hd
      go_simp
      apply hK
      · simp only [Act.put, zSa, zSz, zSs]
        exact rfl
      · exact CB.refl _ _
      · exact IsOut
    refine ⟨fun u W hb hd K hK => ?_, ?_⟩
    · simp only [Facts, nthR, Is, and_true] at hd
      have h0 := hd
      clear hd
      simp only [h0] at hK ⊢
      go_simp
      apply hK
      · simp only [Act.put, zSa, zSz, zSs]
        exact rfl
      · exact CB.refl _ _
      · exact IsOut
    refine ⟨fun u W hb hd K hK => ?_, ?_⟩
    · simp only [Facts, nthR, Is, and_true] at hd
      have h1 := hd
      clear hd
      simp only [h1] at hK ⊢
      go_simp
      apply hK
      · simp only [Act.put, zSa, zSz, zSs]
        exact rfl
      · exact CB.refl _ _
      · exact IsOut
    refine ⟨fun u W hb hd K hK => ?_, ?_⟩
    · simp only [Facts, nthR, Is, and_true] at hd
      have h2 := hd
      clear hd
      simp only [h2] at hK ⊢
      obtain ⟨v, hc, hv⟩ := (hM.below hb).ses
      go_simp
      exact hK _ _ _ rfl (CB.refl _ _) hv
    refine ⟨fun u W hb hd K hK => ?_, ?_⟩
    · simp only [Facts, nthR, and_true] at hd
      have h3 := hd
      clear hd
      go_simp
      refine (sized_e _ m.ses 0 32 _ h3).mono ?_
      rintro e wy ⟨rfl, hby⟩
      rw [y1.out]
      exact hK _ _ _ rfl (CB.of hby hb.size) IsOut
    refine ⟨fun u W hb hd K hK => ?_, ?_⟩
    · simp only [Facts, nthR, Is, and_true] at hd
      have h4 := hd
      clear hd
      simp only [h4] at hK ⊢
      go_simp
      apply hK
      · simp only [Act.put, zSa, zSz, zSs]
        exact rfl
      · exact CB.refl _ _
      · exact IsOut
    refine ⟨fun u W hb hd K hK => ?_, ?_⟩
    · simp only [Facts, nthR, Is, and_true] at hd
      have h5 := hd
      clear hd
      simp only [h5] at hK ⊢
      go_simp
      apply hK
      · simp only [Act.put, zSa, zSz, zSs]
        exact rfl
      · exact CB.refl _ _
      · exact IsOut
    refine ⟨fun u W hb hd K hK => ?_, ?_⟩
    · simp only [Facts, nthR, Is, and_true] at hd
      obtain ⟨h5, h6⟩ := hd
      simp only [h5, h6] at hK ⊢
      go_simp
      apply hK
      · simp only [Act.put, zSa, zSz, zSs]
        exact rfl
      · exact CB.refl _ _
      · exact IsOut
    refine ⟨fun u W hb hd K hK => ?_, ?_⟩
    · simp only [Facts, nthR, Is, and_true] at hd
      obtain ⟨h5, h7⟩ := hd
      simp only [h5, h7] at hK ⊢
      go_simp
      apply hK
      · simp only [Act.put, zSa, zSz, zSs]
        exact rfl
      · exact CB.refl _ _
      · exact IsOut
    refine ⟨fun u W hb hd K hK => ?_, ?_⟩
    · simp only [Facts, nthR, Is, and_true] at hd
      obtain ⟨h5, h8⟩ := hd
      simp only [h5, h8] at hK ⊢
      obtain ⟨v, hc, hv⟩ := (hM.below hb).sha
      go_simp
      exact hK _ _ _ rfl (CB.refl _ _) hv
    refine ⟨fun u W hb hd K hK => ?_, ?_⟩
    · simp only [Facts, nthR, Is, and_true] at hd
      obtain ⟨h5, h9⟩ := hd
      simp only [h5] at hK ⊢
      obtain ⟨A0, c0, e0, f0⟩ := h9
      simp only [e0] at hK ⊢
      go_simp
      apply hK
      · simp only [Act.put, zSa, zSz, zSs]
        exact rfl
      · exact CB.refl _ _
      · exact IsOut
    refine ⟨fun u W hb hd K hK => ?_, ?_⟩
    · simp only [Facts, nthR, Is, and_true] at hd
      obtain ⟨h5, h10⟩ := hd
      simp only [h5, h10] at hK ⊢
      have hh := Lib.hid (show ((m.sha.length : Int) == (0 : Int)) = _ from (beqN m.sha.length 0).trans y2.out)
      go_simp
      rw [hh.out]
      apply hK
      · simp only [Act.put, zSa, zSz, zSs]
        exact rfl
      · exact CB.refl _ _
      · exact IsOut
    refine ⟨fun u W hb hd K hK => ?_, ?_⟩
    · simp only [Facts, nthR, Is, and_true] at hd
      obtain ⟨h5, h11⟩ := hd
      simp only [h5, h11] at hK ⊢
      go_simp
      apply hK
      · simp only [Act.put, zSa, zSz, zSs]
        exact rfl
      · exact CB.refl _ _
      · exact IsOut
    refine ⟨fun u W hb hd K hK => ?_, ?_⟩
    · simp only [Facts, nthR, Is, and_true] at hd
      have h12 := hd
      clear hd
      simp only [h12] at hK ⊢
      go_simp
      apply hK
      · simp only [Act.put, zSa, zSz, zSs]
        exact rfl
      · exact CB.refl _ _
      · exact IsOut
    refine ⟨fun u W hb hd K hK => ?_, ?_⟩
    · simp only [Facts, nthR, Is, and_true] at hd
      obtain ⟨h12, h13⟩ := hd
      simp only [h12, h13] at hK ⊢
      go_simp
      apply hK
      · simp only [Act.put, zSa, zSz, zSs]
        exact rfl
      · exact CB.refl _ _
      · exact IsOut
    refine ⟨fun u W hb hd K hK => ?_, ?_⟩
    · simp only [Facts, nthR, Is, and_true] at hd
      obtain ⟨h12, h14⟩ := hd
      simp only [h12, h14] at hK ⊢
      go_simp
      apply hK
      · simp only [Act.put, zSa, zSz, zSs]
        exact rfl
      · exact CB.refl _ _
      · exact IsOut
    refine ⟨fun u W hb hd K hK => ?_, ?_⟩
    · simp only [Facts, nthR, Is, and_true] at hd
      obtain ⟨h12, h15⟩ := hd
      simp only [h12, h15] at hK ⊢
      go_simp
      apply hK
      · simp only [Act.put, zSa, zSz, zSs]
        exact rfl
      · exact CB.refl _ _
      · exact IsOut
    refine ⟨fun u W hb hd K hK => ?_, ?_⟩
    · simp only [Facts, nthR, Is, and_true] at hd
      obtain ⟨h12, h16⟩ := hd
      simp only [h12, h16] at hK ⊢
      go_simp
      apply hK
      · simp only [Act.put, zSa, zSz, zSs]
        exact rfl
      · exact CB.refl _ _
      · exact IsOut
    refine ⟨fun u W hb hd K hK => ?_, ?_⟩
    · simp only [Facts, nthR, Is, and_true] at hd
      obtain ⟨h12, h17⟩ := hd
      simp only [h12, h17] at hK ⊢
      go_simp
      apply hK
      · simp only [Act.put, zSa, zSz, zSs]
        exact rfl
      · exact CB.refl _ _
      · exact IsOut
    refine ⟨fun u W hb hd K hK => ?_, ?_⟩
    · simp only [Facts, nthR, Is, and_true] at hd
      obtain ⟨h5, h12, h18⟩ := hd
      simp only [h5, h12, h18] at hK ⊢
      go_simp
      apply hK
      · simp only [Act.put, zSa, zSz, zSs]
        exact rfl
      · exact CB.refl _ _
      · exact IsOut
    refine ⟨fun u W hb hd K hK => ?_, ?_⟩
    · simp only [Facts, nthR, Is, and_true] at hd
      obtain ⟨h5, h19⟩ := hd
      simp only [h5, h19] at hK ⊢
      go_simp
      apply hK
      · simp only [Act.put, zSa, zSz, zSs]
        exact rfl
      · exact CB.refl _ _
      · exact IsOut
    refine ⟨fun u W hb hd K hK => ?_, ?_⟩
    · simp only [Facts, nthR, Is, and_true] at hd
      have h20 := hd
      clear hd
      simp only [h20] at hK ⊢
      go_simp
      apply hK
      · simp only [Act.put, zSa, zSz, zSs]
        exact rfl
      · exact CB.refl _ _
      · exact IsOut
    refine ⟨fun u W hb hd K hK => ?_, ?_⟩
    · simp only [Facts, nthR, Is, and_true] at hd
      have h21 := hd
      clear hd
      simp only [h21] at hK ⊢
      go_simp
      apply hK
      · simp only [Act.put, zSa, zSz, zSs]
        exact rfl
      · exact CB.refl _ _
      · exact IsOut
    refine ⟨fun u W hb hd K hK => ?_, ?_⟩
    · simp only [Facts, nthR, Is, and_true] at hd
      obtain ⟨h21, h22⟩ := hd
      simp only [h21, h22] at hK ⊢
      go_simp
      apply hK
      · simp only [Act.put, zSa, zSz, zSs]
        exact rfl
      · exact CB.refl _ _
      · exact IsOut
    refine ⟨fun u W hb hd K hK => ?_, ?_⟩
    · simp only [Facts, nthR, Is, and_true] at hd
      obtain ⟨h21, h23⟩ := hd
      simp only [h21, h23] at hK ⊢
      go_simp
      apply hK
      · simp only [Act.put, zSa, zSz, zSs]
        exact rfl
      · exact CB.refl _ _
      · exact IsOut
    refine ⟨fun u W hb hd K hK => ?_, ?_⟩
    · simp only [Facts, nthR, Is, and_true] at hd
      obtain ⟨h21, h24⟩ := hd
      simp only [h21, h24] at hK ⊢
      have hc := (hM.below hb).psk
      rw [y4.out] at hc
      go_simp
      apply hK
      · simp only [Act.put, zSa, zSz, zSs]
        exact rfl
      · exact CB.refl _ _
      · exact IsOut
    refine ⟨fun u W hb hd K hK => ?_, ?_⟩
    · simp only [Facts, nthR, Is, and_true] at hd
      obtain ⟨h21, h25⟩ := hd
      simp only [h21, h25] at hK ⊢
      go_simp
      apply hK
      · simp only [Act.put, zSa, zSz, zSs]
        exact rfl
      · exact CB.refl _ _
      · exact IsOut
    refine ⟨fun u W hb hd K hK => ?_, ?_⟩
    · simp only [Facts, nthR, Is, and_true] at hd
      obtain ⟨h21, h26⟩ := hd
      simp only [h21, h26] at hK ⊢
      go_simp
      apply hK
      · simp only [Act.put, zSa, zSz, zSs]
        exact rfl
      · exact CB.refl _ _
      · exact IsOut
    refine ⟨fun u W hb hd K hK => ?_, ?_⟩
    · simp only [Facts, nthR, Is, and_true] at hd
      have h27 := hd
      clear hd
      simp only [h27] at hK ⊢
      go_simp
      apply hK
      · simp only [Act.put, zSa, zSz, zSs]
        exact rfl
      · exact CB.refl _ _
      · exact IsOut
    refine ⟨fun u W hb hd K hK => ?_, ?_⟩
    · simp only [Facts, nthR, Is, and_true] at hd
      obtain ⟨h27, h28⟩ := hd
      simp only [h27, h28] at hK ⊢
      go_simp
      apply hK
      · simp only [Act.put, zSa, zSz, zSs]
        exact rfl
      · exact CB.refl _ _
      · exact IsOut
    refine ⟨fun u W hb hd K hK => ?_, ?_⟩
    · simp only [Facts, nthR, Is, and_true] at hd
      obtain ⟨h27, h29⟩ := hd
      simp only [h27, h29] at hK ⊢
      go_simp
      apply hK
      · simp only [Act.put, zSa, zSz, zSs]
        exact rfl
      · exact CB.refl _ _
      · exact IsOut
    refine ⟨fun u W hb hd K hK => ?_, ?_⟩
    · simp only [Facts, nthR, Is, and_true] at hd
      obtain ⟨h27, h30⟩ := hd
      simp only [h27, h30] at hK ⊢
      obtain ⟨v, hc, hv⟩ := (hM.below hb).tic
      go_simp
      exact hK _ _ _ rfl (CB.refl _ _) hv
    refine ⟨fun u W hb hd K hK => ?_, ?_⟩
    · simp only [Facts, nthR, Is, and_true] at hd
      obtain ⟨h27, h31⟩ := hd
      simp only [h27] at hK ⊢
      go_simp
      refine (sized_e _ m.tic 1 1000 _ h31).mono ?_
      rintro e wy ⟨rfl, hby⟩
      rw [y5.out]
      exact hK _ _ _ rfl (CB.of hby hb.size) IsOut
    refine ⟨fun u W hb hd K hK => ?_, ?_⟩
    · simp only [Facts, nthR, Is, and_true] at hd
      obtain ⟨h27, h32⟩ := hd
      simp only [h27, h32] at hK ⊢
      go_simp
      apply hK
      · simp only [Act.put, zSa, zSz, zSs]
        exact rfl
      · exact CB.refl _ _
      · exact IsOut
    refine ⟨fun u W hb hd K hK => ?_, ?_⟩
    · simp only [Facts, nthR, Is, and_true] at hd
      have h33 := hd
      clear hd
      simp only [h33] at hK ⊢
      go_simp
      apply hK
      · simp only [Act.put, zSa, zSz, zSs]
        exact rfl
      · exact CB.refl _ _
      · exact IsOut
    refine ⟨fun u W hb hd K hK => ?_, ?_⟩
    · simp only [Facts, nthR, Is, and_true] at hd
      obtain ⟨h33, h34⟩ := hd
      simp only [h33, h34] at hK ⊢
      go_simp
      apply hK
      · simp only [Act.put, zSa, zSz, zSs]
        exact rfl
      · exact CB.refl _ _
      · exact IsOut
    refine ⟨fun u W hb hd K hK => ?_, ?_⟩
    · simp only [Facts, nthR, Is, and_true] at hd
      obtain ⟨h33, h35⟩ := hd
      simp only [h33, h35] at hK ⊢
      go_simp
      apply hK
      · simp only [Act.put, zSa, zSz, zSs]
        exact rfl
      · exact CB.refl _ _
      · exact IsOut
    refine ⟨fun u W hb hd K hK => ?_, ?_⟩
    · simp only [Facts, nthR, Is, and_true] at hd
      obtain ⟨h33, h36⟩ := hd
      simp only [h33, h36] at hK ⊢
      go_simp
      apply hK
      · simp only [Act.put, zSa, zSz, zSs]
        exact rfl
      · exact CB.refl _ _
      · exact IsOut
    refine ⟨fun u W hb hd K hK => ?_, ?_⟩
    · simp only [Facts, nthR, Is, and_true] at hd
      obtain ⟨h33, h37⟩ := hd
      simp only [h33, h37] at hK ⊢
      go_simp
      apply hK
      · simp only [Act.put, zSa, zSz, zSs]
        exact rfl
      · exact CB.refl _ _
      · exact IsOut
    refine ⟨fun u W hb hd K hK => ?_, ?_⟩
    · simp only [Facts, nthR, Is, and_true] at hd
      obtain ⟨h27, h33, h38⟩ := hd
      simp only [h27, h33, h38] at hK ⊢
      go_simp
      apply hK
      · simp only [Act.put, zSa, zSz, zSs]
        exact rfl
      · exact CB.refl _ _
      · exact IsOut
    refine ⟨fun u W hb hd K hK => ?_, ?_⟩
    · simp only [Facts, nthR, Is, and_true] at hd
      obtain ⟨h21, h27, h39⟩ := hd
      simp only [h21, h27, h39] at hK ⊢
      go_simp
      apply hK
      · simp only [Act.put, zSa, zSz, zSs]
        exact rfl
      · exact CB.refl _ _
      · exact IsOut
    refine ⟨fun u W hb hd K hK => ?_, ?_⟩
    · simp only [Facts, nthR, Is, and_true] at hd
      obtain ⟨h21, h40⟩ := hd
      simp only [h21, h40] at hK ⊢
      go_simp
      apply hK
      · simp only [Act.put, zSa, zSz, zSs]
        exact rfl
      · exact CB.refl _ _
      · exact IsOut
    exact trivial
  · exact (.is (.is (.is (.cons (fun _ _ _ h hb => h.cb hb) (.is (.is (.is (.is (.is (.cons (fun _ _ _ h hb => h.cb hb) (.is (.is (.is (.is (.is (.is (.is (.is (.is (.is (.is (.is (.is (.is (.is (.is (.is (.is (.is (.is (.is (.cons (fun _ _ _ h hb => h.cb hb) (.is (.is (.is (.is (.is (.is (.is (.is (.is (.is .nil))))))))))))))))))))))))))))))))))))))))))
  intro u w1 hb hd
  simp only [List.drop_succ_cons, List.drop_zero]
  simp only [Facts, nthR, Is, and_true] at hd
  have h41 := hd
  clear hd
  simp only [h41]
  clear h41
  replace hM := hM.below hb
  replace hb0 := hb0.trans (hb.mono hb0.size)
  clear hb
  go_wp2
  refine bodyPost_ret (results_tmp Tryd.results35 _ _ _) rfl ?_
  exact ⟨rfl, hb0⟩
set_option maxRecDepth 100000 in
set_option maxHeartbeats 400000 in
theorem fits1se (m : Msg) (g : Nat) (w : World) (_hT : TabH w) (hM : MAt w g m) (hk : m.kind = 1) (y1 : Hid (sized m.ses 0 32 = true))(y2 : Hid (decide (m.sha.length = 0) = true))(y4 : Hid (m.psk = true))(y5 : Hid (sized m.tic 1 1000 = true))(y6 : Hid (wide m.age = false)) : Calls Tryd.prog 35 #[.pointer (some ⟨g, 0, none⟩)] w fun e w' => e = .returned (.bool false) ∧ Below w.heap.size w w' := by
  have hc := hM.kind
  rw [hk] at hc
  have hl := hM.lens
  go_enter Tryd.func35, Tryd.ntmps35
  have hb0 : Below w.heap.size w w := Below.refl _ _
  go_upto_region 3 with (fail)
  apply wp_plain_onceK (m := 42) (J := [[], [0], [1], [2], [3], [4], [5], [5, 6], [5, 7], [5, 8], [5, 9], [5, 10], [5, 11], [12], [12, 13], [12, 14], [12, 15], [12, 16], [12, 17], [5, 12, 18], [5, 19], [20], [21], [21, 22], [21, 23], [21, 24], [21, 25], [21, 26], [27], [27, 28], [27, 29], [27, 30], [27, 31], [27, 32], [33], [33, 34], [33, 35], [33, 36], [33, 37], [27, 33, 38], [21, 27, 39], [21, 40]]) (Je := [41]) (Rs := [Is _, Is _, Is _, fun v V => SlV V v (m.ses), Is _, Is _, Is _, Is _, Is _, fun v V => SlV V v (m.sha), Is _, Is _, Is _, Is _, Is _, Is _, Is _, Is _, Is _, Is _, Is _, Is _, Is _, Is _, Is _, Is _, Is _, Is _, Is _, Is _, Is _, fun v V => SlV V v (m.tic), Is _, Is _, Is _, Is _, Is _, Is _, Is _, Is _, Is _, Is _])
  · kernel_rfl
  · kernel_rfl
  · intro u
    simp only [List.take_succ_cons, List.take_zero, List.map_cons, List.map_nil, fillU, List.setIfInBounds_toArray, List.set_cons_zero, List.set_cons_succ, Nat.reduceAdd]
    exact rfl
  · simp only [List.take_succ_cons, List.take_zero]
    refine ⟨fun u W hb hd K hK => ?_, ?_⟩
    · clear hd
      go_simp
      apply hK
      · simp only [Act.put, zSa, zSz, zSs]
        exact rfl
      · exact CB.refl _ _
      · exact IsOut
    refine ⟨fun u W hb hd K hK => ?_, ?_⟩
    · simp only [Facts, nthR, Is, and_true] at hd
      have h0 := hd
      clear hd
      simp only [h0] at hK ⊢
      go_simp
      apply hK
      · simp only [Act.put, zSa, zSz, zSs]
        exact rfl
      · exact CB.refl _ _
      · exact IsOut
    refine ⟨fun u W hb hd K hK => ?_, ?_⟩
    · simp only [Facts, nthR, Is, and_true] at hd
      have h1 := hd
      clear hd
      simp only [h1] at hK ⊢
      go_simp
      apply hK
      · simp only [Act.put, zSa, zSz, zSs]
        exact rfl
      · exact CB.refl _ _
      · exact IsOut
    refine ⟨fun u W hb hd K hK => ?_, ?_⟩
    · simp only [Facts, nthR, Is, and_true] at hd
      have h2 := hd
      clear hd
      simp only [h2] at hK ⊢
      obtain ⟨v, hc, hv⟩ := (hM.below hb).ses
      go_simp
      exact hK _ _ _ rfl (CB.refl _ _) hv
    refine ⟨fun u W hb hd K hK => ?_, ?_⟩
    · simp only [Facts, nthR, and_true] at hd
      have h3 := hd
      clear hd
      go_simp
      refine (sized_e _ m.ses 0 32 _ h3).mono ?_
      rintro e wy ⟨rfl, hby⟩
      rw [y1.out]
      exact hK _ _ _ rfl (CB.of hby hb.size) IsOut
    refine ⟨fun u W hb hd K hK => ?_, ?_⟩
    · simp only [Facts, nthR, Is, and_true] at hd
      have h4 := hd
      clear hd
      simp only [h4] at hK ⊢
      go_simp
      apply hK
      · simp only [Act.put, zSa, zSz, zSs]
        exact rfl
      · exact CB.refl _ _
      · exact IsOut
    refine ⟨fun u W hb hd K hK => ?_, ?_⟩
    · simp only [Facts, nthR, Is, and_true] at hd
      have h5 := hd
      clear hd
      simp only [h5] at hK ⊢
      go_simp
      apply hK
      · simp only [Act.put, zSa, zSz, zSs]
        exact rfl
      · exact CB.refl _ _
      · exact IsOut
    refine ⟨fun u W hb hd K hK => ?_, ?_⟩
    · simp only [Facts, nthR, Is, and_true] at hd
      obtain ⟨h5, h6⟩ := hd
      simp only [h5, h6] at hK ⊢
      go_simp
      apply hK
      · simp only [Act.put, zSa, zSz, zSs]
        exact rfl
      · exact CB.refl _ _
      · exact IsOut
    refine ⟨fun u W hb hd K hK => ?_, ?_⟩
    · simp only [Facts, nthR, Is, and_true] at hd
      obtain ⟨h5, h7⟩ := hd
      simp only [h5, h7] at hK ⊢
      go_simp
      apply hK
      · simp only [Act.put, zSa, zSz, zSs]
        exact rfl
      · exact CB.refl _ _
      · exact IsOut
    refine ⟨fun u W hb hd K hK => ?_, ?_⟩
    · simp only [Facts, nthR, Is, and_true] at hd
      obtain ⟨h5, h8⟩ := hd
      simp only [h5, h8] at hK ⊢
      obtain ⟨v, hc, hv⟩ := (hM.below hb).sha
      go_simp
      exact hK _ _ _ rfl (CB.refl _ _) hv
    refine ⟨fun u W hb hd K hK => ?_, ?_⟩
    · simp only [Facts, nthR, Is, and_true] at hd
      obtain ⟨h5, h9⟩ := hd
      simp only [h5] at hK ⊢
      obtain ⟨A0, c0, e0, f0⟩ := h9
      simp only [e0] at hK ⊢
      go_simp
      apply hK
      · simp only [Act.put, zSa, zSz, zSs]
        exact rfl
      · exact CB.refl _ _
      · exact IsOut
    refine ⟨fun u W hb hd K hK => ?_, ?_⟩
    · simp only [Facts, nthR, Is, and_true] at hd
      obtain ⟨h5, h10⟩ := hd
      simp only [h5, h10] at hK ⊢
      have hh := Lib.hid (show ((m.sha.length : Int) == (0 : Int)) = _ from (beqN m.sha.length 0).trans y2.out)
      go_simp
      rw [hh.out]
      apply hK
      · simp only [Act.put, zSa, zSz, zSs]
        exact rfl
      · exact CB.refl _ _
      · exact IsOut
    refine ⟨fun u W hb hd K hK => ?_, ?_⟩
    · simp only [Facts, nthR, Is, and_true] at hd
      obtain ⟨h5, h11⟩ := hd
      simp only [h5, h11] at hK ⊢
      go_simp
      apply hK
      · simp only [Act.put, zSa, zSz, zSs]
        exact rfl
      · exact CB.refl _ _
      · exact IsOut
    refine ⟨fun u W hb hd K hK => ?_, ?_⟩
    · simp only [Facts, nthR, Is, and_true] at hd
      have h12 := hd
      clear hd
      simp only [h12] at hK ⊢
      go_simp
      apply hK
      · simp only [Act.put, zSa, zSz, zSs]
        exact rfl
      · exact CB.refl _ _
      · exact IsOut
    refine ⟨fun u W hb hd K hK => ?_, ?_⟩
    · simp only [Facts, nthR, Is, and_true] at hd
      obtain ⟨h12, h13⟩ := hd
      simp only [h12, h13] at hK ⊢
      go_simp
      apply hK
      · simp only [Act.put, zSa, zSz, zSs]
        exact rfl
      · exact CB.refl _ _
      · exact IsOut
    refine ⟨fun u W hb hd K hK => ?_, ?_⟩
    · simp only [Facts, nthR, Is, and_true] at hd
      obtain ⟨h12, h14⟩ := hd
      simp only [h12, h14] at hK ⊢
      go_simp
      apply hK
      · simp only [Act.put, zSa, zSz, zSs]
        exact rfl
      · exact CB.refl _ _
      · exact IsOut
    refine ⟨fun u W hb hd K hK => ?_, ?_⟩
    · simp only [Facts, nthR, Is, and_true] at hd
      obtain ⟨h12, h15⟩ := hd
      simp only [h12, h15] at hK ⊢
      go_simp
      apply hK
      · simp only [Act.put, zSa, zSz, zSs]
        exact rfl
      · exact CB.refl _ _
      · exact IsOut
    refine ⟨fun u W hb hd K hK => ?_, ?_⟩
    · simp only [Facts, nthR, Is, and_true] at hd
      obtain ⟨h12, h16⟩ := hd
      simp only [h12, h16] at hK ⊢
      go_simp
      apply hK
      · simp only [Act.put, zSa, zSz, zSs]
        exact rfl
      · exact CB.refl _ _
      · exact IsOut
    refine ⟨fun u W hb hd K hK => ?_, ?_⟩
    · simp only [Facts, nthR, Is, and_true] at hd
      obtain ⟨h12, h17⟩ := hd
      simp only [h12, h17] at hK ⊢
      go_simp
      apply hK
      · simp only [Act.put, zSa, zSz, zSs]
        exact rfl
      · exact CB.refl _ _
      · exact IsOut
    refine ⟨fun u W hb hd K hK => ?_, ?_⟩
    · simp only [Facts, nthR, Is, and_true] at hd
      obtain ⟨h5, h12, h18⟩ := hd
      simp only [h5, h12, h18] at hK ⊢
      go_simp
      apply hK
      · simp only [Act.put, zSa, zSz, zSs]
        exact rfl
      · exact CB.refl _ _
      · exact IsOut
    refine ⟨fun u W hb hd K hK => ?_, ?_⟩
    · simp only [Facts, nthR, Is, and_true] at hd
      obtain ⟨h5, h19⟩ := hd
      simp only [h5, h19] at hK ⊢
      go_simp
      apply hK
      · simp only [Act.put, zSa, zSz, zSs]
        exact rfl
      · exact CB.refl _ _
      · exact IsOut
    refine ⟨fun u W hb hd K hK => ?_, ?_⟩
    · simp only [Facts, nthR, Is, and_true] at hd
      have h20 := hd
      clear hd
      simp only [h20] at hK ⊢
      go_simp
      apply hK
      · simp only [Act.put, zSa, zSz, zSs]
        exact rfl
      · exact CB.refl _ _
      · exact IsOut
    refine ⟨fun u W hb hd K hK => ?_, ?_⟩
    · simp only [Facts, nthR, Is, and_true] at hd
      have h21 := hd
      clear hd
      simp only [h21] at hK ⊢
      go_simp
      apply hK
      · simp only [Act.put, zSa, zSz, zSs]
        exact rfl
      · exact CB.refl _ _
      · exact IsOut
    refine ⟨fun u W hb hd K hK => ?_, ?_⟩
    · simp only [Facts, nthR, Is, and_true] at hd
      obtain ⟨h21, h22⟩ := hd
      simp only [h21, h22] at hK ⊢
      go_simp
      apply hK
      · simp only [Act.put, zSa, zSz, zSs]
        exact rfl
      · exact CB.refl _ _
      · exact IsOut
    refine ⟨fun u W hb hd K hK => ?_, ?_⟩
    · simp only [Facts, nthR, Is, and_true] at hd
      obtain ⟨h21, h23⟩ := hd
      simp only [h21, h23] at hK ⊢
      go_simp
      apply hK
      · simp only [Act.put, zSa, zSz, zSs]
        exact rfl
      · exact CB.refl _ _
      · exact IsOut
    refine ⟨fun u W hb hd K hK => ?_, ?_⟩
    · simp only [Facts, nthR, Is, and_true] at hd
      obtain ⟨h21, h24⟩ := hd
      simp only [h21, h24] at hK ⊢
      have hc := (hM.below hb).psk
      rw [y4.out] at hc
      go_simp
      apply hK
      · simp only [Act.put, zSa, zSz, zSs]
        exact rfl
      · exact CB.refl _ _
      · exact IsOut
    refine ⟨fun u W hb hd K hK => ?_, ?_⟩
    · simp only [Facts, nthR, Is, and_true] at hd
      obtain ⟨h21, h25⟩ := hd
      simp only [h21, h25] at hK ⊢
      go_simp
      apply hK
      · simp only [Act.put, zSa, zSz, zSs]
        exact rfl
      · exact CB.refl _ _
      · exact IsOut
    refine ⟨fun u W hb hd K hK => ?_, ?_⟩
    · simp only [Facts, nthR, Is, and_true] at hd
      obtain ⟨h21, h26⟩ := hd
      simp only [h21, h26] at hK ⊢
      go_simp
      apply hK
      · simp only [Act.put, zSa, zSz, zSs]
        exact rfl
      · exact CB.refl _ _
      · exact IsOut
    refine ⟨fun u W hb hd K hK => ?_, ?_⟩
    · simp only [Facts, nthR, Is, and_true] at hd
      have h27 := hd
      clear hd
      simp only [h27] at hK ⊢
      go_simp
      apply hK
      · simp only [Act.put, zSa, zSz, zSs]
        exact rfl
      · exact CB.refl _ _
      · exact IsOut
    refine ⟨fun u W hb hd K hK => ?_, ?_⟩
    · simp only [Facts, nthR, Is, and_true] at hd
      obtain ⟨h27, h28⟩ := hd
      simp only [h27, h28] at hK ⊢
      go_simp
      apply hK
      · simp only [Act.put, zSa, zSz, zSs]
        exact rfl
      · exact CB.refl _ _
      · exact IsOut
    refine ⟨fun u W hb hd K hK => ?_, ?_⟩
    · simp only [Facts, nthR, Is, and_true] at hd
      obtain ⟨h27, h29⟩ := hd
      simp only [h27, h29] at hK ⊢
      go_simp
      apply hK
      · simp only [Act.put, zSa, zSz, zSs]
        exact rfl
      · exact CB.refl _ _
      · exact IsOut
    refine ⟨fun u W hb hd K hK => ?_, ?_⟩
    · simp only [Facts, nthR, Is, and_true] at hd
      obtain ⟨h27, h30⟩ := hd
      simp only [h27, h30] at hK ⊢
      obtain ⟨v, hc, hv⟩ := (hM.below hb).tic
      go_simp
      exact hK _ _ _ rfl (CB.refl _ _) hv
    refine ⟨fun u W hb hd K hK => ?_, ?_⟩
    · simp only [Facts, nthR, Is, and_true] at hd
      obtain ⟨h27, h31⟩ := hd
      simp only [h27] at hK ⊢
      go_simp
      refine (sized_e _ m.tic 1 1000 _ h31).mono ?_
      rintro e wy ⟨rfl, hby⟩
      rw [y5.out]
      exact hK _ _ _ rfl (CB.of hby hb.size) IsOut
    refine ⟨fun u W hb hd K hK => ?_, ?_⟩
    · simp only [Facts, nthR, Is, and_true] at hd
      obtain ⟨h27, h32⟩ := hd
      simp only [h27, h32] at hK ⊢
      go_simp
      apply hK
      · simp only [Act.put, zSa, zSz, zSs]
        exact rfl
      · exact CB.refl _ _
      · exact IsOut
    refine ⟨fun u W hb hd K hK => ?_, ?_⟩
    · simp only [Facts, nthR, Is, and_true] at hd
      have h33 := hd
      clear hd
      simp only [h33] at hK ⊢
      go_simp
      apply hK
      · simp only [Act.put, zSa, zSz, zSs]
        exact rfl
      · exact CB.refl _ _
      · exact IsOut
    refine ⟨fun u W hb hd K hK => ?_, ?_⟩
    · simp only [Facts, nthR, Is, and_true] at hd
      obtain ⟨h33, h34⟩ := hd
      simp only [h33, h34] at hK ⊢
      go_simp
      apply hK
      · simp only [Act.put, zSa, zSz, zSs]
        exact rfl
      · exact CB.refl _ _
      · exact IsOut
    refine ⟨fun u W hb hd K hK => ?_, ?_⟩
    · simp only [Facts, nthR, Is, and_true] at hd
      obtain ⟨h33, h35⟩ := hd
      simp only [h33, h35] at hK ⊢
      go_simp
      apply hK
      · simp only [Act.put, zSa, zSz, zSs]
        exact rfl
      · exact CB.refl _ _
      · exact IsOut
    refine ⟨fun u W hb hd K hK => ?_, ?_⟩
    · simp only [Facts, nthR, Is, and_true] at hd
      obtain ⟨h33, h36⟩ := hd
      simp only [h33, h36] at hK ⊢
      have hc := (hM.below hb).age
      go_simp
      apply hK
      · simp only [Act.put, zSa, zSz, zSs]
        exact rfl
      · exact CB.refl _ _
      · exact IsOut
    refine ⟨fun u W hb hd K hK => ?_, ?_⟩
    · simp only [Facts, nthR, Is, and_true] at hd
      obtain ⟨h33, h37⟩ := hd
      simp only [h33, h37] at hK ⊢
      go_simp
      refine (isNumber_e m.age _).mono ?_
      rintro e wy ⟨rfl, hby⟩
      rw [y6.out]
      exact hK _ _ _ rfl (CB.of hby hb.size) IsOut
    refine ⟨fun u W hb hd K hK => ?_, ?_⟩
    · simp only [Facts, nthR, Is, and_true] at hd
      obtain ⟨h27, h33, h38⟩ := hd
      simp only [h27, h33, h38] at hK ⊢
      go_simp
      apply hK
      · simp only [Act.put, zSa, zSz, zSs]
        exact rfl
      · exact CB.refl _ _
      · exact IsOut
    refine ⟨fun u W hb hd K hK => ?_, ?_⟩
    · simp only [Facts, nthR, Is, and_true] at hd
      obtain ⟨h21, h27, h39⟩ := hd
      simp only [h21, h27, h39] at hK ⊢
      go_simp
      apply hK
      · simp only [Act.put, zSa, zSz, zSs]
        exact rfl
      · exact CB.refl _ _
      · exact IsOut
    refine ⟨fun u W hb hd K hK => ?_, ?_⟩
    · simp only [Facts, nthR, Is, and_true] at hd
      obtain ⟨h21, h40⟩ := hd
      simp only [h21, h40] at hK ⊢
      go_simp
      apply hK
      · simp only [Act.put, zSa, zSz, zSs]
        exact rfl
      · exact CB.refl _ _
      · exact IsOut
    exact trivial
  · exact (.is (.is (.is (.cons (fun _ _ _ h hb => h.cb hb) (.is (.is (.is (.is (.is (.cons (fun _ _ _ h hb => h.cb hb) (.is (.is (.is (.is (.is (.is (.is (.is (.is (.is (.is (.is (.is (.is (.is (.is (.is (.is (.is (.is (.is (.cons (fun _ _ _ h hb => h.cb hb) (.is (.is (.is (.is (.is (.is (.is (.is (.is (.is .nil))))))))))))))))))))))))))))))))))))))))))
  intro u w1 hb hd
  simp only [List.drop_succ_cons, List.drop_zero]
  simp only [Facts, nthR, Is, and_true] at hd
  have h41 := hd
  clear hd
  simp only [h41]
  clear h41
  replace hM := hM.below hb
  replace hb0 := hb0.trans (hb.mono hb0.size)
  clear hb
  go_wp2
  refine bodyPost_ret (results_tmp Tryd.results35 _ _ _) rfl ?_
  exact ⟨rfl, hb0⟩
end Go.Proofs.YtagblbfbjemfhaaDoor
