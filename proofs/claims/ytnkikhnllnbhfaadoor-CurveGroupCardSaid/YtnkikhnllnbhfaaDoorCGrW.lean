/-
  CurveGroup's walk.
-/
import Derived.Test.YtnkikhnllnbhfaaDoorCl0
namespace Go.Proofs.YtnkikhnllnbhfaaDoor
open Go.RowKit
open CurveMath

theorem gone_of {X Y : List UInt8} (h : Hid (onB X Y = false)) : holdsB X Y = false := by
  have k := h.out
  unfold onB at k
  exact (Bool.or_eq_false_iff.1 k).2
set_option maxRecDepth 100000 in
set_option maxHeartbeats 4000000 in
theorem curveGroup_0 (A B D : List UInt8) (w : World) (hT : TabsC w) (hA : Hid (A.length = 32)) (hB : Hid (B.length = 32)) (hD : Hid (D.length = 32)) (hOn : Hid (onB A B = false)) : Calls Tryd.prog 6 #[.agg (A.map B8).toArray, .agg (B.map B8).toArray, .agg (D.map B8).toArray] w fun e w' => e = .returned (.bool true) ∧ Below w.heap.size w w' := by
  go_enter Tryd.func6, Tryd.ntmps6
  have hb0 : Below w.heap.size w w := Below.refl _ _
  obtain ⟨vA, hvA⟩ : ∃ s, Hid ((ofTo A 32).val = s) := ⟨_, Lib.hid rfl⟩
  obtain ⟨vB, hvB⟩ : ∃ s, Hid ((ofTo B 32).val = s) := ⟨_, Lib.hid rfl⟩
  obtain ⟨vD, hvD⟩ : ∃ s, Hid ((ofTo D 32).val = s) := ⟨_, Lib.hid rfl⟩
  go_upto_region 0 with (fail)
  refine wp_region_lit ?_
  refine wpList_box_blk rfl 22 (.tmp 0) rfl (A.map B8) rfl ?_
  intro g3 w1 hg bg3 hb
  have og3 := Lib.hid (show w.heap.size ≤ g3 from Nat.le_trans hb0.size (Nat.le_of_eq hg.symm))
  clear hg
  replace hb0 := hb0.trans (hb.mono hb0.size)
  clear hb
  have lg3 := bg3.lt
  try simp only [Act.put, List.setIfInBounds_toArray, List.set_cons_zero, List.set_cons_succ]
  refine wpList_box_blk rfl 22 (.tmp 1) rfl (B.map B8) rfl ?_
  intro g4 w2 hg bg4 hb
  have og4 := Lib.hid (show w.heap.size ≤ g4 ∧ g3 < g4 from ⟨Nat.le_trans hb0.size (Nat.le_of_eq hg.symm), Nat.lt_of_lt_of_le lg3 (Nat.le_of_eq hg.symm)⟩)
  clear hg
  replace bg3 := bg3.below hb lg3
  replace hb0 := hb0.trans (hb.mono hb0.size)
  replace lg3 := bg3.lt
  clear hb
  have lg4 := bg4.lt
  try simp only [Act.put, List.setIfInBounds_toArray, List.set_cons_zero, List.set_cons_succ]
  refine wpList_box_blk rfl 22 (.tmp 2) rfl (D.map B8) rfl ?_
  intro g5 w3 hg bg5 hb
  have og5 := Lib.hid (show w.heap.size ≤ g5 ∧ g3 < g5 ∧ g4 < g5 from ⟨Nat.le_trans hb0.size (Nat.le_of_eq hg.symm), Nat.lt_of_lt_of_le lg3 (Nat.le_of_eq hg.symm), Nat.lt_of_lt_of_le lg4 (Nat.le_of_eq hg.symm)⟩)
  clear hg
  replace bg3 := bg3.below hb lg3
  replace bg4 := bg4.below hb lg4
  replace hb0 := hb0.trans (hb.mono hb0.size)
  replace lg3 := bg3.lt
  replace lg4 := bg4.lt
  clear hb
  have lg5 := bg5.lt
  try simp only [Act.put, List.setIfInBounds_toArray, List.set_cons_zero, List.set_cons_succ]
  go_upto_region 1 with (fail)
  obtain ⟨p12, hp12⟩ : ∃ s : Pt, Hid (s = mulG (vA)) := ⟨_, Lib.hid rfl⟩
  obtain ⟨p14, hp14⟩ : ∃ s : Pt, Hid (s = mulG (vB)) := ⟨_, Lib.hid rfl⟩
  obtain ⟨p16, hp16⟩ : ∃ s : Pt, Hid (s = mulG (vD)) := ⟨_, Lib.hid rfl⟩
  apply wp_region_fresh (m := 9) (Z := []) (Fl := [false, false, false, false, false, false, true, true, true]) (D := [[], [0], [], [0, 1, 2], [], [0, 1, 2, 3, 4], [], [], [], [0, 1, 2, 3, 4, 5, 6, 7, 8], [0, 1, 2, 3, 4, 5, 6, 7, 8, 9], [0, 1, 2, 3, 4, 5, 6, 7, 8, 9, 10]]) (J := [[], [0], [], [2], [], [4], [], [], []]) (Je := [1, 3, 5, 6, 7, 8]) (Rs := [Is _, Is _, Is _, Is _, Is _, Is _, fun v V => ∃ g', v = .pointer (some ⟨g', 0, none⟩) ∧ w3.heap.size ≤ g' ∧ Blk V g' 24 (ptV none), fun v V => ∃ g', v = .pointer (some ⟨g', 0, none⟩) ∧ w3.heap.size ≤ g' ∧ Blk V g' 24 (ptV none), fun v V => ∃ g', v = .pointer (some ⟨g', 0, none⟩) ∧ w3.heap.size ≤ g' ∧ Blk V g' 24 (ptV none)])
  · kernel_rfl
  · kernel_rfl
  · kernel_rfl
  · kernel_rfl
  · kernel_rfl
  · kernel_rfl
  · kernel_rfl
  · kernel_rfl
  · exact fun h => absurd rfl h
  · intro u
    simp only [List.take_succ_cons, List.take_zero, List.map_cons, List.map_nil, fillU, List.setIfInBounds_toArray, List.set_cons_zero, List.set_cons_succ, Nat.reduceAdd]
    exact rfl
  · simp only [List.take_succ_cons, List.take_zero]
    refine ⟨fun u W hb hd K hK => ?_, ?_⟩
    · clear hd
      rw [if_pos (by rfl)]
      refine wp_load_mid 22 (.tmp 3) rfl g3 0 rfl (A.map B8) _ (rangeAt_of_blk (bg3.below hb lg3)) Tryd.underlying22 rfl (info40.trans (by rw [List.length_map, (hA).out])) ?_
      exact hK _ _ _ rfl (Below.refl _ _) IsOut
    refine ⟨fun u W hb hd K hK => ?_, ?_⟩
    · simp only [Facts, nthR, Is, and_true] at hd
      simp only [hd] at hK ⊢
      clear hd
      go_simp
      refine (OfE (hT.up hb0 hb) (hA) (hvA) hp12).mono ?_
      rintro e wy ⟨rfl, hby⟩
      exact hK _ _ _ rfl hby IsOut
    refine ⟨fun u W hb hd K hK => ?_, ?_⟩
    · clear hd
      rw [if_pos (by rfl)]
      refine wp_load_mid 22 (.tmp 4) rfl g4 0 rfl (B.map B8) _ (rangeAt_of_blk (bg4.below hb lg4)) Tryd.underlying22 rfl (info40.trans (by rw [List.length_map, (hB).out])) ?_
      exact hK _ _ _ rfl (Below.refl _ _) IsOut
    refine ⟨fun u W hb hd K hK => ?_, ?_⟩
    · simp only [Facts, nthR, Is, and_true] at hd
      simp only [hd] at hK ⊢
      clear hd
      go_simp
      refine (OfE (hT.up hb0 hb) (hB) (hvB) hp14).mono ?_
      rintro e wy ⟨rfl, hby⟩
      exact hK _ _ _ rfl hby IsOut
    refine ⟨fun u W hb hd K hK => ?_, ?_⟩
    · clear hd
      rw [if_pos (by rfl)]
      refine wp_load_mid 22 (.tmp 5) rfl g5 0 rfl (D.map B8) _ (rangeAt_of_blk (bg5.below hb lg5)) Tryd.underlying22 rfl (info40.trans (by rw [List.length_map, (hD).out])) ?_
      exact hK _ _ _ rfl (Below.refl _ _) IsOut
    refine ⟨fun u W hb hd K hK => ?_, ?_⟩
    · simp only [Facts, nthR, Is, and_true] at hd
      simp only [hd] at hK ⊢
      clear hd
      go_simp
      refine (OfE (hT.up hb0 hb) (hD) (hvD) hp16).mono ?_
      rintro e wy ⟨rfl, hby⟩
      exact hK _ _ _ rfl hby IsOut
    refine ⟨fun u W hb hd K hK => ?_, ?_⟩
    · clear hd
      go_simp
      apply hK
      · simp only [Act.put, List.setIfInBounds_toArray, List.set_cons_zero, List.set_cons_succ]
        exact rfl
      · exact (Below.refl _ _).alloc (Nat.le_refl _) _
      · exact ⟨_, rfl, hb.size, Blk.new_of _ _ _ _ rfl⟩
      · exact ⟨_, rfl, Nat.le_refl _, by simp⟩
    refine ⟨fun u W hb hd K hK => ?_, ?_⟩
    · clear hd
      go_simp
      apply hK
      · simp only [Act.put, List.setIfInBounds_toArray, List.set_cons_zero, List.set_cons_succ]
        exact rfl
      · exact (Below.refl _ _).alloc (Nat.le_refl _) _
      · exact ⟨_, rfl, hb.size, Blk.new_of _ _ _ _ rfl⟩
      · exact ⟨_, rfl, Nat.le_refl _, by simp⟩
    refine ⟨fun u W hb hd K hK => ?_, ?_⟩
    · clear hd
      go_simp
      apply hK
      · simp only [Act.put, List.setIfInBounds_toArray, List.set_cons_zero, List.set_cons_succ]
        exact rfl
      · exact (Below.refl _ _).alloc (Nat.le_refl _) _
      · exact ⟨_, rfl, hb.size, Blk.new_of _ _ _ _ rfl⟩
      · exact ⟨_, rfl, Nat.le_refl _, by simp⟩
    exact trivial
  · skip
    exact trivial
  · exact (.is (.is (.is (.is (.is (.is (.cons (fun v V V' ⟨g', h1, h2, h3⟩ hb => ⟨g', h1, h2, h3.below hb h3.lt⟩) (.cons (fun v V V' ⟨g', h1, h2, h3⟩ hb => ⟨g', h1, h2, h3.below hb h3.lt⟩) (.cons (fun v V V' ⟨g', h1, h2, h3⟩ hb => ⟨g', h1, h2, h3.below hb h3.lt⟩) .nil)))))))))
  · intro u w4 hb hd hne
    simp only [List.drop_succ_cons, List.drop_zero]
    simp only [Facts, nthR, Is, and_true] at hd
    obtain ⟨h1, h3, h5, ⟨g7, h6, hng7, bg7⟩, ⟨g8, h7, hng8, bg8⟩, ⟨g9, h8, hng9, bg9⟩⟩ := hd
    have og7 := Lib.hid (show w.heap.size ≤ g7 ∧ g3 < g7 ∧ g4 < g7 ∧ g5 < g7 from ⟨Nat.le_trans hb0.size hng7, Nat.lt_of_lt_of_le lg3 hng7, Nat.lt_of_lt_of_le lg4 hng7, Nat.lt_of_lt_of_le lg5 hng7⟩)
    have og8 := Lib.hid (show w.heap.size ≤ g8 ∧ g3 < g8 ∧ g4 < g8 ∧ g5 < g8 ∧ g7 ≠ g8 from ⟨Nat.le_trans hb0.size hng8, Nat.lt_of_lt_of_le lg3 hng8, Nat.lt_of_lt_of_le lg4 hng8, Nat.lt_of_lt_of_le lg5 hng8, (fun e => hne 6 7 rfl rfl (by decide) (by decide) (by decide) (by rw [h6, h7, e]))⟩)
    have og9 := Lib.hid (show w.heap.size ≤ g9 ∧ g3 < g9 ∧ g4 < g9 ∧ g5 < g9 ∧ g7 ≠ g9 ∧ g8 ≠ g9 from ⟨Nat.le_trans hb0.size hng9, Nat.lt_of_lt_of_le lg3 hng9, Nat.lt_of_lt_of_le lg4 hng9, Nat.lt_of_lt_of_le lg5 hng9, (fun e => hne 6 8 rfl rfl (by decide) (by decide) (by decide) (by rw [h6, h8, e])), (fun e => hne 7 8 rfl rfl (by decide) (by decide) (by decide) (by rw [h7, h8, e]))⟩)
    simp only [h1, h3, h5, h6, h7, h8]
    clear h1 h3 h5 h6 h7 h8 hne
    replace bg3 := bg3.below hb lg3
    replace bg4 := bg4.below hb lg4
    replace bg5 := bg5.below hb lg5
    replace hb0 := hb0.trans (hb.mono hb0.size)
    replace lg3 := bg3.lt
    replace lg4 := bg4.lt
    replace lg5 := bg5.lt
    clear hb
    have lg7 := bg7.lt
    clear hng7
    have lg8 := bg8.lt
    clear hng8
    have lg9 := bg9.lt
    clear hng9
    refine wpList_store_blk rfl 24 (.tmp 7) (.tmp 12) rfl rfl g7 (ptV p12) rfl rfl _ _ bg7 (infoPt.trans (by rw [ptV_length])) (by first | with_reducible rfl | rw [ptV_length, ptV_length] | rw [ptV_length]) (onePv _) ?_
    intro w5 bn hgs
    replace bg3 := bg3.grown hgs (fun e => Nat.ne_of_lt og7.out.2.1 (Option.some.inj e))
    replace bg4 := bg4.grown hgs (fun e => Nat.ne_of_lt og7.out.2.2.1 (Option.some.inj e))
    replace bg5 := bg5.grown hgs (fun e => Nat.ne_of_lt og7.out.2.2.2 (Option.some.inj e))
    replace bg8 := bg8.grown hgs (fun e => og8.out.2.2.2.2 (Option.some.inj e).symm)
    replace bg9 := bg9.grown hgs (fun e => og9.out.2.2.2.2.1 (Option.some.inj e).symm)
    replace hb0 := below_new hb0 hgs og7.out.1 hb0.size
    clear hgs bg7
    have bg7 := bn
    clear bn
    replace lg3 := bg3.lt
    replace lg4 := bg4.lt
    replace lg5 := bg5.lt
    replace lg7 := bg7.lt
    replace lg8 := bg8.lt
    replace lg9 := bg9.lt
    try simp only [Act.put]
    refine wpList_store_blk rfl 24 (.tmp 8) (.tmp 14) rfl rfl g8 (ptV p14) rfl rfl _ _ bg8 (infoPt.trans (by rw [ptV_length])) (by first | with_reducible rfl | rw [ptV_length, ptV_length] | rw [ptV_length]) (onePv _) ?_
    intro w6 bn hgs
    replace bg3 := bg3.grown hgs (fun e => Nat.ne_of_lt og8.out.2.1 (Option.some.inj e))
    replace bg4 := bg4.grown hgs (fun e => Nat.ne_of_lt og8.out.2.2.1 (Option.some.inj e))
    replace bg5 := bg5.grown hgs (fun e => Nat.ne_of_lt og8.out.2.2.2.1 (Option.some.inj e))
    replace bg7 := bg7.grown hgs (fun e => og8.out.2.2.2.2 (Option.some.inj e))
    replace bg9 := bg9.grown hgs (fun e => og9.out.2.2.2.2.2 (Option.some.inj e).symm)
    replace hb0 := below_new hb0 hgs og8.out.1 hb0.size
    clear hgs bg8
    have bg8 := bn
    clear bn
    replace lg3 := bg3.lt
    replace lg4 := bg4.lt
    replace lg5 := bg5.lt
    replace lg7 := bg7.lt
    replace lg8 := bg8.lt
    replace lg9 := bg9.lt
    try simp only [Act.put]
    refine wpList_store_blk rfl 24 (.tmp 9) (.tmp 16) rfl rfl g9 (ptV p16) rfl rfl _ _ bg9 (infoPt.trans (by rw [ptV_length])) (by first | with_reducible rfl | rw [ptV_length, ptV_length] | rw [ptV_length]) (onePv _) ?_
    intro w7 bn hgs
    replace bg3 := bg3.grown hgs (fun e => Nat.ne_of_lt og9.out.2.1 (Option.some.inj e))
    replace bg4 := bg4.grown hgs (fun e => Nat.ne_of_lt og9.out.2.2.1 (Option.some.inj e))
    replace bg5 := bg5.grown hgs (fun e => Nat.ne_of_lt og9.out.2.2.2.1 (Option.some.inj e))
    replace bg7 := bg7.grown hgs (fun e => og9.out.2.2.2.2.1 (Option.some.inj e))
    replace bg8 := bg8.grown hgs (fun e => og9.out.2.2.2.2.2 (Option.some.inj e))
    replace hb0 := below_new hb0 hgs og9.out.1 hb0.size
    clear hgs bg9
    have bg9 := bn
    clear bn
    replace lg3 := bg3.lt
    replace lg4 := bg4.lt
    replace lg5 := bg5.lt
    replace lg7 := bg7.lt
    replace lg8 := bg8.lt
    replace lg9 := bg9.lt
    try simp only [Act.put]
    go_upto_region 2 with (fail)
    apply wp_plain_once (m := 3) (J := [[], [], [0, 1]]) (Je := [2]) (Rs := [Is _, Is _, Is _])
    · kernel_rfl
    · kernel_rfl
    · intro u
      simp only [List.take_succ_cons, List.take_zero, List.map_cons, List.map_nil, fillU, List.setIfInBounds_toArray, List.set_cons_zero, List.set_cons_succ, Nat.reduceAdd]
      exact rfl
    · simp only [List.take_succ_cons, List.take_zero]
      refine ⟨fun u W hb hd K hK => ?_, ?_⟩
      · clear hd
        rw [if_pos (by rfl)]
        refine wp_load_mid 22 (.tmp 3) rfl g3 0 rfl (A.map B8) _ (rangeAt_of_blk (bg3.below hb lg3)) Tryd.underlying22 rfl (info40.trans (by rw [List.length_map, (hA).out])) ?_
        exact hK _ _ _ rfl (Below.refl _ _) IsOut
      refine ⟨fun u W hb hd K hK => ?_, ?_⟩
      · clear hd
        rw [if_pos (by rfl)]
        refine wp_load_mid 22 (.tmp 4) rfl g4 0 rfl (B.map B8) _ (rangeAt_of_blk (bg4.below hb lg4)) Tryd.underlying22 rfl (info40.trans (by rw [List.length_map, (hB).out])) ?_
        exact hK _ _ _ rfl (Below.refl _ _) IsOut
      refine ⟨fun u W hb hd K hK => ?_, ?_⟩
      · simp only [Facts, nthR, Is, and_true] at hd
        simp only [hd] at hK ⊢
        clear hd
        rw [if_pos (by rfl)]
        refine wp_builtV 24 _ rfl [(0, .agg (A.map B8).toArray), (1, .agg (B.map B8).toArray)] rfl (ptC A B).toArray (builtPtC (hA) (hB)) ?_
        exact hK _ _ _ rfl (Below.refl _ _) IsOut
      exact trivial
    · exact (.is (.is (.is .nil)))
    · intro u w8 hb hd
      simp only [List.drop_succ_cons, List.drop_zero]
      simp only [Facts, nthR, Is, and_true] at hd
      have h2 := hd
      clear hd
      simp only [h2]
      clear h2
      replace bg3 := bg3.below hb lg3
      replace bg4 := bg4.below hb lg4
      replace bg5 := bg5.below hb lg5
      replace bg7 := bg7.below hb lg7
      replace bg8 := bg8.below hb lg8
      replace bg9 := bg9.below hb lg9
      replace hb0 := hb0.trans (hb.mono hb0.size)
      replace lg3 := bg3.lt
      replace lg4 := bg4.lt
      replace lg5 := bg5.lt
      replace lg7 := bg7.lt
      replace lg8 := bg8.lt
      replace lg9 := bg9.lt
      clear hb
      refine wpList_new_blk rfl 24 rfl (ptV none) zeroPt ?_
      intro g10 w9 hg bg10 hb
      have og10 := Lib.hid (show w.heap.size ≤ g10 ∧ g3 < g10 ∧ g4 < g10 ∧ g5 < g10 ∧ g7 < g10 ∧ g8 < g10 ∧ g9 < g10 from ⟨Nat.le_trans hb0.size (Nat.le_of_eq hg.symm), Nat.lt_of_lt_of_le lg3 (Nat.le_of_eq hg.symm), Nat.lt_of_lt_of_le lg4 (Nat.le_of_eq hg.symm), Nat.lt_of_lt_of_le lg5 (Nat.le_of_eq hg.symm), Nat.lt_of_lt_of_le lg7 (Nat.le_of_eq hg.symm), Nat.lt_of_lt_of_le lg8 (Nat.le_of_eq hg.symm), Nat.lt_of_lt_of_le lg9 (Nat.le_of_eq hg.symm)⟩)
      clear hg
      replace bg3 := bg3.below hb lg3
      replace bg4 := bg4.below hb lg4
      replace bg5 := bg5.below hb lg5
      replace bg7 := bg7.below hb lg7
      replace bg8 := bg8.below hb lg8
      replace bg9 := bg9.below hb lg9
      replace hb0 := hb0.trans (hb.mono hb0.size)
      replace lg3 := bg3.lt
      replace lg4 := bg4.lt
      replace lg5 := bg5.lt
      replace lg7 := bg7.lt
      replace lg8 := bg8.lt
      replace lg9 := bg9.lt
      clear hb
      have lg10 := bg10.lt
      try simp only [Act.put, List.setIfInBounds_toArray, List.set_cons_zero, List.set_cons_succ]
      refine wpList_store_blk rfl 24 (.tmp 10) (.tmp 19) rfl rfl g10 (ptC A B) rfl rfl _ _ bg10 (infoPt.trans (by rw [ptC_length (hA).out (hB).out])) (by first | with_reducible rfl | rw [ptV_length, ptC_length (hA).out (hB).out] | rw [ptV_length]) (onePt _ _) ?_
      intro w10 bn hgs
      replace bg3 := bg3.grown hgs (fun e => Nat.ne_of_lt og10.out.2.1 (Option.some.inj e))
      replace bg4 := bg4.grown hgs (fun e => Nat.ne_of_lt og10.out.2.2.1 (Option.some.inj e))
      replace bg5 := bg5.grown hgs (fun e => Nat.ne_of_lt og10.out.2.2.2.1 (Option.some.inj e))
      replace bg7 := bg7.grown hgs (fun e => Nat.ne_of_lt og10.out.2.2.2.2.1 (Option.some.inj e))
      replace bg8 := bg8.grown hgs (fun e => Nat.ne_of_lt og10.out.2.2.2.2.2.1 (Option.some.inj e))
      replace bg9 := bg9.grown hgs (fun e => Nat.ne_of_lt og10.out.2.2.2.2.2.2 (Option.some.inj e))
      replace hb0 := below_new hb0 hgs og10.out.1 hb0.size
      clear hgs bg10
      have bg10 := bn
      clear bn
      replace lg3 := bg3.lt
      replace lg4 := bg4.lt
      replace lg5 := bg5.lt
      replace lg7 := bg7.lt
      replace lg8 := bg8.lt
      replace lg9 := bg9.lt
      replace lg10 := bg10.lt
      try simp only [Act.put]
      go_upto_region 3 with (fail)
      apply wp_plain_once (m := 2) (J := [[], [0]]) (Je := [1]) (Rs := [Is _, Is _])
      · kernel_rfl
      · kernel_rfl
      · intro u
        simp only [List.take_succ_cons, List.take_zero, List.map_cons, List.map_nil, fillU, List.setIfInBounds_toArray, List.set_cons_zero, List.set_cons_succ, Nat.reduceAdd]
        exact rfl
      · simp only [List.take_succ_cons, List.take_zero]
        refine ⟨fun u W hb hd K hK => ?_, ?_⟩
        · clear hd
          rw [if_pos (by rfl)]
          refine wp_load_mid 24 (.tmp 10) rfl g10 0 rfl (ptC A B) _ (rangeAt_of_blk (bg10.below hb lg10)) Tryd.underlying24 rfl (infoPt.trans (by rw [ptC_length (hA).out (hB).out])) ?_
          exact hK _ _ _ rfl (Below.refl _ _) IsOut
        refine ⟨fun u W hb hd K hK => ?_, ?_⟩
        · simp only [Facts, nthR, Is, and_true] at hd
          simp only [hd] at hK ⊢
          clear hd
          go_simp
          refine (OnC (hT.up hb0 hb) (hA) (hB) hOn).mono ?_
          rintro e wy ⟨rfl, hby⟩
          exact hK _ _ _ rfl hby IsOut
        exact trivial
      · exact (.is (.is .nil))
      · intro u w11 hb hd
        simp only [List.drop_succ_cons, List.drop_zero]
        simp only [Facts, nthR, Is, and_true] at hd
        have h1 := hd
        clear hd
        simp only [h1]
        clear h1
        replace bg3 := bg3.below hb lg3
        replace bg4 := bg4.below hb lg4
        replace bg5 := bg5.below hb lg5
        replace bg7 := bg7.below hb lg7
        replace bg8 := bg8.below hb lg8
        replace bg9 := bg9.below hb lg9
        replace bg10 := bg10.below hb lg10
        replace hb0 := hb0.trans (hb.mono hb0.size)
        replace lg3 := bg3.lt
        replace lg4 := bg4.lt
        replace lg5 := bg5.lt
        replace lg7 := bg7.lt
        replace lg8 := bg8.lt
        replace lg9 := bg9.lt
        replace lg10 := bg10.lt
        clear hb
        go_upto_region 5 with (fail)
        obtain ⟨p27, hp27⟩ : ∃ s : Pt, Hid (s = mulG (vA + vB)) := ⟨_, Lib.hid rfl⟩
        obtain ⟨p29, hp29⟩ : ∃ s : Pt, Hid (s = mulG ((vA + vB) + vD)) := ⟨_, Lib.hid rfl⟩
        obtain ⟨p33, hp33⟩ : ∃ s : Pt, Hid (s = mulG (vB + vD)) := ⟨_, Lib.hid rfl⟩
        obtain ⟨p34, hp34⟩ : ∃ s : Pt, Hid (s = mulG (vA + (vB + vD))) := ⟨_, Lib.hid rfl⟩
        obtain ⟨p40, hp40⟩ : ∃ s : Pt, Hid (s = mulG (vA + vB)) := ⟨_, Lib.hid rfl⟩
        obtain ⟨p43, hp43⟩ : ∃ s : Pt, Hid (s = mulG (vB + vA)) := ⟨_, Lib.hid rfl⟩
        obtain ⟨p49, hp49⟩ : ∃ s : Pt, Hid (s = mulG (vA + 0)) := ⟨_, Lib.hid rfl⟩
        obtain ⟨p56, hp56⟩ : ∃ s : Pt, Hid (s = mulG (0 + vA)) := ⟨_, Lib.hid rfl⟩
        obtain ⟨p63, hp63⟩ : ∃ s : Pt, Hid (s = mulG (vA * 0)) := ⟨_, Lib.hid rfl⟩
        have E12 := Lib.hid (show p29 = p34 by rw [hp29.out, hp34.out, Nat.add_assoc])
        have E21 := Lib.hid (show p40 = p43 by rw [hp40.out, hp43.out, Nat.add_comm])
        have E28 := Lib.hid (show p49 = p12 by rw [hp49.out, hp12.out, Nat.add_zero])
        have E35 := Lib.hid (show p56 = p12 by rw [hp56.out, hp12.out, Nat.zero_add])
        have E42 := Lib.hid (show p63 = none by rw [hp63.out]; rfl)
        apply wp_region_once_tail (m := 44) (Z := []) (D := [[], [0], [0, 1], [0, 1], [0, 1, 2, 3], [0, 1], [0, 1, 2, 3, 4, 5], [0, 1], [0, 1], [0, 1], [0, 1, 2, 3, 4, 5, 6, 8, 9], [0, 1, 2, 3, 4, 5, 6, 7, 8, 9, 10], [0, 1, 2, 3, 4, 5, 6, 7, 8, 9, 10, 11], [0, 1, 2, 3, 4, 5, 6, 7, 8, 9, 10, 11, 12], [0, 1, 2, 3, 4, 5, 6, 7, 8, 9, 10, 11, 12, 13], [0, 1, 2, 3, 4, 5, 6, 7, 8, 9, 10, 11, 12, 13, 14], [0, 1, 2, 3, 4, 5, 6, 7, 8, 9, 10, 11, 12, 13, 14], [0, 1, 2, 3, 4, 5, 6, 7, 8, 9, 10, 11, 12, 13, 14, 15, 16], [0, 1, 2, 3, 4, 5, 6, 7, 8, 9, 10, 11, 12, 13, 14], [0, 1, 2, 3, 4, 5, 6, 7, 8, 9, 10, 11, 12, 13, 14], [0, 1, 2, 3, 4, 5, 6, 7, 8, 9, 10, 11, 12, 13, 14, 15, 16, 17, 18, 19], [0, 1, 2, 3, 4, 5, 6, 7, 8, 9, 10, 11, 12, 13, 14, 15, 16, 17, 18, 19, 20], [0, 1, 2, 3, 4, 5, 6, 7, 8, 9, 10, 11, 12, 13, 14, 15, 16, 17, 18, 19, 20, 21], [0, 1, 2, 3, 4, 5, 6, 7, 8, 9, 10, 11, 12, 13, 14, 15, 16, 17, 18, 19, 20, 21, 22], [0, 1, 2, 3, 4, 5, 6, 7, 8, 9, 10, 11, 12, 13, 14, 15, 16, 17, 18, 19, 20, 21, 22, 23], [0, 1, 2, 3, 4, 5, 6, 7, 8, 9, 10, 11, 12, 13, 14, 15, 16, 17, 18, 19, 20, 21, 22, 23], [0, 1, 2, 3, 4, 5, 6, 7, 8, 9, 10, 11, 12, 13, 14, 15, 16, 17, 18, 19, 20, 21, 22, 23, 24, 25], [0, 1, 2, 3, 4, 5, 6, 7, 8, 9, 10, 11, 12, 13, 14, 15, 16, 17, 18, 19, 20, 21, 22, 23], [0, 1, 2, 3, 4, 5, 6, 7, 8, 9, 10, 11, 12, 13, 14, 15, 16, 17, 18, 19, 20, 21, 22, 23, 24, 25, 26, 27], [0, 1, 2, 3, 4, 5, 6, 7, 8, 9, 10, 11, 12, 13, 14, 15, 16, 17, 18, 19, 20, 21, 22, 23, 24, 25, 26, 27, 28], [0, 1, 2, 3, 4, 5, 6, 7, 8, 9, 10, 11, 12, 13, 14, 15, 16, 17, 18, 19, 20, 21, 22, 23, 24, 25, 26, 27, 28, 29], [0, 1, 2, 3, 4, 5, 6, 7, 8, 9, 10, 11, 12, 13, 14, 15, 16, 17, 18, 19, 20, 21, 22, 23, 24, 25, 26, 27, 28, 29, 30], [0, 1, 2, 3, 4, 5, 6, 7, 8, 9, 10, 11, 12, 13, 14, 15, 16, 17, 18, 19, 20, 21, 22, 23, 24, 25, 26, 27, 28, 29, 30], [0, 1, 2, 3, 4, 5, 6, 7, 8, 9, 10, 11, 12, 13, 14, 15, 16, 17, 18, 19, 20, 21, 22, 23, 24, 25, 26, 27, 28, 29, 30, 31, 32], [0, 1, 2, 3, 4, 5, 6, 7, 8, 9, 10, 11, 12, 13, 14, 15, 16, 17, 18, 19, 20, 21, 22, 23, 24, 25, 26, 27, 28, 29, 30], [0, 1, 2, 3, 4, 5, 6, 7, 8, 9, 10, 11, 12, 13, 14, 15, 16, 17, 18, 19, 20, 21, 22, 23, 24, 25, 26, 27, 28, 29, 30, 31, 32, 33, 34], [0, 1, 2, 3, 4, 5, 6, 7, 8, 9, 10, 11, 12, 13, 14, 15, 16, 17, 18, 19, 20, 21, 22, 23, 24, 25, 26, 27, 28, 29, 30, 31, 32, 33, 34, 35], [0, 1, 2, 3, 4, 5, 6, 7, 8, 9, 10, 11, 12, 13, 14, 15, 16, 17, 18, 19, 20, 21, 22, 23, 24, 25, 26, 27, 28, 29, 30, 31, 32, 33, 34, 35, 36], [0, 1, 2, 3, 4, 5, 6, 7, 8, 9, 10, 11, 12, 13, 14, 15, 16, 17, 18, 19, 20, 21, 22, 23, 24, 25, 26, 27, 28, 29, 30, 31, 32, 33, 34, 35, 36, 37], [0, 1, 2, 3, 4, 5, 6, 7, 8, 9, 10, 11, 12, 13, 14, 15, 16, 17, 18, 19, 20, 21, 22, 23, 24, 25, 26, 27, 28, 29, 30, 31, 32, 33, 34, 35, 36, 37], [0, 1, 2, 3, 4, 5, 6, 7, 8, 9, 10, 11, 12, 13, 14, 15, 16, 17, 18, 19, 20, 21, 22, 23, 24, 25, 26, 27, 28, 29, 30, 31, 32, 33, 34, 35, 36, 37, 38, 39], [0, 1, 2, 3, 4, 5, 6, 7, 8, 9, 10, 11, 12, 13, 14, 15, 16, 17, 18, 19, 20, 21, 22, 23, 24, 25, 26, 27, 28, 29, 30, 31, 32, 33, 34, 35, 36, 37], [0, 1, 2, 3, 4, 5, 6, 7, 8, 9, 10, 11, 12, 13, 14, 15, 16, 17, 18, 19, 20, 21, 22, 23, 24, 25, 26, 27, 28, 29, 30, 31, 32, 33, 34, 35, 36, 37, 38, 39, 40, 41], [0, 1, 2, 3, 4, 5, 6, 7, 8, 9, 10, 11, 12, 13, 14, 15, 16, 17, 18, 19, 20, 21, 22, 23, 24, 25, 26, 27, 28, 29, 30, 31, 32, 33, 34, 35, 36, 37, 38, 39, 40, 41, 42], [0, 1, 2, 3, 4, 5, 6, 7, 8, 9, 10, 11, 12, 13, 14, 15, 16, 17, 18, 19, 20, 21, 22, 23, 24, 25, 26, 27, 28, 29, 30, 31, 32, 33, 34, 35, 36, 37, 38, 39, 40, 41, 42, 43]]) (J := [[], [0], [1], [1], [1, 2, 3], [1], [1, 4, 5], [1], [1], [1], [1, 8, 9], [1, 7, 10], [1, 6, 11], [1, 12], [13], [14], [14], [14, 15, 16], [14], [14], [14, 18, 19], [14, 17, 20], [14, 21], [22], [23], [23], [23, 24, 25], [23], [23, 26, 27], [23, 28], [29], [30], [30], [30, 31, 32], [30], [30, 33, 34], [30, 35], [36], [37], [37], [37, 38, 39], [37], [37, 40, 41], [37, 42]]) (Je := [43]) (Rs := [Is _, Is _, Is _, Is _, Is _, Is _, Is _, Is _, Is _, Is _, Is _, Is _, Is _, Is _, Is _, Is _, Is _, Is _, Is _, Is _, Is _, Is _, Is _, Is _, Is _, Is _, Is _, Is _, Is _, Is _, Is _, Is _, Is _, Is _, Is _, Is _, Is _, Is _, Is _, Is _, Is _, Is _, Is _, Is _])
        · kernel_rfl
        · kernel_rfl
        · kernel_rfl
        · kernel_rfl
        · kernel_rfl
        · kernel_rfl
        · kernel_rfl
        · exact fun h => absurd rfl h
        · intro u
          simp only [List.take_succ_cons, List.take_zero, List.map_cons, List.map_nil, fillU, List.setIfInBounds_toArray, List.set_cons_zero, List.set_cons_succ, Nat.reduceAdd]
          exact rfl
        · simp only [List.take_succ_cons, List.take_zero]
          refine ⟨fun u W hb hd K hK => ?_, ?_⟩
          · clear hd
            go_simp
            refine (CurvesE (hT.up hb0 hb)).mono ?_
            rintro e wy ⟨rfl, hby⟩
            exact hK _ _ _ rfl hby IsOut
          refine ⟨fun u W hb hd K hK => ?_, ?_⟩
          · simp only [Facts, nthR, Is, and_true] at hd
            simp only [hd] at hK ⊢
            clear hd
            go_simp
            apply hK
            · simp only [Act.put, List.setIfInBounds_toArray, List.set_cons_zero, List.set_cons_succ]
              exact rfl
            · exact Below.refl _ _
            · exact IsOut
          refine ⟨fun u W hb hd K hK => ?_, ?_⟩
          · simp only [Facts, nthR, Is, and_true] at hd
            simp only [hd] at hK ⊢
            clear hd
            rw [if_pos (by rfl)]
            refine wp_load_mid 24 (.tmp 7) rfl g7 0 rfl (ptV p12) _ (rangeAt_of_blk (bg7.below hb lg7)) Tryd.underlying24 rfl (infoPt.trans (by rw [ptV_length])) ?_
            exact hK _ _ _ rfl (Below.refl _ _) IsOut
          refine ⟨fun u W hb hd K hK => ?_, ?_⟩
          · simp only [Facts, nthR, Is, and_true] at hd
            simp only [hd] at hK ⊢
            clear hd
            rw [if_pos (by rfl)]
            refine wp_load_mid 24 (.tmp 8) rfl g8 0 rfl (ptV p14) _ (rangeAt_of_blk (bg8.below hb lg8)) Tryd.underlying24 rfl (infoPt.trans (by rw [ptV_length])) ?_
            exact hK _ _ _ rfl (Below.refl _ _) IsOut
          refine ⟨fun u W hb hd K hK => ?_, ?_⟩
          · simp only [Facts, nthR, Is, and_true] at hd
            simp only [hd] at hK ⊢
            clear hd
            go_simp
            refine (AddP (hT.up hb0 hb) (hp12) (hp14) hp27).mono ?_
            rintro e wy ⟨rfl, hby⟩
            exact hK _ _ _ rfl hby IsOut
          refine ⟨fun u W hb hd K hK => ?_, ?_⟩
          · simp only [Facts, nthR, Is, and_true] at hd
            simp only [hd] at hK ⊢
            clear hd
            rw [if_pos (by rfl)]
            refine wp_load_mid 24 (.tmp 9) rfl g9 0 rfl (ptV p16) _ (rangeAt_of_blk (bg9.below hb lg9)) Tryd.underlying24 rfl (infoPt.trans (by rw [ptV_length])) ?_
            exact hK _ _ _ rfl (Below.refl _ _) IsOut
          refine ⟨fun u W hb hd K hK => ?_, ?_⟩
          · simp only [Facts, nthR, Is, and_true] at hd
            simp only [hd] at hK ⊢
            clear hd
            go_simp
            refine (AddP (hT.up hb0 hb) (hp27) (hp16) hp29).mono ?_
            rintro e wy ⟨rfl, hby⟩
            exact hK _ _ _ rfl hby IsOut
          refine ⟨fun u W hb hd K hK => ?_, ?_⟩
          · simp only [Facts, nthR, Is, and_true] at hd
            simp only [hd] at hK ⊢
            clear hd
            rw [if_pos (by rfl)]
            refine wp_load_mid 24 (.tmp 7) rfl g7 0 rfl (ptV p12) _ (rangeAt_of_blk (bg7.below hb lg7)) Tryd.underlying24 rfl (infoPt.trans (by rw [ptV_length])) ?_
            exact hK _ _ _ rfl (Below.refl _ _) IsOut
          refine ⟨fun u W hb hd K hK => ?_, ?_⟩
          · simp only [Facts, nthR, Is, and_true] at hd
            simp only [hd] at hK ⊢
            clear hd
            rw [if_pos (by rfl)]
            refine wp_load_mid 24 (.tmp 8) rfl g8 0 rfl (ptV p14) _ (rangeAt_of_blk (bg8.below hb lg8)) Tryd.underlying24 rfl (infoPt.trans (by rw [ptV_length])) ?_
            exact hK _ _ _ rfl (Below.refl _ _) IsOut
          refine ⟨fun u W hb hd K hK => ?_, ?_⟩
          · simp only [Facts, nthR, Is, and_true] at hd
            simp only [hd] at hK ⊢
            clear hd
            rw [if_pos (by rfl)]
            refine wp_load_mid 24 (.tmp 9) rfl g9 0 rfl (ptV p16) _ (rangeAt_of_blk (bg9.below hb lg9)) Tryd.underlying24 rfl (infoPt.trans (by rw [ptV_length])) ?_
            exact hK _ _ _ rfl (Below.refl _ _) IsOut
          refine ⟨fun u W hb hd K hK => ?_, ?_⟩
          · simp only [Facts, nthR, Is, and_true] at hd
            simp only [hd] at hK ⊢
            clear hd
            go_simp
            refine (AddP (hT.up hb0 hb) (hp14) (hp16) hp33).mono ?_
            rintro e wy ⟨rfl, hby⟩
            exact hK _ _ _ rfl hby IsOut
          refine ⟨fun u W hb hd K hK => ?_, ?_⟩
          · simp only [Facts, nthR, Is, and_true] at hd
            simp only [hd] at hK ⊢
            clear hd
            go_simp
            refine (AddP (hT.up hb0 hb) (hp12) (hp33) hp34).mono ?_
            rintro e wy ⟨rfl, hby⟩
            exact hK _ _ _ rfl hby IsOut
          refine ⟨fun u W hb hd K hK => ?_, ?_⟩
          · simp only [Facts, nthR, Is, and_true] at hd
            simp only [hd] at hK ⊢
            clear hd
            rw [if_pos (by rfl)]
            refine wp_eqlA rfl rfl rfl guardPt (show (Op.equalIn 10000 24 (.agg (ptV p29).toArray) (.agg (ptV p34).toArray)).run Tryd.prog W = .ok true W from EqP (on_of (hp29)) (on_of (hp34)) (Lib.hid (decide_eq_true (E12.out))) W) ?_
            exact hK _ _ (.bool true) rfl (Below.refl _ _) IsOut
          refine ⟨fun u W hb hd K hK => ?_, ?_⟩
          · simp only [Facts, nthR, Is, and_true] at hd
            simp only [hd] at hK ⊢
            clear hd
            go_simp
            apply hK
            · simp only [Act.put, List.setIfInBounds_toArray, List.set_cons_zero, List.set_cons_succ]
              exact rfl
            · exact Below.refl _ _
            · exact IsOut
          refine ⟨fun u W hb hd K hK => ?_, ?_⟩
          · simp only [Facts, nthR, Is, and_true] at hd
            simp only [hd] at hK ⊢
            clear hd
            go_simp
            apply hK
            · simp only [Act.put, List.setIfInBounds_toArray, List.set_cons_zero, List.set_cons_succ]
              exact rfl
            · exact Below.refl _ _
            · exact IsOut
          refine ⟨fun u W hb hd K hK => ?_, ?_⟩
          · simp only [Facts, nthR, Is, and_true] at hd
            simp only [hd] at hK ⊢
            clear hd
            rw [if_pos (by rfl)]
            refine wp_load_mid 24 (.tmp 7) rfl g7 0 rfl (ptV p12) _ (rangeAt_of_blk (bg7.below hb lg7)) Tryd.underlying24 rfl (infoPt.trans (by rw [ptV_length])) ?_
            exact hK _ _ _ rfl (Below.refl _ _) IsOut
          refine ⟨fun u W hb hd K hK => ?_, ?_⟩
          · simp only [Facts, nthR, Is, and_true] at hd
            simp only [hd] at hK ⊢
            clear hd
            rw [if_pos (by rfl)]
            refine wp_load_mid 24 (.tmp 8) rfl g8 0 rfl (ptV p14) _ (rangeAt_of_blk (bg8.below hb lg8)) Tryd.underlying24 rfl (infoPt.trans (by rw [ptV_length])) ?_
            exact hK _ _ _ rfl (Below.refl _ _) IsOut
          refine ⟨fun u W hb hd K hK => ?_, ?_⟩
          · simp only [Facts, nthR, Is, and_true] at hd
            simp only [hd] at hK ⊢
            clear hd
            go_simp
            refine (AddP (hT.up hb0 hb) (hp12) (hp14) hp40).mono ?_
            rintro e wy ⟨rfl, hby⟩
            exact hK _ _ _ rfl hby IsOut
          refine ⟨fun u W hb hd K hK => ?_, ?_⟩
          · simp only [Facts, nthR, Is, and_true] at hd
            simp only [hd] at hK ⊢
            clear hd
            rw [if_pos (by rfl)]
            refine wp_load_mid 24 (.tmp 8) rfl g8 0 rfl (ptV p14) _ (rangeAt_of_blk (bg8.below hb lg8)) Tryd.underlying24 rfl (infoPt.trans (by rw [ptV_length])) ?_
            exact hK _ _ _ rfl (Below.refl _ _) IsOut
          refine ⟨fun u W hb hd K hK => ?_, ?_⟩
          · simp only [Facts, nthR, Is, and_true] at hd
            simp only [hd] at hK ⊢
            clear hd
            rw [if_pos (by rfl)]
            refine wp_load_mid 24 (.tmp 7) rfl g7 0 rfl (ptV p12) _ (rangeAt_of_blk (bg7.below hb lg7)) Tryd.underlying24 rfl (infoPt.trans (by rw [ptV_length])) ?_
            exact hK _ _ _ rfl (Below.refl _ _) IsOut
          refine ⟨fun u W hb hd K hK => ?_, ?_⟩
          · simp only [Facts, nthR, Is, and_true] at hd
            simp only [hd] at hK ⊢
            clear hd
            go_simp
            refine (AddP (hT.up hb0 hb) (hp14) (hp12) hp43).mono ?_
            rintro e wy ⟨rfl, hby⟩
            exact hK _ _ _ rfl hby IsOut
          refine ⟨fun u W hb hd K hK => ?_, ?_⟩
          · simp only [Facts, nthR, Is, and_true] at hd
            simp only [hd] at hK ⊢
            clear hd
            rw [if_pos (by rfl)]
            refine wp_eqlA rfl rfl rfl guardPt (show (Op.equalIn 10000 24 (.agg (ptV p40).toArray) (.agg (ptV p43).toArray)).run Tryd.prog W = .ok true W from EqP (on_of (hp40)) (on_of (hp43)) (Lib.hid (decide_eq_true (E21.out))) W) ?_
            exact hK _ _ (.bool true) rfl (Below.refl _ _) IsOut
          refine ⟨fun u W hb hd K hK => ?_, ?_⟩
          · simp only [Facts, nthR, Is, and_true] at hd
            simp only [hd] at hK ⊢
            clear hd
            go_simp
            apply hK
            · simp only [Act.put, List.setIfInBounds_toArray, List.set_cons_zero, List.set_cons_succ]
              exact rfl
            · exact Below.refl _ _
            · exact IsOut
          refine ⟨fun u W hb hd K hK => ?_, ?_⟩
          · simp only [Facts, nthR, Is, and_true] at hd
            simp only [hd] at hK ⊢
            clear hd
            go_simp
            apply hK
            · simp only [Act.put, List.setIfInBounds_toArray, List.set_cons_zero, List.set_cons_succ]
              exact rfl
            · exact Below.refl _ _
            · exact IsOut
          refine ⟨fun u W hb hd K hK => ?_, ?_⟩
          · simp only [Facts, nthR, Is, and_true] at hd
            simp only [hd] at hK ⊢
            clear hd
            rw [if_pos (by rfl)]
            refine wp_load_mid 24 (.tmp 7) rfl g7 0 rfl (ptV p12) _ (rangeAt_of_blk (bg7.below hb lg7)) Tryd.underlying24 rfl (infoPt.trans (by rw [ptV_length])) ?_
            exact hK _ _ _ rfl (Below.refl _ _) IsOut
          refine ⟨fun u W hb hd K hK => ?_, ?_⟩
          · simp only [Facts, nthR, Is, and_true] at hd
            simp only [hd] at hK ⊢
            clear hd
            rw [if_pos (by rfl)]
            refine wp_builtV 24 _ rfl [] rfl (ptV none).toArray builtZ ?_
            exact hK _ _ _ rfl (Below.refl _ _) IsOut
          refine ⟨fun u W hb hd K hK => ?_, ?_⟩
          · simp only [Facts, nthR, Is, and_true] at hd
            simp only [hd] at hK ⊢
            clear hd
            go_simp
            refine (AddP (hT.up hb0 hb) (hp12) ((Lib.hid rfl : Hid ((none : Pt) = mulG 0))) hp49).mono ?_
            rintro e wy ⟨rfl, hby⟩
            exact hK _ _ _ rfl hby IsOut
          refine ⟨fun u W hb hd K hK => ?_, ?_⟩
          · simp only [Facts, nthR, Is, and_true] at hd
            simp only [hd] at hK ⊢
            clear hd
            rw [if_pos (by rfl)]
            refine wp_load_mid 24 (.tmp 7) rfl g7 0 rfl (ptV p12) _ (rangeAt_of_blk (bg7.below hb lg7)) Tryd.underlying24 rfl (infoPt.trans (by rw [ptV_length])) ?_
            exact hK _ _ _ rfl (Below.refl _ _) IsOut
          refine ⟨fun u W hb hd K hK => ?_, ?_⟩
          · simp only [Facts, nthR, Is, and_true] at hd
            simp only [hd] at hK ⊢
            clear hd
            rw [if_pos (by rfl)]
            refine wp_eqlA rfl rfl rfl guardPt (show (Op.equalIn 10000 24 (.agg (ptV p49).toArray) (.agg (ptV p12).toArray)).run Tryd.prog W = .ok true W from EqP (on_of (hp49)) (on_of (hp12)) (Lib.hid (decide_eq_true (E28.out))) W) ?_
            exact hK _ _ (.bool true) rfl (Below.refl _ _) IsOut
          refine ⟨fun u W hb hd K hK => ?_, ?_⟩
          · simp only [Facts, nthR, Is, and_true] at hd
            simp only [hd] at hK ⊢
            clear hd
            go_simp
            apply hK
            · simp only [Act.put, List.setIfInBounds_toArray, List.set_cons_zero, List.set_cons_succ]
              exact rfl
            · exact Below.refl _ _
            · exact IsOut
          refine ⟨fun u W hb hd K hK => ?_, ?_⟩
          · simp only [Facts, nthR, Is, and_true] at hd
            simp only [hd] at hK ⊢
            clear hd
            go_simp
            apply hK
            · simp only [Act.put, List.setIfInBounds_toArray, List.set_cons_zero, List.set_cons_succ]
              exact rfl
            · exact Below.refl _ _
            · exact IsOut
          refine ⟨fun u W hb hd K hK => ?_, ?_⟩
          · simp only [Facts, nthR, Is, and_true] at hd
            simp only [hd] at hK ⊢
            clear hd
            rw [if_pos (by rfl)]
            refine wp_load_mid 24 (.tmp 10) rfl g10 0 rfl (ptC A B) _ (rangeAt_of_blk (bg10.below hb lg10)) Tryd.underlying24 rfl (infoPt.trans (by rw [ptC_length (hA).out (hB).out])) ?_
            exact hK _ _ _ rfl (Below.refl _ _) IsOut
          refine ⟨fun u W hb hd K hK => ?_, ?_⟩
          · simp only [Facts, nthR, Is, and_true] at hd
            simp only [hd] at hK ⊢
            clear hd
            rw [if_pos (by rfl)]
            refine wp_load_mid 24 (.tmp 7) rfl g7 0 rfl (ptV p12) _ (rangeAt_of_blk (bg7.below hb lg7)) Tryd.underlying24 rfl (infoPt.trans (by rw [ptV_length])) ?_
            exact hK _ _ _ rfl (Below.refl _ _) IsOut
          refine ⟨fun u W hb hd K hK => ?_, ?_⟩
          · simp only [Facts, nthR, Is, and_true] at hd
            simp only [hd] at hK ⊢
            clear hd
            go_simp
            refine (AddCP (hT.up hb0 hb) (hA) (hB) ((Lib.hid (spots_gone (gone_of hOn)) : Hid (Spots A B 0))) (hp12) hp56).mono ?_
            rintro e wy ⟨rfl, hby⟩
            exact hK _ _ _ rfl hby IsOut
          refine ⟨fun u W hb hd K hK => ?_, ?_⟩
          · simp only [Facts, nthR, Is, and_true] at hd
            simp only [hd] at hK ⊢
            clear hd
            rw [if_pos (by rfl)]
            refine wp_load_mid 24 (.tmp 7) rfl g7 0 rfl (ptV p12) _ (rangeAt_of_blk (bg7.below hb lg7)) Tryd.underlying24 rfl (infoPt.trans (by rw [ptV_length])) ?_
            exact hK _ _ _ rfl (Below.refl _ _) IsOut
          refine ⟨fun u W hb hd K hK => ?_, ?_⟩
          · simp only [Facts, nthR, Is, and_true] at hd
            simp only [hd] at hK ⊢
            clear hd
            rw [if_pos (by rfl)]
            refine wp_eqlA rfl rfl rfl guardPt (show (Op.equalIn 10000 24 (.agg (ptV p56).toArray) (.agg (ptV p12).toArray)).run Tryd.prog W = .ok true W from EqP (on_of (hp56)) (on_of (hp12)) (Lib.hid (decide_eq_true (E35.out))) W) ?_
            exact hK _ _ (.bool true) rfl (Below.refl _ _) IsOut
          refine ⟨fun u W hb hd K hK => ?_, ?_⟩
          · simp only [Facts, nthR, Is, and_true] at hd
            simp only [hd] at hK ⊢
            clear hd
            go_simp
            apply hK
            · simp only [Act.put, List.setIfInBounds_toArray, List.set_cons_zero, List.set_cons_succ]
              exact rfl
            · exact Below.refl _ _
            · exact IsOut
          refine ⟨fun u W hb hd K hK => ?_, ?_⟩
          · simp only [Facts, nthR, Is, and_true] at hd
            simp only [hd] at hK ⊢
            clear hd
            go_simp
            apply hK
            · simp only [Act.put, List.setIfInBounds_toArray, List.set_cons_zero, List.set_cons_succ]
              exact rfl
            · exact Below.refl _ _
            · exact IsOut
          refine ⟨fun u W hb hd K hK => ?_, ?_⟩
          · simp only [Facts, nthR, Is, and_true] at hd
            simp only [hd] at hK ⊢
            clear hd
            rw [if_pos (by rfl)]
            refine wp_load_mid 22 (.tmp 3) rfl g3 0 rfl (A.map B8) _ (rangeAt_of_blk (bg3.below hb lg3)) Tryd.underlying22 rfl (info40.trans (by rw [List.length_map, (hA).out])) ?_
            exact hK _ _ _ rfl (Below.refl _ _) IsOut
          refine ⟨fun u W hb hd K hK => ?_, ?_⟩
          · simp only [Facts, nthR, Is, and_true] at hd
            simp only [hd] at hK ⊢
            clear hd
            rw [if_pos (by rfl)]
            refine wp_load_mid 24 (.tmp 10) rfl g10 0 rfl (ptC A B) _ (rangeAt_of_blk (bg10.below hb lg10)) Tryd.underlying24 rfl (infoPt.trans (by rw [ptC_length (hA).out (hB).out])) ?_
            exact hK _ _ _ rfl (Below.refl _ _) IsOut
          refine ⟨fun u W hb hd K hK => ?_, ?_⟩
          · simp only [Facts, nthR, Is, and_true] at hd
            simp only [hd] at hK ⊢
            clear hd
            go_simp
            refine (TimesS (hT.up hb0 hb) (hA) (hA) (hB) (hvA) ((Lib.hid (spots_gone (gone_of hOn)) : Hid (Spots A B 0))) hp63).mono ?_
            rintro e wy ⟨rfl, hby⟩
            exact hK _ _ _ rfl hby IsOut
          refine ⟨fun u W hb hd K hK => ?_, ?_⟩
          · simp only [Facts, nthR, Is, and_true] at hd
            simp only [hd] at hK ⊢
            clear hd
            rw [if_pos (by rfl)]
            refine wp_builtV 24 _ rfl [] rfl (ptV none).toArray builtZ ?_
            exact hK _ _ _ rfl (Below.refl _ _) IsOut
          refine ⟨fun u W hb hd K hK => ?_, ?_⟩
          · simp only [Facts, nthR, Is, and_true] at hd
            simp only [hd] at hK ⊢
            clear hd
            rw [if_pos (by rfl)]
            refine wp_eqlA rfl rfl rfl guardPt (show (Op.equalIn 10000 24 (.agg (ptV p63).toArray) (.agg (ptV none).toArray)).run Tryd.prog W = .ok true W from EqP (on_of (hp63)) (on_of ((Lib.hid rfl : Hid ((none : Pt) = mulG 0)))) (Lib.hid (decide_eq_true (E42.out))) W) ?_
            exact hK _ _ (.bool true) rfl (Below.refl _ _) IsOut
          refine ⟨fun u W hb hd K hK => ?_, ?_⟩
          · simp only [Facts, nthR, Is, and_true] at hd
            simp only [hd] at hK ⊢
            clear hd
            go_simp
            apply hK
            · simp only [Act.put, List.setIfInBounds_toArray, List.set_cons_zero, List.set_cons_succ]
              exact rfl
            · exact Below.refl _ _
            · exact IsOut
          exact trivial
        · skip
          exact trivial
        · exact (.is (.is (.is (.is (.is (.is (.is (.is (.is (.is (.is (.is (.is (.is (.is (.is (.is (.is (.is (.is (.is (.is (.is (.is (.is (.is (.is (.is (.is (.is (.is (.is (.is (.is (.is (.is (.is (.is (.is (.is (.is (.is (.is (.is .nil))))))))))))))))))))))))))))))))))))))))))))
        · intro u w12 hb hd
          simp only [List.drop_succ_cons, List.drop_zero]
          simp only [Facts, nthR, Is, and_true] at hd
          have h43 := hd
          clear hd
          simp only [h43]
          clear h43
          replace bg3 := bg3.below hb lg3
          replace bg4 := bg4.below hb lg4
          replace bg5 := bg5.below hb lg5
          replace bg7 := bg7.below hb lg7
          replace bg8 := bg8.below hb lg8
          replace bg9 := bg9.below hb lg9
          replace bg10 := bg10.below hb lg10
          replace hb0 := hb0.trans (hb.mono hb0.size)
          replace lg3 := bg3.lt
          replace lg4 := bg4.lt
          replace lg5 := bg5.lt
          replace lg7 := bg7.lt
          replace lg8 := bg8.lt
          replace lg9 := bg9.lt
          replace lg10 := bg10.lt
          clear hb
          go_wp2_with (fail)
          refine bodyPost_ret (results_tmp Tryd.results6 _ _ _) rfl ?_
          exact ⟨rfl, hb0⟩
set_option maxRecDepth 100000 in
set_option maxHeartbeats 4000000 in
theorem curveGroup_1 (A B D : List UInt8) (w : World) (hT : TabsC w) (hA : Hid (A.length = 32)) (hB : Hid (B.length = 32)) (hD : Hid (D.length = 32)) (hOn : Hid (onB A B = true)) : Calls Tryd.prog 6 #[.agg (A.map B8).toArray, .agg (B.map B8).toArray, .agg (D.map B8).toArray] w fun e w' => e = .returned (.bool true) ∧ Below w.heap.size w w' := by
  go_enter Tryd.func6, Tryd.ntmps6
  have hb0 : Below w.heap.size w w := Below.refl _ _
  obtain ⟨vA, hvA⟩ : ∃ s, Hid ((ofTo A 32).val = s) := ⟨_, Lib.hid rfl⟩
  obtain ⟨vB, hvB⟩ : ∃ s, Hid ((ofTo B 32).val = s) := ⟨_, Lib.hid rfl⟩
  obtain ⟨vD, hvD⟩ : ∃ s, Hid ((ofTo D 32).val = s) := ⟨_, Lib.hid rfl⟩
  go_upto_region 0 with (fail)
  refine wp_region_lit ?_
  refine wpList_box_blk rfl 22 (.tmp 0) rfl (A.map B8) rfl ?_
  intro g3 w1 hg bg3 hb
  have og3 := Lib.hid (show w.heap.size ≤ g3 from Nat.le_trans hb0.size (Nat.le_of_eq hg.symm))
  clear hg
  replace hb0 := hb0.trans (hb.mono hb0.size)
  clear hb
  have lg3 := bg3.lt
  try simp only [Act.put, List.setIfInBounds_toArray, List.set_cons_zero, List.set_cons_succ]
  refine wpList_box_blk rfl 22 (.tmp 1) rfl (B.map B8) rfl ?_
  intro g4 w2 hg bg4 hb
  have og4 := Lib.hid (show w.heap.size ≤ g4 ∧ g3 < g4 from ⟨Nat.le_trans hb0.size (Nat.le_of_eq hg.symm), Nat.lt_of_lt_of_le lg3 (Nat.le_of_eq hg.symm)⟩)
  clear hg
  replace bg3 := bg3.below hb lg3
  replace hb0 := hb0.trans (hb.mono hb0.size)
  replace lg3 := bg3.lt
  clear hb
  have lg4 := bg4.lt
  try simp only [Act.put, List.setIfInBounds_toArray, List.set_cons_zero, List.set_cons_succ]
  refine wpList_box_blk rfl 22 (.tmp 2) rfl (D.map B8) rfl ?_
  intro g5 w3 hg bg5 hb
  have og5 := Lib.hid (show w.heap.size ≤ g5 ∧ g3 < g5 ∧ g4 < g5 from ⟨Nat.le_trans hb0.size (Nat.le_of_eq hg.symm), Nat.lt_of_lt_of_le lg3 (Nat.le_of_eq hg.symm), Nat.lt_of_lt_of_le lg4 (Nat.le_of_eq hg.symm)⟩)
  clear hg
  replace bg3 := bg3.below hb lg3
  replace bg4 := bg4.below hb lg4
  replace hb0 := hb0.trans (hb.mono hb0.size)
  replace lg3 := bg3.lt
  replace lg4 := bg4.lt
  clear hb
  have lg5 := bg5.lt
  try simp only [Act.put, List.setIfInBounds_toArray, List.set_cons_zero, List.set_cons_succ]
  go_upto_region 1 with (fail)
  obtain ⟨p12, hp12⟩ : ∃ s : Pt, Hid (s = mulG (vA)) := ⟨_, Lib.hid rfl⟩
  obtain ⟨p14, hp14⟩ : ∃ s : Pt, Hid (s = mulG (vB)) := ⟨_, Lib.hid rfl⟩
  obtain ⟨p16, hp16⟩ : ∃ s : Pt, Hid (s = mulG (vD)) := ⟨_, Lib.hid rfl⟩
  apply wp_region_fresh (m := 9) (Z := []) (Fl := [false, false, false, false, false, false, true, true, true]) (D := [[], [0], [], [0, 1, 2], [], [0, 1, 2, 3, 4], [], [], [], [0, 1, 2, 3, 4, 5, 6, 7, 8], [0, 1, 2, 3, 4, 5, 6, 7, 8, 9], [0, 1, 2, 3, 4, 5, 6, 7, 8, 9, 10]]) (J := [[], [0], [], [2], [], [4], [], [], []]) (Je := [1, 3, 5, 6, 7, 8]) (Rs := [Is _, Is _, Is _, Is _, Is _, Is _, fun v V => ∃ g', v = .pointer (some ⟨g', 0, none⟩) ∧ w3.heap.size ≤ g' ∧ Blk V g' 24 (ptV none), fun v V => ∃ g', v = .pointer (some ⟨g', 0, none⟩) ∧ w3.heap.size ≤ g' ∧ Blk V g' 24 (ptV none), fun v V => ∃ g', v = .pointer (some ⟨g', 0, none⟩) ∧ w3.heap.size ≤ g' ∧ Blk V g' 24 (ptV none)])
  · kernel_rfl
  · kernel_rfl
  · kernel_rfl
  · kernel_rfl
  · kernel_rfl
  · kernel_rfl
  · kernel_rfl
  · kernel_rfl
  · exact fun h => absurd rfl h
  · intro u
    simp only [List.take_succ_cons, List.take_zero, List.map_cons, List.map_nil, fillU, List.setIfInBounds_toArray, List.set_cons_zero, List.set_cons_succ, Nat.reduceAdd]
    exact rfl
  · simp only [List.take_succ_cons, List.take_zero]
    refine ⟨fun u W hb hd K hK => ?_, ?_⟩
    · clear hd
      rw [if_pos (by rfl)]
      refine wp_load_mid 22 (.tmp 3) rfl g3 0 rfl (A.map B8) _ (rangeAt_of_blk (bg3.below hb lg3)) Tryd.underlying22 rfl (info40.trans (by rw [List.length_map, (hA).out])) ?_
      exact hK _ _ _ rfl (Below.refl _ _) IsOut
    refine ⟨fun u W hb hd K hK => ?_, ?_⟩
    · simp only [Facts, nthR, Is, and_true] at hd
      simp only [hd] at hK ⊢
      clear hd
      go_simp
      refine (OfE (hT.up hb0 hb) (hA) (hvA) hp12).mono ?_
      rintro e wy ⟨rfl, hby⟩
      exact hK _ _ _ rfl hby IsOut
    refine ⟨fun u W hb hd K hK => ?_, ?_⟩
    · clear hd
      rw [if_pos (by rfl)]
      refine wp_load_mid 22 (.tmp 4) rfl g4 0 rfl (B.map B8) _ (rangeAt_of_blk (bg4.below hb lg4)) Tryd.underlying22 rfl (info40.trans (by rw [List.length_map, (hB).out])) ?_
      exact hK _ _ _ rfl (Below.refl _ _) IsOut
    refine ⟨fun u W hb hd K hK => ?_, ?_⟩
    · simp only [Facts, nthR, Is, and_true] at hd
      simp only [hd] at hK ⊢
      clear hd
      go_simp
      refine (OfE (hT.up hb0 hb) (hB) (hvB) hp14).mono ?_
      rintro e wy ⟨rfl, hby⟩
      exact hK _ _ _ rfl hby IsOut
    refine ⟨fun u W hb hd K hK => ?_, ?_⟩
    · clear hd
      rw [if_pos (by rfl)]
      refine wp_load_mid 22 (.tmp 5) rfl g5 0 rfl (D.map B8) _ (rangeAt_of_blk (bg5.below hb lg5)) Tryd.underlying22 rfl (info40.trans (by rw [List.length_map, (hD).out])) ?_
      exact hK _ _ _ rfl (Below.refl _ _) IsOut
    refine ⟨fun u W hb hd K hK => ?_, ?_⟩
    · simp only [Facts, nthR, Is, and_true] at hd
      simp only [hd] at hK ⊢
      clear hd
      go_simp
      refine (OfE (hT.up hb0 hb) (hD) (hvD) hp16).mono ?_
      rintro e wy ⟨rfl, hby⟩
      exact hK _ _ _ rfl hby IsOut
    refine ⟨fun u W hb hd K hK => ?_, ?_⟩
    · clear hd
      go_simp
      apply hK
      · simp only [Act.put, List.setIfInBounds_toArray, List.set_cons_zero, List.set_cons_succ]
        exact rfl
      · exact (Below.refl _ _).alloc (Nat.le_refl _) _
      · exact ⟨_, rfl, hb.size, Blk.new_of _ _ _ _ rfl⟩
      · exact ⟨_, rfl, Nat.le_refl _, by simp⟩
    refine ⟨fun u W hb hd K hK => ?_, ?_⟩
    · clear hd
      go_simp
      apply hK
      · simp only [Act.put, List.setIfInBounds_toArray, List.set_cons_zero, List.set_cons_succ]
        exact rfl
      · exact (Below.refl _ _).alloc (Nat.le_refl _) _
      · exact ⟨_, rfl, hb.size, Blk.new_of _ _ _ _ rfl⟩
      · exact ⟨_, rfl, Nat.le_refl _, by simp⟩
    refine ⟨fun u W hb hd K hK => ?_, ?_⟩
    · clear hd
      go_simp
      apply hK
      · simp only [Act.put, List.setIfInBounds_toArray, List.set_cons_zero, List.set_cons_succ]
        exact rfl
      · exact (Below.refl _ _).alloc (Nat.le_refl _) _
      · exact ⟨_, rfl, hb.size, Blk.new_of _ _ _ _ rfl⟩
      · exact ⟨_, rfl, Nat.le_refl _, by simp⟩
    exact trivial
  · skip
    exact trivial
  · exact (.is (.is (.is (.is (.is (.is (.cons (fun v V V' ⟨g', h1, h2, h3⟩ hb => ⟨g', h1, h2, h3.below hb h3.lt⟩) (.cons (fun v V V' ⟨g', h1, h2, h3⟩ hb => ⟨g', h1, h2, h3.below hb h3.lt⟩) (.cons (fun v V V' ⟨g', h1, h2, h3⟩ hb => ⟨g', h1, h2, h3.below hb h3.lt⟩) .nil)))))))))
  · intro u w4 hb hd hne
    simp only [List.drop_succ_cons, List.drop_zero]
    simp only [Facts, nthR, Is, and_true] at hd
    obtain ⟨h1, h3, h5, ⟨g7, h6, hng7, bg7⟩, ⟨g8, h7, hng8, bg8⟩, ⟨g9, h8, hng9, bg9⟩⟩ := hd
    have og7 := Lib.hid (show w.heap.size ≤ g7 ∧ g3 < g7 ∧ g4 < g7 ∧ g5 < g7 from ⟨Nat.le_trans hb0.size hng7, Nat.lt_of_lt_of_le lg3 hng7, Nat.lt_of_lt_of_le lg4 hng7, Nat.lt_of_lt_of_le lg5 hng7⟩)
    have og8 := Lib.hid (show w.heap.size ≤ g8 ∧ g3 < g8 ∧ g4 < g8 ∧ g5 < g8 ∧ g7 ≠ g8 from ⟨Nat.le_trans hb0.size hng8, Nat.lt_of_lt_of_le lg3 hng8, Nat.lt_of_lt_of_le lg4 hng8, Nat.lt_of_lt_of_le lg5 hng8, (fun e => hne 6 7 rfl rfl (by decide) (by decide) (by decide) (by rw [h6, h7, e]))⟩)
    have og9 := Lib.hid (show w.heap.size ≤ g9 ∧ g3 < g9 ∧ g4 < g9 ∧ g5 < g9 ∧ g7 ≠ g9 ∧ g8 ≠ g9 from ⟨Nat.le_trans hb0.size hng9, Nat.lt_of_lt_of_le lg3 hng9, Nat.lt_of_lt_of_le lg4 hng9, Nat.lt_of_lt_of_le lg5 hng9, (fun e => hne 6 8 rfl rfl (by decide) (by decide) (by decide) (by rw [h6, h8, e])), (fun e => hne 7 8 rfl rfl (by decide) (by decide) (by decide) (by rw [h7, h8, e]))⟩)
    simp only [h1, h3, h5, h6, h7, h8]
    clear h1 h3 h5 h6 h7 h8 hne
    replace bg3 := bg3.below hb lg3
    replace bg4 := bg4.below hb lg4
    replace bg5 := bg5.below hb lg5
    replace hb0 := hb0.trans (hb.mono hb0.size)
    replace lg3 := bg3.lt
    replace lg4 := bg4.lt
    replace lg5 := bg5.lt
    clear hb
    have lg7 := bg7.lt
    clear hng7
    have lg8 := bg8.lt
    clear hng8
    have lg9 := bg9.lt
    clear hng9
    refine wpList_store_blk rfl 24 (.tmp 7) (.tmp 12) rfl rfl g7 (ptV p12) rfl rfl _ _ bg7 (infoPt.trans (by rw [ptV_length])) (by first | with_reducible rfl | rw [ptV_length, ptV_length] | rw [ptV_length]) (onePv _) ?_
    intro w5 bn hgs
    replace bg3 := bg3.grown hgs (fun e => Nat.ne_of_lt og7.out.2.1 (Option.some.inj e))
    replace bg4 := bg4.grown hgs (fun e => Nat.ne_of_lt og7.out.2.2.1 (Option.some.inj e))
    replace bg5 := bg5.grown hgs (fun e => Nat.ne_of_lt og7.out.2.2.2 (Option.some.inj e))
    replace bg8 := bg8.grown hgs (fun e => og8.out.2.2.2.2 (Option.some.inj e).symm)
    replace bg9 := bg9.grown hgs (fun e => og9.out.2.2.2.2.1 (Option.some.inj e).symm)
    replace hb0 := below_new hb0 hgs og7.out.1 hb0.size
    clear hgs bg7
    have bg7 := bn
    clear bn
    replace lg3 := bg3.lt
    replace lg4 := bg4.lt
    replace lg5 := bg5.lt
    replace lg7 := bg7.lt
    replace lg8 := bg8.lt
    replace lg9 := bg9.lt
    try simp only [Act.put]
    refine wpList_store_blk rfl 24 (.tmp 8) (.tmp 14) rfl rfl g8 (ptV p14) rfl rfl _ _ bg8 (infoPt.trans (by rw [ptV_length])) (by first | with_reducible rfl | rw [ptV_length, ptV_length] | rw [ptV_length]) (onePv _) ?_
    intro w6 bn hgs
    replace bg3 := bg3.grown hgs (fun e => Nat.ne_of_lt og8.out.2.1 (Option.some.inj e))
    replace bg4 := bg4.grown hgs (fun e => Nat.ne_of_lt og8.out.2.2.1 (Option.some.inj e))
    replace bg5 := bg5.grown hgs (fun e => Nat.ne_of_lt og8.out.2.2.2.1 (Option.some.inj e))
    replace bg7 := bg7.grown hgs (fun e => og8.out.2.2.2.2 (Option.some.inj e))
    replace bg9 := bg9.grown hgs (fun e => og9.out.2.2.2.2.2 (Option.some.inj e).symm)
    replace hb0 := below_new hb0 hgs og8.out.1 hb0.size
    clear hgs bg8
    have bg8 := bn
    clear bn
    replace lg3 := bg3.lt
    replace lg4 := bg4.lt
    replace lg5 := bg5.lt
    replace lg7 := bg7.lt
    replace lg8 := bg8.lt
    replace lg9 := bg9.lt
    try simp only [Act.put]
    refine wpList_store_blk rfl 24 (.tmp 9) (.tmp 16) rfl rfl g9 (ptV p16) rfl rfl _ _ bg9 (infoPt.trans (by rw [ptV_length])) (by first | with_reducible rfl | rw [ptV_length, ptV_length] | rw [ptV_length]) (onePv _) ?_
    intro w7 bn hgs
    replace bg3 := bg3.grown hgs (fun e => Nat.ne_of_lt og9.out.2.1 (Option.some.inj e))
    replace bg4 := bg4.grown hgs (fun e => Nat.ne_of_lt og9.out.2.2.1 (Option.some.inj e))
    replace bg5 := bg5.grown hgs (fun e => Nat.ne_of_lt og9.out.2.2.2.1 (Option.some.inj e))
    replace bg7 := bg7.grown hgs (fun e => og9.out.2.2.2.2.1 (Option.some.inj e))
    replace bg8 := bg8.grown hgs (fun e => og9.out.2.2.2.2.2 (Option.some.inj e))
    replace hb0 := below_new hb0 hgs og9.out.1 hb0.size
    clear hgs bg9
    have bg9 := bn
    clear bn
    replace lg3 := bg3.lt
    replace lg4 := bg4.lt
    replace lg5 := bg5.lt
    replace lg7 := bg7.lt
    replace lg8 := bg8.lt
    replace lg9 := bg9.lt
    try simp only [Act.put]
    go_upto_region 2 with (fail)
    apply wp_plain_once (m := 3) (J := [[], [], [0, 1]]) (Je := [2]) (Rs := [Is _, Is _, Is _])
    · kernel_rfl
    · kernel_rfl
    · intro u
      simp only [List.take_succ_cons, List.take_zero, List.map_cons, List.map_nil, fillU, List.setIfInBounds_toArray, List.set_cons_zero, List.set_cons_succ, Nat.reduceAdd]
      exact rfl
    · simp only [List.take_succ_cons, List.take_zero]
      refine ⟨fun u W hb hd K hK => ?_, ?_⟩
      · clear hd
        rw [if_pos (by rfl)]
        refine wp_load_mid 22 (.tmp 3) rfl g3 0 rfl (A.map B8) _ (rangeAt_of_blk (bg3.below hb lg3)) Tryd.underlying22 rfl (info40.trans (by rw [List.length_map, (hA).out])) ?_
        exact hK _ _ _ rfl (Below.refl _ _) IsOut
      refine ⟨fun u W hb hd K hK => ?_, ?_⟩
      · clear hd
        rw [if_pos (by rfl)]
        refine wp_load_mid 22 (.tmp 4) rfl g4 0 rfl (B.map B8) _ (rangeAt_of_blk (bg4.below hb lg4)) Tryd.underlying22 rfl (info40.trans (by rw [List.length_map, (hB).out])) ?_
        exact hK _ _ _ rfl (Below.refl _ _) IsOut
      refine ⟨fun u W hb hd K hK => ?_, ?_⟩
      · simp only [Facts, nthR, Is, and_true] at hd
        simp only [hd] at hK ⊢
        clear hd
        rw [if_pos (by rfl)]
        refine wp_builtV 24 _ rfl [(0, .agg (A.map B8).toArray), (1, .agg (B.map B8).toArray)] rfl (ptC A B).toArray (builtPtC (hA) (hB)) ?_
        exact hK _ _ _ rfl (Below.refl _ _) IsOut
      exact trivial
    · exact (.is (.is (.is .nil)))
    · intro u w8 hb hd
      simp only [List.drop_succ_cons, List.drop_zero]
      simp only [Facts, nthR, Is, and_true] at hd
      have h2 := hd
      clear hd
      simp only [h2]
      clear h2
      replace bg3 := bg3.below hb lg3
      replace bg4 := bg4.below hb lg4
      replace bg5 := bg5.below hb lg5
      replace bg7 := bg7.below hb lg7
      replace bg8 := bg8.below hb lg8
      replace bg9 := bg9.below hb lg9
      replace hb0 := hb0.trans (hb.mono hb0.size)
      replace lg3 := bg3.lt
      replace lg4 := bg4.lt
      replace lg5 := bg5.lt
      replace lg7 := bg7.lt
      replace lg8 := bg8.lt
      replace lg9 := bg9.lt
      clear hb
      refine wpList_new_blk rfl 24 rfl (ptV none) zeroPt ?_
      intro g10 w9 hg bg10 hb
      have og10 := Lib.hid (show w.heap.size ≤ g10 ∧ g3 < g10 ∧ g4 < g10 ∧ g5 < g10 ∧ g7 < g10 ∧ g8 < g10 ∧ g9 < g10 from ⟨Nat.le_trans hb0.size (Nat.le_of_eq hg.symm), Nat.lt_of_lt_of_le lg3 (Nat.le_of_eq hg.symm), Nat.lt_of_lt_of_le lg4 (Nat.le_of_eq hg.symm), Nat.lt_of_lt_of_le lg5 (Nat.le_of_eq hg.symm), Nat.lt_of_lt_of_le lg7 (Nat.le_of_eq hg.symm), Nat.lt_of_lt_of_le lg8 (Nat.le_of_eq hg.symm), Nat.lt_of_lt_of_le lg9 (Nat.le_of_eq hg.symm)⟩)
      clear hg
      replace bg3 := bg3.below hb lg3
      replace bg4 := bg4.below hb lg4
      replace bg5 := bg5.below hb lg5
      replace bg7 := bg7.below hb lg7
      replace bg8 := bg8.below hb lg8
      replace bg9 := bg9.below hb lg9
      replace hb0 := hb0.trans (hb.mono hb0.size)
      replace lg3 := bg3.lt
      replace lg4 := bg4.lt
      replace lg5 := bg5.lt
      replace lg7 := bg7.lt
      replace lg8 := bg8.lt
      replace lg9 := bg9.lt
      clear hb
      have lg10 := bg10.lt
      try simp only [Act.put, List.setIfInBounds_toArray, List.set_cons_zero, List.set_cons_succ]
      refine wpList_store_blk rfl 24 (.tmp 10) (.tmp 19) rfl rfl g10 (ptC A B) rfl rfl _ _ bg10 (infoPt.trans (by rw [ptC_length (hA).out (hB).out])) (by first | with_reducible rfl | rw [ptV_length, ptC_length (hA).out (hB).out] | rw [ptV_length]) (onePt _ _) ?_
      intro w10 bn hgs
      replace bg3 := bg3.grown hgs (fun e => Nat.ne_of_lt og10.out.2.1 (Option.some.inj e))
      replace bg4 := bg4.grown hgs (fun e => Nat.ne_of_lt og10.out.2.2.1 (Option.some.inj e))
      replace bg5 := bg5.grown hgs (fun e => Nat.ne_of_lt og10.out.2.2.2.1 (Option.some.inj e))
      replace bg7 := bg7.grown hgs (fun e => Nat.ne_of_lt og10.out.2.2.2.2.1 (Option.some.inj e))
      replace bg8 := bg8.grown hgs (fun e => Nat.ne_of_lt og10.out.2.2.2.2.2.1 (Option.some.inj e))
      replace bg9 := bg9.grown hgs (fun e => Nat.ne_of_lt og10.out.2.2.2.2.2.2 (Option.some.inj e))
      replace hb0 := below_new hb0 hgs og10.out.1 hb0.size
      clear hgs bg10
      have bg10 := bn
      clear bn
      replace lg3 := bg3.lt
      replace lg4 := bg4.lt
      replace lg5 := bg5.lt
      replace lg7 := bg7.lt
      replace lg8 := bg8.lt
      replace lg9 := bg9.lt
      replace lg10 := bg10.lt
      try simp only [Act.put]
      go_upto_region 3 with (fail)
      apply wp_plain_once (m := 2) (J := [[], [0]]) (Je := [1]) (Rs := [Is _, Is _])
      · kernel_rfl
      · kernel_rfl
      · intro u
        simp only [List.take_succ_cons, List.take_zero, List.map_cons, List.map_nil, fillU, List.setIfInBounds_toArray, List.set_cons_zero, List.set_cons_succ, Nat.reduceAdd]
        exact rfl
      · simp only [List.take_succ_cons, List.take_zero]
        refine ⟨fun u W hb hd K hK => ?_, ?_⟩
        · clear hd
          rw [if_pos (by rfl)]
          refine wp_load_mid 24 (.tmp 10) rfl g10 0 rfl (ptC A B) _ (rangeAt_of_blk (bg10.below hb lg10)) Tryd.underlying24 rfl (infoPt.trans (by rw [ptC_length (hA).out (hB).out])) ?_
          exact hK _ _ _ rfl (Below.refl _ _) IsOut
        refine ⟨fun u W hb hd K hK => ?_, ?_⟩
        · simp only [Facts, nthR, Is, and_true] at hd
          simp only [hd] at hK ⊢
          clear hd
          go_simp
          refine (OnC (hT.up hb0 hb) (hA) (hB) hOn).mono ?_
          rintro e wy ⟨rfl, hby⟩
          exact hK _ _ _ rfl hby IsOut
        exact trivial
      · exact (.is (.is .nil))
      · intro u w11 hb hd
        simp only [List.drop_succ_cons, List.drop_zero]
        simp only [Facts, nthR, Is, and_true] at hd
        have h1 := hd
        clear hd
        simp only [h1]
        clear h1
        replace bg3 := bg3.below hb lg3
        replace bg4 := bg4.below hb lg4
        replace bg5 := bg5.below hb lg5
        replace bg7 := bg7.below hb lg7
        replace bg8 := bg8.below hb lg8
        replace bg9 := bg9.below hb lg9
        replace bg10 := bg10.below hb lg10
        replace hb0 := hb0.trans (hb.mono hb0.size)
        replace lg3 := bg3.lt
        replace lg4 := bg4.lt
        replace lg5 := bg5.lt
        replace lg7 := bg7.lt
        replace lg8 := bg8.lt
        replace lg9 := bg9.lt
        replace lg10 := bg10.lt
        clear hb
        go_upto_region 4 with (fail)
        apply wp_plain_once (m := 1) (J := [[]]) (Je := [0]) (Rs := [Is _])
        · kernel_rfl
        · kernel_rfl
        · intro u
          simp only [List.take_succ_cons, List.take_zero, List.map_cons, List.map_nil, fillU, List.setIfInBounds_toArray, List.set_cons_zero, List.set_cons_succ]
          exact rfl
        · simp only [List.take_succ_cons, List.take_zero]
          refine ⟨fun u W hb hd K hK => ?_, ?_⟩
          · clear hd
            rw [if_pos (by rfl)]
            refine wp_builtV 24 _ rfl [] rfl (ptV none).toArray builtZ ?_
            exact hK _ _ _ rfl (Below.refl _ _) IsOut
          exact trivial
        · exact (.is .nil)
        · intro u w12 hb hd
          simp only [List.drop_succ_cons, List.drop_zero]
          simp only [Facts, nthR, Is, and_true] at hd
          have h0 := hd
          clear hd
          simp only [h0]
          clear h0
          replace bg3 := bg3.below hb lg3
          replace bg4 := bg4.below hb lg4
          replace bg5 := bg5.below hb lg5
          replace bg7 := bg7.below hb lg7
          replace bg8 := bg8.below hb lg8
          replace bg9 := bg9.below hb lg9
          replace bg10 := bg10.below hb lg10
          replace hb0 := hb0.trans (hb.mono hb0.size)
          replace lg3 := bg3.lt
          replace lg4 := bg4.lt
          replace lg5 := bg5.lt
          replace lg7 := bg7.lt
          replace lg8 := bg8.lt
          replace lg9 := bg9.lt
          replace lg10 := bg10.lt
          clear hb
          refine wpList_store_blk rfl 24 (.tmp 10) (.tmp 22) rfl rfl g10 (ptV none) rfl rfl _ _ bg10 (infoPt.trans (by rw [ptV_length])) (by first | with_reducible rfl | rw [ptC_length (hA).out (hB).out, ptV_length] | rw [ptC_length (hA).out (hB).out]) (onePv _) ?_
          intro w13 bn hgs
          replace bg3 := bg3.grown hgs (fun e => Nat.ne_of_lt og10.out.2.1 (Option.some.inj e))
          replace bg4 := bg4.grown hgs (fun e => Nat.ne_of_lt og10.out.2.2.1 (Option.some.inj e))
          replace bg5 := bg5.grown hgs (fun e => Nat.ne_of_lt og10.out.2.2.2.1 (Option.some.inj e))
          replace bg7 := bg7.grown hgs (fun e => Nat.ne_of_lt og10.out.2.2.2.2.1 (Option.some.inj e))
          replace bg8 := bg8.grown hgs (fun e => Nat.ne_of_lt og10.out.2.2.2.2.2.1 (Option.some.inj e))
          replace bg9 := bg9.grown hgs (fun e => Nat.ne_of_lt og10.out.2.2.2.2.2.2 (Option.some.inj e))
          replace hb0 := below_new hb0 hgs og10.out.1 hb0.size
          clear hgs bg10
          have bg10 := bn
          clear bn
          replace lg3 := bg3.lt
          replace lg4 := bg4.lt
          replace lg5 := bg5.lt
          replace lg7 := bg7.lt
          replace lg8 := bg8.lt
          replace lg9 := bg9.lt
          replace lg10 := bg10.lt
          try simp only [Act.put]
          go_upto_region 5 with (fail)
          obtain ⟨p27, hp27⟩ : ∃ s : Pt, Hid (s = mulG (vA + vB)) := ⟨_, Lib.hid rfl⟩
          obtain ⟨p29, hp29⟩ : ∃ s : Pt, Hid (s = mulG ((vA + vB) + vD)) := ⟨_, Lib.hid rfl⟩
          obtain ⟨p33, hp33⟩ : ∃ s : Pt, Hid (s = mulG (vB + vD)) := ⟨_, Lib.hid rfl⟩
          obtain ⟨p34, hp34⟩ : ∃ s : Pt, Hid (s = mulG (vA + (vB + vD))) := ⟨_, Lib.hid rfl⟩
          obtain ⟨p40, hp40⟩ : ∃ s : Pt, Hid (s = mulG (vA + vB)) := ⟨_, Lib.hid rfl⟩
          obtain ⟨p43, hp43⟩ : ∃ s : Pt, Hid (s = mulG (vB + vA)) := ⟨_, Lib.hid rfl⟩
          obtain ⟨p49, hp49⟩ : ∃ s : Pt, Hid (s = mulG (vA + 0)) := ⟨_, Lib.hid rfl⟩
          obtain ⟨p56, hp56⟩ : ∃ s : Pt, Hid (s = mulG (0 + vA)) := ⟨_, Lib.hid rfl⟩
          obtain ⟨p63, hp63⟩ : ∃ s : Pt, Hid (s = mulG (vA * 0)) := ⟨_, Lib.hid rfl⟩
          have E12 := Lib.hid (show p29 = p34 by rw [hp29.out, hp34.out, Nat.add_assoc])
          have E21 := Lib.hid (show p40 = p43 by rw [hp40.out, hp43.out, Nat.add_comm])
          have E28 := Lib.hid (show p49 = p12 by rw [hp49.out, hp12.out, Nat.add_zero])
          have E35 := Lib.hid (show p56 = p12 by rw [hp56.out, hp12.out, Nat.zero_add])
          have E42 := Lib.hid (show p63 = none by rw [hp63.out]; rfl)
          apply wp_region_once_tail (m := 44) (Z := []) (D := [[], [0], [0, 1], [0, 1], [0, 1, 2, 3], [0, 1], [0, 1, 2, 3, 4, 5], [0, 1], [0, 1], [0, 1], [0, 1, 2, 3, 4, 5, 6, 8, 9], [0, 1, 2, 3, 4, 5, 6, 7, 8, 9, 10], [0, 1, 2, 3, 4, 5, 6, 7, 8, 9, 10, 11], [0, 1, 2, 3, 4, 5, 6, 7, 8, 9, 10, 11, 12], [0, 1, 2, 3, 4, 5, 6, 7, 8, 9, 10, 11, 12, 13], [0, 1, 2, 3, 4, 5, 6, 7, 8, 9, 10, 11, 12, 13, 14], [0, 1, 2, 3, 4, 5, 6, 7, 8, 9, 10, 11, 12, 13, 14], [0, 1, 2, 3, 4, 5, 6, 7, 8, 9, 10, 11, 12, 13, 14, 15, 16], [0, 1, 2, 3, 4, 5, 6, 7, 8, 9, 10, 11, 12, 13, 14], [0, 1, 2, 3, 4, 5, 6, 7, 8, 9, 10, 11, 12, 13, 14], [0, 1, 2, 3, 4, 5, 6, 7, 8, 9, 10, 11, 12, 13, 14, 15, 16, 17, 18, 19], [0, 1, 2, 3, 4, 5, 6, 7, 8, 9, 10, 11, 12, 13, 14, 15, 16, 17, 18, 19, 20], [0, 1, 2, 3, 4, 5, 6, 7, 8, 9, 10, 11, 12, 13, 14, 15, 16, 17, 18, 19, 20, 21], [0, 1, 2, 3, 4, 5, 6, 7, 8, 9, 10, 11, 12, 13, 14, 15, 16, 17, 18, 19, 20, 21, 22], [0, 1, 2, 3, 4, 5, 6, 7, 8, 9, 10, 11, 12, 13, 14, 15, 16, 17, 18, 19, 20, 21, 22, 23], [0, 1, 2, 3, 4, 5, 6, 7, 8, 9, 10, 11, 12, 13, 14, 15, 16, 17, 18, 19, 20, 21, 22, 23], [0, 1, 2, 3, 4, 5, 6, 7, 8, 9, 10, 11, 12, 13, 14, 15, 16, 17, 18, 19, 20, 21, 22, 23, 24, 25], [0, 1, 2, 3, 4, 5, 6, 7, 8, 9, 10, 11, 12, 13, 14, 15, 16, 17, 18, 19, 20, 21, 22, 23], [0, 1, 2, 3, 4, 5, 6, 7, 8, 9, 10, 11, 12, 13, 14, 15, 16, 17, 18, 19, 20, 21, 22, 23, 24, 25, 26, 27], [0, 1, 2, 3, 4, 5, 6, 7, 8, 9, 10, 11, 12, 13, 14, 15, 16, 17, 18, 19, 20, 21, 22, 23, 24, 25, 26, 27, 28], [0, 1, 2, 3, 4, 5, 6, 7, 8, 9, 10, 11, 12, 13, 14, 15, 16, 17, 18, 19, 20, 21, 22, 23, 24, 25, 26, 27, 28, 29], [0, 1, 2, 3, 4, 5, 6, 7, 8, 9, 10, 11, 12, 13, 14, 15, 16, 17, 18, 19, 20, 21, 22, 23, 24, 25, 26, 27, 28, 29, 30], [0, 1, 2, 3, 4, 5, 6, 7, 8, 9, 10, 11, 12, 13, 14, 15, 16, 17, 18, 19, 20, 21, 22, 23, 24, 25, 26, 27, 28, 29, 30], [0, 1, 2, 3, 4, 5, 6, 7, 8, 9, 10, 11, 12, 13, 14, 15, 16, 17, 18, 19, 20, 21, 22, 23, 24, 25, 26, 27, 28, 29, 30, 31, 32], [0, 1, 2, 3, 4, 5, 6, 7, 8, 9, 10, 11, 12, 13, 14, 15, 16, 17, 18, 19, 20, 21, 22, 23, 24, 25, 26, 27, 28, 29, 30], [0, 1, 2, 3, 4, 5, 6, 7, 8, 9, 10, 11, 12, 13, 14, 15, 16, 17, 18, 19, 20, 21, 22, 23, 24, 25, 26, 27, 28, 29, 30, 31, 32, 33, 34], [0, 1, 2, 3, 4, 5, 6, 7, 8, 9, 10, 11, 12, 13, 14, 15, 16, 17, 18, 19, 20, 21, 22, 23, 24, 25, 26, 27, 28, 29, 30, 31, 32, 33, 34, 35], [0, 1, 2, 3, 4, 5, 6, 7, 8, 9, 10, 11, 12, 13, 14, 15, 16, 17, 18, 19, 20, 21, 22, 23, 24, 25, 26, 27, 28, 29, 30, 31, 32, 33, 34, 35, 36], [0, 1, 2, 3, 4, 5, 6, 7, 8, 9, 10, 11, 12, 13, 14, 15, 16, 17, 18, 19, 20, 21, 22, 23, 24, 25, 26, 27, 28, 29, 30, 31, 32, 33, 34, 35, 36, 37], [0, 1, 2, 3, 4, 5, 6, 7, 8, 9, 10, 11, 12, 13, 14, 15, 16, 17, 18, 19, 20, 21, 22, 23, 24, 25, 26, 27, 28, 29, 30, 31, 32, 33, 34, 35, 36, 37], [0, 1, 2, 3, 4, 5, 6, 7, 8, 9, 10, 11, 12, 13, 14, 15, 16, 17, 18, 19, 20, 21, 22, 23, 24, 25, 26, 27, 28, 29, 30, 31, 32, 33, 34, 35, 36, 37, 38, 39], [0, 1, 2, 3, 4, 5, 6, 7, 8, 9, 10, 11, 12, 13, 14, 15, 16, 17, 18, 19, 20, 21, 22, 23, 24, 25, 26, 27, 28, 29, 30, 31, 32, 33, 34, 35, 36, 37], [0, 1, 2, 3, 4, 5, 6, 7, 8, 9, 10, 11, 12, 13, 14, 15, 16, 17, 18, 19, 20, 21, 22, 23, 24, 25, 26, 27, 28, 29, 30, 31, 32, 33, 34, 35, 36, 37, 38, 39, 40, 41], [0, 1, 2, 3, 4, 5, 6, 7, 8, 9, 10, 11, 12, 13, 14, 15, 16, 17, 18, 19, 20, 21, 22, 23, 24, 25, 26, 27, 28, 29, 30, 31, 32, 33, 34, 35, 36, 37, 38, 39, 40, 41, 42], [0, 1, 2, 3, 4, 5, 6, 7, 8, 9, 10, 11, 12, 13, 14, 15, 16, 17, 18, 19, 20, 21, 22, 23, 24, 25, 26, 27, 28, 29, 30, 31, 32, 33, 34, 35, 36, 37, 38, 39, 40, 41, 42, 43]]) (J := [[], [0], [1], [1], [1, 2, 3], [1], [1, 4, 5], [1], [1], [1], [1, 8, 9], [1, 7, 10], [1, 6, 11], [1, 12], [13], [14], [14], [14, 15, 16], [14], [14], [14, 18, 19], [14, 17, 20], [14, 21], [22], [23], [23], [23, 24, 25], [23], [23, 26, 27], [23, 28], [29], [30], [30], [30, 31, 32], [30], [30, 33, 34], [30, 35], [36], [37], [37], [37, 38, 39], [37], [37, 40, 41], [37, 42]]) (Je := [43]) (Rs := [Is _, Is _, Is _, Is _, Is _, Is _, Is _, Is _, Is _, Is _, Is _, Is _, Is _, Is _, Is _, Is _, Is _, Is _, Is _, Is _, Is _, Is _, Is _, Is _, Is _, Is _, Is _, Is _, Is _, Is _, Is _, Is _, Is _, Is _, Is _, Is _, Is _, Is _, Is _, Is _, Is _, Is _, Is _, Is _])
          · kernel_rfl
          · kernel_rfl
          · kernel_rfl
          · kernel_rfl
          · kernel_rfl
          · kernel_rfl
          · kernel_rfl
          · exact fun h => absurd rfl h
          · intro u
            simp only [List.take_succ_cons, List.take_zero, List.map_cons, List.map_nil, fillU, List.setIfInBounds_toArray, List.set_cons_zero, List.set_cons_succ, Nat.reduceAdd]
            exact rfl
          · simp only [List.take_succ_cons, List.take_zero]
            refine ⟨fun u W hb hd K hK => ?_, ?_⟩
            · clear hd
              go_simp
              refine (CurvesE (hT.up hb0 hb)).mono ?_
              rintro e wy ⟨rfl, hby⟩
              exact hK _ _ _ rfl hby IsOut
            refine ⟨fun u W hb hd K hK => ?_, ?_⟩
            · simp only [Facts, nthR, Is, and_true] at hd
              simp only [hd] at hK ⊢
              clear hd
              go_simp
              apply hK
              · simp only [Act.put, List.setIfInBounds_toArray, List.set_cons_zero, List.set_cons_succ]
                exact rfl
              · exact Below.refl _ _
              · exact IsOut
            refine ⟨fun u W hb hd K hK => ?_, ?_⟩
            · simp only [Facts, nthR, Is, and_true] at hd
              simp only [hd] at hK ⊢
              clear hd
              rw [if_pos (by rfl)]
              refine wp_load_mid 24 (.tmp 7) rfl g7 0 rfl (ptV p12) _ (rangeAt_of_blk (bg7.below hb lg7)) Tryd.underlying24 rfl (infoPt.trans (by rw [ptV_length])) ?_
              exact hK _ _ _ rfl (Below.refl _ _) IsOut
            refine ⟨fun u W hb hd K hK => ?_, ?_⟩
            · simp only [Facts, nthR, Is, and_true] at hd
              simp only [hd] at hK ⊢
              clear hd
              rw [if_pos (by rfl)]
              refine wp_load_mid 24 (.tmp 8) rfl g8 0 rfl (ptV p14) _ (rangeAt_of_blk (bg8.below hb lg8)) Tryd.underlying24 rfl (infoPt.trans (by rw [ptV_length])) ?_
              exact hK _ _ _ rfl (Below.refl _ _) IsOut
            refine ⟨fun u W hb hd K hK => ?_, ?_⟩
            · simp only [Facts, nthR, Is, and_true] at hd
              simp only [hd] at hK ⊢
              clear hd
              go_simp
              refine (AddP (hT.up hb0 hb) (hp12) (hp14) hp27).mono ?_
              rintro e wy ⟨rfl, hby⟩
              exact hK _ _ _ rfl hby IsOut
            refine ⟨fun u W hb hd K hK => ?_, ?_⟩
            · simp only [Facts, nthR, Is, and_true] at hd
              simp only [hd] at hK ⊢
              clear hd
              rw [if_pos (by rfl)]
              refine wp_load_mid 24 (.tmp 9) rfl g9 0 rfl (ptV p16) _ (rangeAt_of_blk (bg9.below hb lg9)) Tryd.underlying24 rfl (infoPt.trans (by rw [ptV_length])) ?_
              exact hK _ _ _ rfl (Below.refl _ _) IsOut
            refine ⟨fun u W hb hd K hK => ?_, ?_⟩
            · simp only [Facts, nthR, Is, and_true] at hd
              simp only [hd] at hK ⊢
              clear hd
              go_simp
              refine (AddP (hT.up hb0 hb) (hp27) (hp16) hp29).mono ?_
              rintro e wy ⟨rfl, hby⟩
              exact hK _ _ _ rfl hby IsOut
            refine ⟨fun u W hb hd K hK => ?_, ?_⟩
            · simp only [Facts, nthR, Is, and_true] at hd
              simp only [hd] at hK ⊢
              clear hd
              rw [if_pos (by rfl)]
              refine wp_load_mid 24 (.tmp 7) rfl g7 0 rfl (ptV p12) _ (rangeAt_of_blk (bg7.below hb lg7)) Tryd.underlying24 rfl (infoPt.trans (by rw [ptV_length])) ?_
              exact hK _ _ _ rfl (Below.refl _ _) IsOut
            refine ⟨fun u W hb hd K hK => ?_, ?_⟩
            · simp only [Facts, nthR, Is, and_true] at hd
              simp only [hd] at hK ⊢
              clear hd
              rw [if_pos (by rfl)]
              refine wp_load_mid 24 (.tmp 8) rfl g8 0 rfl (ptV p14) _ (rangeAt_of_blk (bg8.below hb lg8)) Tryd.underlying24 rfl (infoPt.trans (by rw [ptV_length])) ?_
              exact hK _ _ _ rfl (Below.refl _ _) IsOut
            refine ⟨fun u W hb hd K hK => ?_, ?_⟩
            · simp only [Facts, nthR, Is, and_true] at hd
              simp only [hd] at hK ⊢
              clear hd
              rw [if_pos (by rfl)]
              refine wp_load_mid 24 (.tmp 9) rfl g9 0 rfl (ptV p16) _ (rangeAt_of_blk (bg9.below hb lg9)) Tryd.underlying24 rfl (infoPt.trans (by rw [ptV_length])) ?_
              exact hK _ _ _ rfl (Below.refl _ _) IsOut
            refine ⟨fun u W hb hd K hK => ?_, ?_⟩
            · simp only [Facts, nthR, Is, and_true] at hd
              simp only [hd] at hK ⊢
              clear hd
              go_simp
              refine (AddP (hT.up hb0 hb) (hp14) (hp16) hp33).mono ?_
              rintro e wy ⟨rfl, hby⟩
              exact hK _ _ _ rfl hby IsOut
            refine ⟨fun u W hb hd K hK => ?_, ?_⟩
            · simp only [Facts, nthR, Is, and_true] at hd
              simp only [hd] at hK ⊢
              clear hd
              go_simp
              refine (AddP (hT.up hb0 hb) (hp12) (hp33) hp34).mono ?_
              rintro e wy ⟨rfl, hby⟩
              exact hK _ _ _ rfl hby IsOut
            refine ⟨fun u W hb hd K hK => ?_, ?_⟩
            · simp only [Facts, nthR, Is, and_true] at hd
              simp only [hd] at hK ⊢
              clear hd
              rw [if_pos (by rfl)]
              refine wp_eqlA rfl rfl rfl guardPt (show (Op.equalIn 10000 24 (.agg (ptV p29).toArray) (.agg (ptV p34).toArray)).run Tryd.prog W = .ok true W from EqP (on_of (hp29)) (on_of (hp34)) (Lib.hid (decide_eq_true (E12.out))) W) ?_
              exact hK _ _ (.bool true) rfl (Below.refl _ _) IsOut
            refine ⟨fun u W hb hd K hK => ?_, ?_⟩
            · simp only [Facts, nthR, Is, and_true] at hd
              simp only [hd] at hK ⊢
              clear hd
              go_simp
              apply hK
              · simp only [Act.put, List.setIfInBounds_toArray, List.set_cons_zero, List.set_cons_succ]
                exact rfl
              · exact Below.refl _ _
              · exact IsOut
            refine ⟨fun u W hb hd K hK => ?_, ?_⟩
            · simp only [Facts, nthR, Is, and_true] at hd
              simp only [hd] at hK ⊢
              clear hd
              go_simp
              apply hK
              · simp only [Act.put, List.setIfInBounds_toArray, List.set_cons_zero, List.set_cons_succ]
                exact rfl
              · exact Below.refl _ _
              · exact IsOut
            refine ⟨fun u W hb hd K hK => ?_, ?_⟩
            · simp only [Facts, nthR, Is, and_true] at hd
              simp only [hd] at hK ⊢
              clear hd
              rw [if_pos (by rfl)]
              refine wp_load_mid 24 (.tmp 7) rfl g7 0 rfl (ptV p12) _ (rangeAt_of_blk (bg7.below hb lg7)) Tryd.underlying24 rfl (infoPt.trans (by rw [ptV_length])) ?_
              exact hK _ _ _ rfl (Below.refl _ _) IsOut
            refine ⟨fun u W hb hd K hK => ?_, ?_⟩
            · simp only [Facts, nthR, Is, and_true] at hd
              simp only [hd] at hK ⊢
              clear hd
              rw [if_pos (by rfl)]
              refine wp_load_mid 24 (.tmp 8) rfl g8 0 rfl (ptV p14) _ (rangeAt_of_blk (bg8.below hb lg8)) Tryd.underlying24 rfl (infoPt.trans (by rw [ptV_length])) ?_
              exact hK _ _ _ rfl (Below.refl _ _) IsOut
            refine ⟨fun u W hb hd K hK => ?_, ?_⟩
            · simp only [Facts, nthR, Is, and_true] at hd
              simp only [hd] at hK ⊢
              clear hd
              go_simp
              refine (AddP (hT.up hb0 hb) (hp12) (hp14) hp40).mono ?_
              rintro e wy ⟨rfl, hby⟩
              exact hK _ _ _ rfl hby IsOut
            refine ⟨fun u W hb hd K hK => ?_, ?_⟩
            · simp only [Facts, nthR, Is, and_true] at hd
              simp only [hd] at hK ⊢
              clear hd
              rw [if_pos (by rfl)]
              refine wp_load_mid 24 (.tmp 8) rfl g8 0 rfl (ptV p14) _ (rangeAt_of_blk (bg8.below hb lg8)) Tryd.underlying24 rfl (infoPt.trans (by rw [ptV_length])) ?_
              exact hK _ _ _ rfl (Below.refl _ _) IsOut
            refine ⟨fun u W hb hd K hK => ?_, ?_⟩
            · simp only [Facts, nthR, Is, and_true] at hd
              simp only [hd] at hK ⊢
              clear hd
              rw [if_pos (by rfl)]
              refine wp_load_mid 24 (.tmp 7) rfl g7 0 rfl (ptV p12) _ (rangeAt_of_blk (bg7.below hb lg7)) Tryd.underlying24 rfl (infoPt.trans (by rw [ptV_length])) ?_
              exact hK _ _ _ rfl (Below.refl _ _) IsOut
            refine ⟨fun u W hb hd K hK => ?_, ?_⟩
            · simp only [Facts, nthR, Is, and_true] at hd
              simp only [hd] at hK ⊢
              clear hd
              go_simp
              refine (AddP (hT.up hb0 hb) (hp14) (hp12) hp43).mono ?_
              rintro e wy ⟨rfl, hby⟩
              exact hK _ _ _ rfl hby IsOut
            refine ⟨fun u W hb hd K hK => ?_, ?_⟩
            · simp only [Facts, nthR, Is, and_true] at hd
              simp only [hd] at hK ⊢
              clear hd
              rw [if_pos (by rfl)]
              refine wp_eqlA rfl rfl rfl guardPt (show (Op.equalIn 10000 24 (.agg (ptV p40).toArray) (.agg (ptV p43).toArray)).run Tryd.prog W = .ok true W from EqP (on_of (hp40)) (on_of (hp43)) (Lib.hid (decide_eq_true (E21.out))) W) ?_
              exact hK _ _ (.bool true) rfl (Below.refl _ _) IsOut
            refine ⟨fun u W hb hd K hK => ?_, ?_⟩
            · simp only [Facts, nthR, Is, and_true] at hd
              simp only [hd] at hK ⊢
              clear hd
              go_simp
              apply hK
              · simp only [Act.put, List.setIfInBounds_toArray, List.set_cons_zero, List.set_cons_succ]
                exact rfl
              · exact Below.refl _ _
              · exact IsOut
            refine ⟨fun u W hb hd K hK => ?_, ?_⟩
            · simp only [Facts, nthR, Is, and_true] at hd
              simp only [hd] at hK ⊢
              clear hd
              go_simp
              apply hK
              · simp only [Act.put, List.setIfInBounds_toArray, List.set_cons_zero, List.set_cons_succ]
                exact rfl
              · exact Below.refl _ _
              · exact IsOut
            refine ⟨fun u W hb hd K hK => ?_, ?_⟩
            · simp only [Facts, nthR, Is, and_true] at hd
              simp only [hd] at hK ⊢
              clear hd
              rw [if_pos (by rfl)]
              refine wp_load_mid 24 (.tmp 7) rfl g7 0 rfl (ptV p12) _ (rangeAt_of_blk (bg7.below hb lg7)) Tryd.underlying24 rfl (infoPt.trans (by rw [ptV_length])) ?_
              exact hK _ _ _ rfl (Below.refl _ _) IsOut
            refine ⟨fun u W hb hd K hK => ?_, ?_⟩
            · simp only [Facts, nthR, Is, and_true] at hd
              simp only [hd] at hK ⊢
              clear hd
              rw [if_pos (by rfl)]
              refine wp_builtV 24 _ rfl [] rfl (ptV none).toArray builtZ ?_
              exact hK _ _ _ rfl (Below.refl _ _) IsOut
            refine ⟨fun u W hb hd K hK => ?_, ?_⟩
            · simp only [Facts, nthR, Is, and_true] at hd
              simp only [hd] at hK ⊢
              clear hd
              go_simp
              refine (AddP (hT.up hb0 hb) (hp12) ((Lib.hid rfl : Hid ((none : Pt) = mulG 0))) hp49).mono ?_
              rintro e wy ⟨rfl, hby⟩
              exact hK _ _ _ rfl hby IsOut
            refine ⟨fun u W hb hd K hK => ?_, ?_⟩
            · simp only [Facts, nthR, Is, and_true] at hd
              simp only [hd] at hK ⊢
              clear hd
              rw [if_pos (by rfl)]
              refine wp_load_mid 24 (.tmp 7) rfl g7 0 rfl (ptV p12) _ (rangeAt_of_blk (bg7.below hb lg7)) Tryd.underlying24 rfl (infoPt.trans (by rw [ptV_length])) ?_
              exact hK _ _ _ rfl (Below.refl _ _) IsOut
            refine ⟨fun u W hb hd K hK => ?_, ?_⟩
            · simp only [Facts, nthR, Is, and_true] at hd
              simp only [hd] at hK ⊢
              clear hd
              rw [if_pos (by rfl)]
              refine wp_eqlA rfl rfl rfl guardPt (show (Op.equalIn 10000 24 (.agg (ptV p49).toArray) (.agg (ptV p12).toArray)).run Tryd.prog W = .ok true W from EqP (on_of (hp49)) (on_of (hp12)) (Lib.hid (decide_eq_true (E28.out))) W) ?_
              exact hK _ _ (.bool true) rfl (Below.refl _ _) IsOut
            refine ⟨fun u W hb hd K hK => ?_, ?_⟩
            · simp only [Facts, nthR, Is, and_true] at hd
              simp only [hd] at hK ⊢
              clear hd
              go_simp
              apply hK
              · simp only [Act.put, List.setIfInBounds_toArray, List.set_cons_zero, List.set_cons_succ]
                exact rfl
              · exact Below.refl _ _
              · exact IsOut
            refine ⟨fun u W hb hd K hK => ?_, ?_⟩
            · simp only [Facts, nthR, Is, and_true] at hd
              simp only [hd] at hK ⊢
              clear hd
              go_simp
              apply hK
              · simp only [Act.put, List.setIfInBounds_toArray, List.set_cons_zero, List.set_cons_succ]
                exact rfl
              · exact Below.refl _ _
              · exact IsOut
            refine ⟨fun u W hb hd K hK => ?_, ?_⟩
            · simp only [Facts, nthR, Is, and_true] at hd
              simp only [hd] at hK ⊢
              clear hd
              rw [if_pos (by rfl)]
              refine wp_load_mid 24 (.tmp 10) rfl g10 0 rfl (ptV none) _ (rangeAt_of_blk (bg10.below hb lg10)) Tryd.underlying24 rfl (infoPt.trans (by rw [ptV_length])) ?_
              exact hK _ _ _ rfl (Below.refl _ _) IsOut
            refine ⟨fun u W hb hd K hK => ?_, ?_⟩
            · simp only [Facts, nthR, Is, and_true] at hd
              simp only [hd] at hK ⊢
              clear hd
              rw [if_pos (by rfl)]
              refine wp_load_mid 24 (.tmp 7) rfl g7 0 rfl (ptV p12) _ (rangeAt_of_blk (bg7.below hb lg7)) Tryd.underlying24 rfl (infoPt.trans (by rw [ptV_length])) ?_
              exact hK _ _ _ rfl (Below.refl _ _) IsOut
            refine ⟨fun u W hb hd K hK => ?_, ?_⟩
            · simp only [Facts, nthR, Is, and_true] at hd
              simp only [hd] at hK ⊢
              clear hd
              go_simp
              refine (AddP (hT.up hb0 hb) ((Lib.hid rfl : Hid ((none : Pt) = mulG 0))) (hp12) hp56).mono ?_
              rintro e wy ⟨rfl, hby⟩
              exact hK _ _ _ rfl hby IsOut
            refine ⟨fun u W hb hd K hK => ?_, ?_⟩
            · simp only [Facts, nthR, Is, and_true] at hd
              simp only [hd] at hK ⊢
              clear hd
              rw [if_pos (by rfl)]
              refine wp_load_mid 24 (.tmp 7) rfl g7 0 rfl (ptV p12) _ (rangeAt_of_blk (bg7.below hb lg7)) Tryd.underlying24 rfl (infoPt.trans (by rw [ptV_length])) ?_
              exact hK _ _ _ rfl (Below.refl _ _) IsOut
            refine ⟨fun u W hb hd K hK => ?_, ?_⟩
            · simp only [Facts, nthR, Is, and_true] at hd
              simp only [hd] at hK ⊢
              clear hd
              rw [if_pos (by rfl)]
              refine wp_eqlA rfl rfl rfl guardPt (show (Op.equalIn 10000 24 (.agg (ptV p56).toArray) (.agg (ptV p12).toArray)).run Tryd.prog W = .ok true W from EqP (on_of (hp56)) (on_of (hp12)) (Lib.hid (decide_eq_true (E35.out))) W) ?_
              exact hK _ _ (.bool true) rfl (Below.refl _ _) IsOut
            refine ⟨fun u W hb hd K hK => ?_, ?_⟩
            · simp only [Facts, nthR, Is, and_true] at hd
              simp only [hd] at hK ⊢
              clear hd
              go_simp
              apply hK
              · simp only [Act.put, List.setIfInBounds_toArray, List.set_cons_zero, List.set_cons_succ]
                exact rfl
              · exact Below.refl _ _
              · exact IsOut
            refine ⟨fun u W hb hd K hK => ?_, ?_⟩
            · simp only [Facts, nthR, Is, and_true] at hd
              simp only [hd] at hK ⊢
              clear hd
              go_simp
              apply hK
              · simp only [Act.put, List.setIfInBounds_toArray, List.set_cons_zero, List.set_cons_succ]
                exact rfl
              · exact Below.refl _ _
              · exact IsOut
            refine ⟨fun u W hb hd K hK => ?_, ?_⟩
            · simp only [Facts, nthR, Is, and_true] at hd
              simp only [hd] at hK ⊢
              clear hd
              rw [if_pos (by rfl)]
              refine wp_load_mid 22 (.tmp 3) rfl g3 0 rfl (A.map B8) _ (rangeAt_of_blk (bg3.below hb lg3)) Tryd.underlying22 rfl (info40.trans (by rw [List.length_map, (hA).out])) ?_
              exact hK _ _ _ rfl (Below.refl _ _) IsOut
            refine ⟨fun u W hb hd K hK => ?_, ?_⟩
            · simp only [Facts, nthR, Is, and_true] at hd
              simp only [hd] at hK ⊢
              clear hd
              rw [if_pos (by rfl)]
              refine wp_load_mid 24 (.tmp 10) rfl g10 0 rfl (ptV none) _ (rangeAt_of_blk (bg10.below hb lg10)) Tryd.underlying24 rfl (infoPt.trans (by rw [ptV_length])) ?_
              exact hK _ _ _ rfl (Below.refl _ _) IsOut
            refine ⟨fun u W hb hd K hK => ?_, ?_⟩
            · simp only [Facts, nthR, Is, and_true] at hd
              simp only [hd] at hK ⊢
              clear hd
              go_simp
              refine (TimesP (hT.up hb0 hb) (hA) (hvA) ((Lib.hid rfl : Hid ((none : Pt) = mulG 0))) hp63).mono ?_
              rintro e wy ⟨rfl, hby⟩
              exact hK _ _ _ rfl hby IsOut
            refine ⟨fun u W hb hd K hK => ?_, ?_⟩
            · simp only [Facts, nthR, Is, and_true] at hd
              simp only [hd] at hK ⊢
              clear hd
              rw [if_pos (by rfl)]
              refine wp_builtV 24 _ rfl [] rfl (ptV none).toArray builtZ ?_
              exact hK _ _ _ rfl (Below.refl _ _) IsOut
            refine ⟨fun u W hb hd K hK => ?_, ?_⟩
            · simp only [Facts, nthR, Is, and_true] at hd
              simp only [hd] at hK ⊢
              clear hd
              rw [if_pos (by rfl)]
              refine wp_eqlA rfl rfl rfl guardPt (show (Op.equalIn 10000 24 (.agg (ptV p63).toArray) (.agg (ptV none).toArray)).run Tryd.prog W = .ok true W from EqP (on_of (hp63)) (on_of ((Lib.hid rfl : Hid ((none : Pt) = mulG 0)))) (Lib.hid (decide_eq_true (E42.out))) W) ?_
              exact hK _ _ (.bool true) rfl (Below.refl _ _) IsOut
            refine ⟨fun u W hb hd K hK => ?_, ?_⟩
            · simp only [Facts, nthR, Is, and_true] at hd
              simp only [hd] at hK ⊢
              clear hd
              go_simp
              apply hK
              · simp only [Act.put, List.setIfInBounds_toArray, List.set_cons_zero, List.set_cons_succ]
                exact rfl
              · exact Below.refl _ _
              · exact IsOut
            exact trivial
          · skip
            exact trivial
          · exact (.is (.is (.is (.is (.is (.is (.is (.is (.is (.is (.is (.is (.is (.is (.is (.is (.is (.is (.is (.is (.is (.is (.is (.is (.is (.is (.is (.is (.is (.is (.is (.is (.is (.is (.is (.is (.is (.is (.is (.is (.is (.is (.is (.is .nil))))))))))))))))))))))))))))))))))))))))))))
          · intro u w14 hb hd
            simp only [List.drop_succ_cons, List.drop_zero]
            simp only [Facts, nthR, Is, and_true] at hd
            have h43 := hd
            clear hd
            simp only [h43]
            clear h43
            replace bg3 := bg3.below hb lg3
            replace bg4 := bg4.below hb lg4
            replace bg5 := bg5.below hb lg5
            replace bg7 := bg7.below hb lg7
            replace bg8 := bg8.below hb lg8
            replace bg9 := bg9.below hb lg9
            replace bg10 := bg10.below hb lg10
            replace hb0 := hb0.trans (hb.mono hb0.size)
            replace lg3 := bg3.lt
            replace lg4 := bg4.lt
            replace lg5 := bg5.lt
            replace lg7 := bg7.lt
            replace lg8 := bg8.lt
            replace lg9 := bg9.lt
            replace lg10 := bg10.lt
            clear hb
            go_wp2_with (fail)
            refine bodyPost_ret (results_tmp Tryd.results6 _ _ _) rfl ?_
            exact ⟨rfl, hb0⟩
theorem curveGroup_any (A B D : List UInt8) (w : World) (hT : TabsC w) (hA : Hid (A.length = 32)) (hB : Hid (B.length = 32)) (hD : Hid (D.length = 32)) : Calls Tryd.prog 6 #[.agg (A.map B8).toArray, .agg (B.map B8).toArray, .agg (D.map B8).toArray] w fun e w' => e = .returned (.bool true) ∧ Below w.heap.size w w' := by
  cases h : onB A B with
  | false => exact curveGroup_0 A B D w hT hA hB hD (Lib.hid h)
  | true => exact curveGroup_1 A B D w hT hA hB hD (Lib.hid h)
end Go.Proofs.YtnkikhnllnbhfaaDoor
