/-
  CurveTimes's walk.
-/
import Derived.Test.YtnkikhnllnbhfaaDoorCl0
namespace Go.Proofs.YtnkikhnllnbhfaaDoor
open Go.RowKit
open CurveMath

set_option maxRecDepth 100000 in
set_option maxHeartbeats 4000000 in
theorem curveTimes_any (A B : List UInt8) (w : World) (hT : TabsC w) (hA : Hid (A.length = 32)) (hB : Hid (B.length = 32)) : Calls Tryd.prog 5 #[.agg (A.map B8).toArray, .agg (B.map B8).toArray] w fun e w' => e = .returned (.bool true) ∧ Below w.heap.size w w' := by
  go_enter Tryd.func5, Tryd.ntmps5
  have hb0 : Below w.heap.size w w := Below.refl _ _
  obtain ⟨va, hva⟩ : ∃ s, Hid ((ofTo A 32).val = s) := ⟨_, Lib.hid rfl⟩
  obtain ⟨vb, hvb⟩ : ∃ s, Hid ((ofTo B 32).val = s) := ⟨_, Lib.hid rfl⟩
  go_upto_region 0 with (fail)
  refine wp_region_lit ?_
  refine wpList_box_blk rfl 22 (.tmp 0) rfl (A.map B8) rfl ?_
  intro g2 w1 hg bg2 hb
  have og2 := Lib.hid (show w.heap.size ≤ g2 from Nat.le_trans hb0.size (Nat.le_of_eq hg.symm))
  clear hg
  replace hb0 := hb0.trans (hb.mono hb0.size)
  clear hb
  have lg2 := bg2.lt
  try simp only [Act.put, List.setIfInBounds_toArray, List.set_cons_zero, List.set_cons_succ]
  refine wpList_box_blk rfl 22 (.tmp 1) rfl (B.map B8) rfl ?_
  intro g3 w2 hg bg3 hb
  have og3 := Lib.hid (show w.heap.size ≤ g3 ∧ g2 < g3 from ⟨Nat.le_trans hb0.size (Nat.le_of_eq hg.symm), Nat.lt_of_lt_of_le lg2 (Nat.le_of_eq hg.symm)⟩)
  clear hg
  replace bg2 := bg2.below hb lg2
  replace hb0 := hb0.trans (hb.mono hb0.size)
  replace lg2 := bg2.lt
  clear hb
  have lg3 := bg3.lt
  try simp only [Act.put, List.setIfInBounds_toArray, List.set_cons_zero, List.set_cons_succ]
  go_upto_region 1 with (fail)
  obtain ⟨p10, hp10⟩ : ∃ s : Pt, Hid (s = mulG (1)) := ⟨_, Lib.hid rfl⟩
  apply wp_plain_once (m := 1) (J := [[]]) (Je := [0]) (Rs := [Is _])
  · kernel_rfl
  · kernel_rfl
  · intro u
    simp only [List.take_succ_cons, List.take_zero, List.map_cons, List.map_nil, fillU, List.setIfInBounds_toArray, List.set_cons_zero, List.set_cons_succ]
    exact rfl
  · simp only [List.take_succ_cons, List.take_zero]
    refine ⟨fun u W hb hd K hK => ?_, ?_⟩
    · clear hd
      go_simp
      refine (BaseP (hT.up hb0 hb) hp10).mono ?_
      rintro e wy ⟨rfl, hby⟩
      exact hK _ _ _ rfl hby IsOut
    exact trivial
  · exact (.is .nil)
  · intro u w3 hb hd
    simp only [List.drop_succ_cons, List.drop_zero]
    simp only [Facts, nthR, Is, and_true] at hd
    have h0 := hd
    clear hd
    simp only [h0]
    clear h0
    replace bg2 := bg2.below hb lg2
    replace bg3 := bg3.below hb lg3
    replace hb0 := hb0.trans (hb.mono hb0.size)
    replace lg2 := bg2.lt
    replace lg3 := bg3.lt
    clear hb
    refine wpList_new_blk rfl 24 rfl (ptV none) zeroPt ?_
    intro g5 w4 hg bg5 hb
    have og5 := Lib.hid (show w.heap.size ≤ g5 ∧ g2 < g5 ∧ g3 < g5 from ⟨Nat.le_trans hb0.size (Nat.le_of_eq hg.symm), Nat.lt_of_lt_of_le lg2 (Nat.le_of_eq hg.symm), Nat.lt_of_lt_of_le lg3 (Nat.le_of_eq hg.symm)⟩)
    clear hg
    replace bg2 := bg2.below hb lg2
    replace bg3 := bg3.below hb lg3
    replace hb0 := hb0.trans (hb.mono hb0.size)
    replace lg2 := bg2.lt
    replace lg3 := bg3.lt
    clear hb
    have lg5 := bg5.lt
    try simp only [Act.put, List.setIfInBounds_toArray, List.set_cons_zero, List.set_cons_succ]
    refine wpList_store_blk rfl 24 (.tmp 5) (.tmp 10) rfl rfl g5 (ptV p10) rfl rfl _ _ bg5 (infoPt.trans (by rw [ptV_length])) (by first | with_reducible rfl | rw [ptV_length, ptV_length] | rw [ptV_length]) (onePv _) ?_
    intro w5 bn hgs
    replace bg2 := bg2.grown hgs (fun e => Nat.ne_of_lt og5.out.2.1 (Option.some.inj e))
    replace bg3 := bg3.grown hgs (fun e => Nat.ne_of_lt og5.out.2.2 (Option.some.inj e))
    replace hb0 := below_new hb0 hgs og5.out.1 hb0.size
    clear hgs bg5
    have bg5 := bn
    clear bn
    replace lg2 := bg2.lt
    replace lg3 := bg3.lt
    replace lg5 := bg5.lt
    try simp only [Act.put]
    go_upto_region 2 with (fail)
    apply wp_plain_once (m := 1) (J := [[]]) (Je := [0]) (Rs := [Is _])
    · kernel_rfl
    · kernel_rfl
    · intro u
      simp only [List.take_succ_cons, List.take_zero, List.map_cons, List.map_nil, fillU, List.setIfInBounds_toArray, List.set_cons_zero, List.set_cons_succ]
      exact rfl
    · simp only [List.take_succ_cons, List.take_zero]
      refine ⟨fun u W hb hd K hK => ?_, ?_⟩
      · clear hd
        go_simp
        refine (rN _).mono ?_
        rintro e wy ⟨rfl, hby⟩
        exact hK _ _ _ rfl hby IsOut
      exact trivial
    · exact (.is .nil)
    · intro u w6 hb hd
      simp only [List.drop_succ_cons, List.drop_zero]
      simp only [Facts, nthR, Is, and_true] at hd
      have h0 := hd
      clear hd
      simp only [h0]
      clear h0
      replace bg2 := bg2.below hb lg2
      replace bg3 := bg3.below hb lg3
      replace bg5 := bg5.below hb lg5
      replace hb0 := hb0.trans (hb.mono hb0.size)
      replace lg2 := bg2.lt
      replace lg3 := bg3.lt
      replace lg5 := bg5.lt
      clear hb
      refine wpList_new_blk rfl 29 rfl (nC zeroP) zeroN4 ?_
      intro g6 w7 hg bg6 hb
      have og6 := Lib.hid (show w.heap.size ≤ g6 ∧ g2 < g6 ∧ g3 < g6 ∧ g5 < g6 from ⟨Nat.le_trans hb0.size (Nat.le_of_eq hg.symm), Nat.lt_of_lt_of_le lg2 (Nat.le_of_eq hg.symm), Nat.lt_of_lt_of_le lg3 (Nat.le_of_eq hg.symm), Nat.lt_of_lt_of_le lg5 (Nat.le_of_eq hg.symm)⟩)
      clear hg
      replace bg2 := bg2.below hb lg2
      replace bg3 := bg3.below hb lg3
      replace bg5 := bg5.below hb lg5
      replace hb0 := hb0.trans (hb.mono hb0.size)
      replace lg2 := bg2.lt
      replace lg3 := bg3.lt
      replace lg5 := bg5.lt
      clear hb
      have lg6 := bg6.lt
      try simp only [Act.put, List.setIfInBounds_toArray, List.set_cons_zero, List.set_cons_succ]
      refine wpList_store_blk rfl 29 (.tmp 6) (.tmp 11) rfl rfl g6 (nC orderP) rfl rfl _ _ bg6 (infoN6.trans (by rw [nC_length])) (by first | with_reducible rfl | rw [nC_length, nC_length] | rw [nC_length]) (one4 _) ?_
      intro w8 bn hgs
      replace bg2 := bg2.grown hgs (fun e => Nat.ne_of_lt og6.out.2.1 (Option.some.inj e))
      replace bg3 := bg3.grown hgs (fun e => Nat.ne_of_lt og6.out.2.2.1 (Option.some.inj e))
      replace bg5 := bg5.grown hgs (fun e => Nat.ne_of_lt og6.out.2.2.2 (Option.some.inj e))
      replace hb0 := below_new hb0 hgs og6.out.1 hb0.size
      clear hgs bg6
      have bg6 := bn
      clear bn
      replace lg2 := bg2.lt
      replace lg3 := bg3.lt
      replace lg5 := bg5.lt
      replace lg6 := bg6.lt
      try simp only [Act.put]
      go_upto_region 3 with (fail)
      obtain ⟨n13, hn13⟩ : ∃ s : P4, Hid (ofTo A 32 = s) := ⟨_, Lib.hid rfl⟩
      obtain ⟨n15, hn15⟩ : ∃ s : P4, Hid (ofTo B 32 = s) := ⟨_, Lib.hid rfl⟩
      obtain ⟨n17, hn17⟩ : ∃ s : P4, Hid (s = redP orderP (n13.val + n15.val)) := ⟨_, Lib.hid rfl⟩
      obtain ⟨B18, hB18⟩ : ∃ s : List UInt8, Hid (bsTo n17 32 = s) := ⟨_, Lib.hid rfl⟩
      apply wp_region_once_tail (m := 8) (Z := []) (D := [[], [0], [], [0, 1, 2], [], [0, 1, 2, 3, 4], [0, 1, 2, 3, 4, 5], [], [0, 1, 2, 3, 4, 5, 6, 7]]) (J := [[], [0], [], [2], [], [1, 3, 4], [5], []]) (Je := [6, 7]) (Rs := [Is _, Is _, Is _, Is _, Is _, Is _, Is _, fun v V => ∃ g', v = .pointer (some ⟨g', 0, none⟩) ∧ w8.heap.size ≤ g' ∧ Blk V g' 22 (zero32.map B8)])
      · kernel_rfl
      · kernel_rfl
      · kernel_rfl
      · kernel_rfl
      · kernel_rfl
      · kernel_rfl
      · kernel_rfl
      · exact fun h => absurd rfl h
      · intro u
        simp only [List.take_succ_cons, List.take_zero, List.map_cons, List.map_nil, fillU, List.setIfInBounds_toArray, List.set_cons_zero, List.set_cons_succ, Nat.reduceAdd]
        exact rfl
      · simp only [List.take_succ_cons, List.take_zero]
        refine ⟨fun u W hb hd K hK => ?_, ?_⟩
        · clear hd
          rw [if_pos (by rfl)]
          refine wp_load_mid 22 (.tmp 2) rfl g2 0 rfl (A.map B8) _ (rangeAt_of_blk (bg2.below hb lg2)) Tryd.underlying22 rfl (info40.trans (by rw [List.length_map, (hA).out])) ?_
          exact hK _ _ _ rfl (Below.refl _ _) IsOut
        refine ⟨fun u W hb hd K hK => ?_, ?_⟩
        · simp only [Facts, nthR, Is, and_true] at hd
          simp only [hd] at hK ⊢
          clear hd
          go_simp
          refine (ROf hn13 (hA) _).mono ?_
          rintro e wy ⟨rfl, hby⟩
          exact hK _ _ _ rfl hby IsOut
        refine ⟨fun u W hb hd K hK => ?_, ?_⟩
        · clear hd
          rw [if_pos (by rfl)]
          refine wp_load_mid 22 (.tmp 3) rfl g3 0 rfl (B.map B8) _ (rangeAt_of_blk (bg3.below hb lg3)) Tryd.underlying22 rfl (info40.trans (by rw [List.length_map, (hB).out])) ?_
          exact hK _ _ _ rfl (Below.refl _ _) IsOut
        refine ⟨fun u W hb hd K hK => ?_, ?_⟩
        · simp only [Facts, nthR, Is, and_true] at hd
          simp only [hd] at hK ⊢
          clear hd
          go_simp
          refine (ROf hn15 (hB) _).mono ?_
          rintro e wy ⟨rfl, hby⟩
          exact hK _ _ _ rfl hby IsOut
        refine ⟨fun u W hb hd K hK => ?_, ?_⟩
        · clear hd
          rw [if_pos (by rfl)]
          refine wp_load_mid 29 (.tmp 6) rfl g6 0 rfl (nC orderP) _ (rangeAt_of_blk (bg6.below hb lg6)) Tryd.underlying29 rfl (infoN6.trans (by rw [nC_length])) ?_
          exact hK _ _ _ rfl (Below.refl _ _) IsOut
        refine ⟨fun u W hb hd K hK => ?_, ?_⟩
        · simp only [Facts, nthR, Is, and_true] at hd
          simp only [hd] at hK ⊢
          clear hd
          go_simp
          refine (RAddN (ok_of hn13) (ok_of hn15) (Lib.hid orderP_ok) hn17 (by decide) _).mono ?_
          rintro e wy ⟨rfl, hby⟩
          exact hK _ _ _ rfl hby IsOut
        refine ⟨fun u W hb hd K hK => ?_, ?_⟩
        · simp only [Facts, nthR, Is, and_true] at hd
          simp only [hd] at hK ⊢
          clear hd
          go_simp
          refine (RBytes hB18 _).mono ?_
          rintro e wy ⟨rfl, hby⟩
          exact hK _ _ _ rfl hby IsOut
        refine ⟨fun u W hb hd K hK => ?_, ?_⟩
        · clear hd
          go_simp
          apply hK
          · simp only [Act.put, List.setIfInBounds_toArray, List.set_cons_zero, List.set_cons_succ]
            exact rfl
          · exact (Below.refl _ _).alloc (Nat.le_refl _) _
          · exact ⟨_, rfl, hb.size, Blk.new_of _ _ _ _ rfl⟩
        exact trivial
      · skip
        exact trivial
      · exact (.is (.is (.is (.is (.is (.is (.is (.cons (fun v V V' ⟨g', h1, h2, h3⟩ hb => ⟨g', h1, h2, h3.below hb h3.lt⟩) .nil))))))))
      · intro u w9 hb hd
        simp only [List.drop_succ_cons, List.drop_zero]
        simp only [Facts, nthR, Is, and_true] at hd
        obtain ⟨h6, ⟨g7, h7, hng7, bg7⟩⟩ := hd
        have og7 := Lib.hid (show w.heap.size ≤ g7 ∧ g2 < g7 ∧ g3 < g7 ∧ g5 < g7 ∧ g6 < g7 from ⟨Nat.le_trans hb0.size hng7, Nat.lt_of_lt_of_le lg2 hng7, Nat.lt_of_lt_of_le lg3 hng7, Nat.lt_of_lt_of_le lg5 hng7, Nat.lt_of_lt_of_le lg6 hng7⟩)
        simp only [h6, h7]
        clear h6 h7
        replace bg2 := bg2.below hb lg2
        replace bg3 := bg3.below hb lg3
        replace bg5 := bg5.below hb lg5
        replace bg6 := bg6.below hb lg6
        replace hb0 := hb0.trans (hb.mono hb0.size)
        replace lg2 := bg2.lt
        replace lg3 := bg3.lt
        replace lg5 := bg5.lt
        replace lg6 := bg6.lt
        clear hb
        have lg7 := bg7.lt
        clear hng7
        refine wpList_store_blk rfl 22 (.tmp 7) (.tmp 18) rfl rfl g7 (B18.map B8) rfl rfl _ _ bg7 (info40.trans (by rw [List.length_map, (bytes_len hB18).out])) (by first | with_reducible rfl | rw [List.length_map, ((Lib.hid (by decide) : Hid (zero32.length = 32))).out, List.length_map, (bytes_len hB18).out] | rw [List.length_map, ((Lib.hid (by decide) : Hid (zero32.length = 32))).out]) (one8 _) ?_
        intro w10 bn hgs
        replace bg2 := bg2.grown hgs (fun e => Nat.ne_of_lt og7.out.2.1 (Option.some.inj e))
        replace bg3 := bg3.grown hgs (fun e => Nat.ne_of_lt og7.out.2.2.1 (Option.some.inj e))
        replace bg5 := bg5.grown hgs (fun e => Nat.ne_of_lt og7.out.2.2.2.1 (Option.some.inj e))
        replace bg6 := bg6.grown hgs (fun e => Nat.ne_of_lt og7.out.2.2.2.2 (Option.some.inj e))
        replace hb0 := below_new hb0 hgs og7.out.1 hb0.size
        clear hgs bg7
        have bg7 := bn
        clear bn
        replace lg2 := bg2.lt
        replace lg3 := bg3.lt
        replace lg5 := bg5.lt
        replace lg6 := bg6.lt
        replace lg7 := bg7.lt
        try simp only [Act.put]
        go_upto_region 4 with (fail)
        obtain ⟨n20, hn20⟩ : ∃ s : P4, Hid (ofTo A 32 = s) := ⟨_, Lib.hid rfl⟩
        obtain ⟨n22, hn22⟩ : ∃ s : P4, Hid (s = redP orderP n20.val) := ⟨_, Lib.hid rfl⟩
        obtain ⟨B23, hB23⟩ : ∃ s : List UInt8, Hid (bsTo n22 32 = s) := ⟨_, Lib.hid rfl⟩
        apply wp_region_once_tail (m := 6) (Z := []) (D := [[], [0], [], [0, 1, 2], [0, 1, 2, 3], [], [0, 1, 2, 3, 4, 5]]) (J := [[], [0], [], [1, 2], [3], []]) (Je := [4, 5]) (Rs := [Is _, Is _, Is _, Is _, Is _, fun v V => ∃ g', v = .pointer (some ⟨g', 0, none⟩) ∧ w10.heap.size ≤ g' ∧ Blk V g' 22 (zero32.map B8)])
        · kernel_rfl
        · kernel_rfl
        · kernel_rfl
        · kernel_rfl
        · kernel_rfl
        · kernel_rfl
        · kernel_rfl
        · exact fun h => absurd rfl h
        · intro u
          simp only [List.take_succ_cons, List.take_zero, List.map_cons, List.map_nil, fillU, List.setIfInBounds_toArray, List.set_cons_zero, List.set_cons_succ, Nat.reduceAdd]
          exact rfl
        · simp only [List.take_succ_cons, List.take_zero]
          refine ⟨fun u W hb hd K hK => ?_, ?_⟩
          · clear hd
            rw [if_pos (by rfl)]
            refine wp_load_mid 22 (.tmp 2) rfl g2 0 rfl (A.map B8) _ (rangeAt_of_blk (bg2.below hb lg2)) Tryd.underlying22 rfl (info40.trans (by rw [List.length_map, (hA).out])) ?_
            exact hK _ _ _ rfl (Below.refl _ _) IsOut
          refine ⟨fun u W hb hd K hK => ?_, ?_⟩
          · simp only [Facts, nthR, Is, and_true] at hd
            simp only [hd] at hK ⊢
            clear hd
            go_simp
            refine (ROf hn20 (hA) _).mono ?_
            rintro e wy ⟨rfl, hby⟩
            exact hK _ _ _ rfl hby IsOut
          refine ⟨fun u W hb hd K hK => ?_, ?_⟩
          · clear hd
            rw [if_pos (by rfl)]
            refine wp_load_mid 29 (.tmp 6) rfl g6 0 rfl (nC orderP) _ (rangeAt_of_blk (bg6.below hb lg6)) Tryd.underlying29 rfl (infoN6.trans (by rw [nC_length])) ?_
            exact hK _ _ _ rfl (Below.refl _ _) IsOut
          refine ⟨fun u W hb hd K hK => ?_, ?_⟩
          · simp only [Facts, nthR, Is, and_true] at hd
            simp only [hd] at hK ⊢
            clear hd
            go_simp
            refine (RRestN (ok_of hn20) (Lib.hid orderP_ok) hn22 (by decide) _).mono ?_
            rintro e wy ⟨rfl, hby⟩
            exact hK _ _ _ rfl hby IsOut
          refine ⟨fun u W hb hd K hK => ?_, ?_⟩
          · simp only [Facts, nthR, Is, and_true] at hd
            simp only [hd] at hK ⊢
            clear hd
            go_simp
            refine (RBytes hB23 _).mono ?_
            rintro e wy ⟨rfl, hby⟩
            exact hK _ _ _ rfl hby IsOut
          refine ⟨fun u W hb hd K hK => ?_, ?_⟩
          · clear hd
            go_simp
            apply hK
            · simp only [Act.put, List.setIfInBounds_toArray, List.set_cons_zero, List.set_cons_succ]
              exact rfl
            · exact (Below.refl _ _).alloc (Nat.le_refl _) _
            · exact ⟨_, rfl, hb.size, Blk.new_of _ _ _ _ rfl⟩
          exact trivial
        · skip
          exact trivial
        · exact (.is (.is (.is (.is (.is (.cons (fun v V V' ⟨g', h1, h2, h3⟩ hb => ⟨g', h1, h2, h3.below hb h3.lt⟩) .nil))))))
        · intro u w11 hb hd
          simp only [List.drop_succ_cons, List.drop_zero]
          simp only [Facts, nthR, Is, and_true] at hd
          obtain ⟨h4, ⟨g8, h5, hng8, bg8⟩⟩ := hd
          have og8 := Lib.hid (show w.heap.size ≤ g8 ∧ g2 < g8 ∧ g3 < g8 ∧ g5 < g8 ∧ g6 < g8 ∧ g7 < g8 from ⟨Nat.le_trans hb0.size hng8, Nat.lt_of_lt_of_le lg2 hng8, Nat.lt_of_lt_of_le lg3 hng8, Nat.lt_of_lt_of_le lg5 hng8, Nat.lt_of_lt_of_le lg6 hng8, Nat.lt_of_lt_of_le lg7 hng8⟩)
          simp only [h4, h5]
          clear h4 h5
          replace bg2 := bg2.below hb lg2
          replace bg3 := bg3.below hb lg3
          replace bg5 := bg5.below hb lg5
          replace bg6 := bg6.below hb lg6
          replace bg7 := bg7.below hb lg7
          replace hb0 := hb0.trans (hb.mono hb0.size)
          replace lg2 := bg2.lt
          replace lg3 := bg3.lt
          replace lg5 := bg5.lt
          replace lg6 := bg6.lt
          replace lg7 := bg7.lt
          clear hb
          have lg8 := bg8.lt
          clear hng8
          refine wpList_store_blk rfl 22 (.tmp 8) (.tmp 23) rfl rfl g8 (B23.map B8) rfl rfl _ _ bg8 (info40.trans (by rw [List.length_map, (bytes_len hB23).out])) (by first | with_reducible rfl | rw [List.length_map, ((Lib.hid (by decide) : Hid (zero32.length = 32))).out, List.length_map, (bytes_len hB23).out] | rw [List.length_map, ((Lib.hid (by decide) : Hid (zero32.length = 32))).out]) (one8 _) ?_
          intro w12 bn hgs
          replace bg2 := bg2.grown hgs (fun e => Nat.ne_of_lt og8.out.2.1 (Option.some.inj e))
          replace bg3 := bg3.grown hgs (fun e => Nat.ne_of_lt og8.out.2.2.1 (Option.some.inj e))
          replace bg5 := bg5.grown hgs (fun e => Nat.ne_of_lt og8.out.2.2.2.1 (Option.some.inj e))
          replace bg6 := bg6.grown hgs (fun e => Nat.ne_of_lt og8.out.2.2.2.2.1 (Option.some.inj e))
          replace bg7 := bg7.grown hgs (fun e => Nat.ne_of_lt og8.out.2.2.2.2.2 (Option.some.inj e))
          replace hb0 := below_new hb0 hgs og8.out.1 hb0.size
          clear hgs bg8
          have bg8 := bn
          clear bn
          replace lg2 := bg2.lt
          replace lg3 := bg3.lt
          replace lg5 := bg5.lt
          replace lg6 := bg6.lt
          replace lg7 := bg7.lt
          replace lg8 := bg8.lt
          try simp only [Act.put]
          go_upto_region 5 with (fail)
          obtain ⟨p25, hp25⟩ : ∃ s : Pt, Hid (s = mulG (va)) := ⟨_, Lib.hid rfl⟩
          apply wp_plain_once (m := 2) (J := [[], [0]]) (Je := [1]) (Rs := [Is _, Is _])
          · kernel_rfl
          · kernel_rfl
          · intro u
            simp only [List.take_succ_cons, List.take_zero, List.map_cons, List.map_nil, fillU, List.setIfInBounds_toArray, List.set_cons_zero, List.set_cons_succ, Nat.reduceAdd]
            exact rfl
          · simp only [List.take_succ_cons, List.take_zero]
            refine ⟨fun u W hb hd K hK => ?_, ?_⟩
            · clear hd
              rw [if_pos (by rfl)]
              refine wp_load_mid 22 (.tmp 2) rfl g2 0 rfl (A.map B8) _ (rangeAt_of_blk (bg2.below hb lg2)) Tryd.underlying22 rfl (info40.trans (by rw [List.length_map, (hA).out])) ?_
              exact hK _ _ _ rfl (Below.refl _ _) IsOut
            refine ⟨fun u W hb hd K hK => ?_, ?_⟩
            · simp only [Facts, nthR, Is, and_true] at hd
              simp only [hd] at hK ⊢
              clear hd
              go_simp
              refine (OfE (hT.up hb0 hb) (hA) (hva) hp25).mono ?_
              rintro e wy ⟨rfl, hby⟩
              exact hK _ _ _ rfl hby IsOut
            exact trivial
          · exact (.is (.is .nil))
          · intro u w13 hb hd
            simp only [List.drop_succ_cons, List.drop_zero]
            simp only [Facts, nthR, Is, and_true] at hd
            have h1 := hd
            clear hd
            simp only [h1]
            clear h1
            replace bg2 := bg2.below hb lg2
            replace bg3 := bg3.below hb lg3
            replace bg5 := bg5.below hb lg5
            replace bg6 := bg6.below hb lg6
            replace bg7 := bg7.below hb lg7
            replace bg8 := bg8.below hb lg8
            replace hb0 := hb0.trans (hb.mono hb0.size)
            replace lg2 := bg2.lt
            replace lg3 := bg3.lt
            replace lg5 := bg5.lt
            replace lg6 := bg6.lt
            replace lg7 := bg7.lt
            replace lg8 := bg8.lt
            clear hb
            refine wpList_new_blk rfl 24 rfl (ptV none) zeroPt ?_
            intro g9 w14 hg bg9 hb
            have og9 := Lib.hid (show w.heap.size ≤ g9 ∧ g2 < g9 ∧ g3 < g9 ∧ g5 < g9 ∧ g6 < g9 ∧ g7 < g9 ∧ g8 < g9 from ⟨Nat.le_trans hb0.size (Nat.le_of_eq hg.symm), Nat.lt_of_lt_of_le lg2 (Nat.le_of_eq hg.symm), Nat.lt_of_lt_of_le lg3 (Nat.le_of_eq hg.symm), Nat.lt_of_lt_of_le lg5 (Nat.le_of_eq hg.symm), Nat.lt_of_lt_of_le lg6 (Nat.le_of_eq hg.symm), Nat.lt_of_lt_of_le lg7 (Nat.le_of_eq hg.symm), Nat.lt_of_lt_of_le lg8 (Nat.le_of_eq hg.symm)⟩)
            clear hg
            replace bg2 := bg2.below hb lg2
            replace bg3 := bg3.below hb lg3
            replace bg5 := bg5.below hb lg5
            replace bg6 := bg6.below hb lg6
            replace bg7 := bg7.below hb lg7
            replace bg8 := bg8.below hb lg8
            replace hb0 := hb0.trans (hb.mono hb0.size)
            replace lg2 := bg2.lt
            replace lg3 := bg3.lt
            replace lg5 := bg5.lt
            replace lg6 := bg6.lt
            replace lg7 := bg7.lt
            replace lg8 := bg8.lt
            clear hb
            have lg9 := bg9.lt
            try simp only [Act.put, List.setIfInBounds_toArray, List.set_cons_zero, List.set_cons_succ]
            refine wpList_store_blk rfl 24 (.tmp 9) (.tmp 25) rfl rfl g9 (ptV p25) rfl rfl _ _ bg9 (infoPt.trans (by rw [ptV_length])) (by first | with_reducible rfl | rw [ptV_length, ptV_length] | rw [ptV_length]) (onePv _) ?_
            intro w15 bn hgs
            replace bg2 := bg2.grown hgs (fun e => Nat.ne_of_lt og9.out.2.1 (Option.some.inj e))
            replace bg3 := bg3.grown hgs (fun e => Nat.ne_of_lt og9.out.2.2.1 (Option.some.inj e))
            replace bg5 := bg5.grown hgs (fun e => Nat.ne_of_lt og9.out.2.2.2.1 (Option.some.inj e))
            replace bg6 := bg6.grown hgs (fun e => Nat.ne_of_lt og9.out.2.2.2.2.1 (Option.some.inj e))
            replace bg7 := bg7.grown hgs (fun e => Nat.ne_of_lt og9.out.2.2.2.2.2.1 (Option.some.inj e))
            replace bg8 := bg8.grown hgs (fun e => Nat.ne_of_lt og9.out.2.2.2.2.2.2 (Option.some.inj e))
            replace hb0 := below_new hb0 hgs og9.out.1 hb0.size
            clear hgs bg9
            have bg9 := bn
            clear bn
            replace lg2 := bg2.lt
            replace lg3 := bg3.lt
            replace lg5 := bg5.lt
            replace lg6 := bg6.lt
            replace lg7 := bg7.lt
            replace lg8 := bg8.lt
            replace lg9 := bg9.lt
            try simp only [Act.put]
            go_upto_region 6 with (fail)
            obtain ⟨p33, hp33⟩ : ∃ s : Pt, Hid (s = mulG (n22.val)) := ⟨_, Lib.hid rfl⟩
            obtain ⟨p40, hp40⟩ : ∃ s : Pt, Hid (s = mulG (vb)) := ⟨_, Lib.hid rfl⟩
            obtain ⟨p41, hp41⟩ : ∃ s : Pt, Hid (s = mulG (va + vb)) := ⟨_, Lib.hid rfl⟩
            obtain ⟨p43, hp43⟩ : ∃ s : Pt, Hid (s = mulG (n17.val)) := ⟨_, Lib.hid rfl⟩
            obtain ⟨p49, hp49⟩ : ∃ s : Pt, Hid (s = mulG (vb * va)) := ⟨_, Lib.hid rfl⟩
            obtain ⟨p52, hp52⟩ : ∃ s : Pt, Hid (s = mulG (vb)) := ⟨_, Lib.hid rfl⟩
            obtain ⟨p53, hp53⟩ : ∃ s : Pt, Hid (s = mulG (va * vb)) := ⟨_, Lib.hid rfl⟩
            obtain ⟨p59, hp59⟩ : ∃ s : Pt, Hid (s = mulG (va + 1)) := ⟨_, Lib.hid rfl⟩
            obtain ⟨n61, hn61⟩ : ∃ s : P4, Hid (ofTo A 32 = s) := ⟨_, Lib.hid rfl⟩
            obtain ⟨n64, hn64⟩ : ∃ s : P4, Hid (s = redP orderP (n61.val + oneP.val)) := ⟨_, Lib.hid rfl⟩
            obtain ⟨B65, hB65⟩ : ∃ s : List UInt8, Hid (bsTo n64 32 = s) := ⟨_, Lib.hid rfl⟩
            obtain ⟨p66, hp66⟩ : ∃ s : Pt, Hid (s = mulG (n64.val)) := ⟨_, Lib.hid rfl⟩
            have E9 := Lib.hid (show p33 = p25 by rw [hp33.out, hp25.out, red_order hn22, mulG_mod, ← hva.out, hn20.out])
            have E18 := Lib.hid (show p41 = p43 by rw [hp41.out, hp43.out, red_order hn17, mulG_mod, ← hva.out, ← hvb.out, hn13.out, hn15.out])
            have E28 := Lib.hid (show p49 = p53 by rw [hp49.out, hp53.out, Nat.mul_comm])
            have E41 := Lib.hid (show p59 = p66 by rw [hp59.out, hp66.out, red_order hn64, mulG_mod, ← hva.out, hn61.out]; rfl)
            apply wp_region_once_tail (m := 43) (Z := []) (D := [[], [0], [0, 1], [0, 1, 2], [0, 1, 2, 3], [0, 1, 2, 3, 4], [0, 1, 2, 3, 4, 5], [0, 1, 2, 3, 4, 5, 6], [0, 1, 2, 3, 4, 5], [0, 1, 2, 3, 4, 5, 6, 7, 8], [0, 1, 2, 3, 4, 5, 6, 7, 8, 9], [0, 1, 2, 3, 4, 5, 6, 7, 8, 9, 10], [0, 1, 2, 3, 4, 5, 6, 7, 8, 9, 10, 11], [0, 1, 2, 3, 4, 5, 6, 7, 8, 9, 10, 11], [0, 1, 2, 3, 4, 5, 6, 7, 8, 9, 10, 11, 13], [0, 1, 2, 3, 4, 5, 6, 7, 8, 9, 10, 11, 12, 13, 14], [0, 1, 2, 3, 4, 5, 6, 7, 8, 9, 10, 11], [0, 1, 2, 3, 4, 5, 6, 7, 8, 9, 10, 11, 12, 13, 14, 15, 16], [0, 1, 2, 3, 4, 5, 6, 7, 8, 9, 10, 11, 12, 13, 14, 15, 16, 17], [0, 1, 2, 3, 4, 5, 6, 7, 8, 9, 10, 11, 12, 13, 14, 15, 16, 17, 18], [0, 1, 2, 3, 4, 5, 6, 7, 8, 9, 10, 11, 12, 13, 14, 15, 16, 17, 18, 19], [0, 1, 2, 3, 4, 5, 6, 7, 8, 9, 10, 11, 12, 13, 14, 15, 16, 17, 18, 19, 20], [0, 1, 2, 3, 4, 5, 6, 7, 8, 9, 10, 11, 12, 13, 14, 15, 16, 17, 18, 19, 20], [0, 1, 2, 3, 4, 5, 6, 7, 8, 9, 10, 11, 12, 13, 14, 15, 16, 17, 18, 19, 20, 21, 22], [0, 1, 2, 3, 4, 5, 6, 7, 8, 9, 10, 11, 12, 13, 14, 15, 16, 17, 18, 19, 20], [0, 1, 2, 3, 4, 5, 6, 7, 8, 9, 10, 11, 12, 13, 14, 15, 16, 17, 18, 19, 20], [0, 1, 2, 3, 4, 5, 6, 7, 8, 9, 10, 11, 12, 13, 14, 15, 16, 17, 18, 19, 20, 21, 22, 23, 25], [0, 1, 2, 3, 4, 5, 6, 7, 8, 9, 10, 11, 12, 13, 14, 15, 16, 17, 18, 19, 20, 21, 22, 23, 24, 25, 26], [0, 1, 2, 3, 4, 5, 6, 7, 8, 9, 10, 11, 12, 13, 14, 15, 16, 17, 18, 19, 20, 21, 22, 23, 24, 25, 26, 27], [0, 1, 2, 3, 4, 5, 6, 7, 8, 9, 10, 11, 12, 13, 14, 15, 16, 17, 18, 19, 20, 21, 22, 23, 24, 25, 26, 27, 28], [0, 1, 2, 3, 4, 5, 6, 7, 8, 9, 10, 11, 12, 13, 14, 15, 16, 17, 18, 19, 20, 21, 22, 23, 24, 25, 26, 27, 28, 29], [0, 1, 2, 3, 4, 5, 6, 7, 8, 9, 10, 11, 12, 13, 14, 15, 16, 17, 18, 19, 20, 21, 22, 23, 24, 25, 26, 27, 28, 29, 30], [0, 1, 2, 3, 4, 5, 6, 7, 8, 9, 10, 11, 12, 13, 14, 15, 16, 17, 18, 19, 20, 21, 22, 23, 24, 25, 26, 27, 28, 29, 30], [0, 1, 2, 3, 4, 5, 6, 7, 8, 9, 10, 11, 12, 13, 14, 15, 16, 17, 18, 19, 20, 21, 22, 23, 24, 25, 26, 27, 28, 29, 30, 31, 32], [0, 1, 2, 3, 4, 5, 6, 7, 8, 9, 10, 11, 12, 13, 14, 15, 16, 17, 18, 19, 20, 21, 22, 23, 24, 25, 26, 27, 28, 29, 30], [0, 1, 2, 3, 4, 5, 6, 7, 8, 9, 10, 11, 12, 13, 14, 15, 16, 17, 18, 19, 20, 21, 22, 23, 24, 25, 26, 27, 28, 29, 30, 31, 32, 33, 34], [0, 1, 2, 3, 4, 5, 6, 7, 8, 9, 10, 11, 12, 13, 14, 15, 16, 17, 18, 19, 20, 21, 22, 23, 24, 25, 26, 27, 28, 29, 30], [0, 1, 2, 3, 4, 5, 6, 7, 8, 9, 10, 11, 12, 13, 14, 15, 16, 17, 18, 19, 20, 21, 22, 23, 24, 25, 26, 27, 28, 29, 30], [0, 1, 2, 3, 4, 5, 6, 7, 8, 9, 10, 11, 12, 13, 14, 15, 16, 17, 18, 19, 20, 21, 22, 23, 24, 25, 26, 27, 28, 29, 30, 31, 32, 33, 34, 35, 36, 37], [0, 1, 2, 3, 4, 5, 6, 7, 8, 9, 10, 11, 12, 13, 14, 15, 16, 17, 18, 19, 20, 21, 22, 23, 24, 25, 26, 27, 28, 29, 30, 31, 32, 33, 34, 35, 36, 37, 38], [0, 1, 2, 3, 4, 5, 6, 7, 8, 9, 10, 11, 12, 13, 14, 15, 16, 17, 18, 19, 20, 21, 22, 23, 24, 25, 26, 27, 28, 29, 30, 31, 32, 33, 34, 35, 36, 37, 38, 39], [0, 1, 2, 3, 4, 5, 6, 7, 8, 9, 10, 11, 12, 13, 14, 15, 16, 17, 18, 19, 20, 21, 22, 23, 24, 25, 26, 27, 28, 29, 30, 31, 32, 33, 34, 35, 36, 37, 38, 39, 40], [0, 1, 2, 3, 4, 5, 6, 7, 8, 9, 10, 11, 12, 13, 14, 15, 16, 17, 18, 19, 20, 21, 22, 23, 24, 25, 26, 27, 28, 29, 30, 31, 32, 33, 34, 35, 36, 37, 38, 39, 40, 41], [0, 1, 2, 3, 4, 5, 6, 7, 8, 9, 10, 11, 12, 13, 14, 15, 16, 17, 18, 19, 20, 21, 22, 23, 24, 25, 26, 27, 28, 29, 30, 31, 32, 33, 34, 35, 36, 37, 38, 39, 40, 41, 42]]) (J := [[], [0], [1], [1, 2], [1, 3], [4], [5], [5, 6], [5], [5, 7, 8], [5, 9], [10], [11], [11], [11, 13], [11, 12, 14], [11], [11, 16], [11, 15, 17], [11, 18], [19], [20], [20], [20, 21, 22], [20], [20], [20, 25], [20, 24, 26], [20, 23, 27], [20, 28], [29], [30], [30], [30, 31, 32], [30], [30, 34], [30], [30], [30, 35, 36, 37], [30, 38], [30, 39], [30, 33, 40], [30, 41]]) (Je := [42]) (Rs := [Is _, Is _, Is _, Is _, Is _, Is _, Is _, Is _, Is _, Is _, Is _, Is _, Is _, Is _, Is _, Is _, Is _, Is _, Is _, Is _, Is _, Is _, Is _, Is _, Is _, Is _, Is _, Is _, Is _, Is _, Is _, Is _, Is _, Is _, Is _, Is _, Is _, Is _, Is _, Is _, Is _, Is _, Is _])
            · kernel_rfl
            · kernel_rfl
            · kernel_rfl
            · kernel_rfl
            · kernel_rfl
            · kernel_rfl
            · kernel_rfl
            · exact fun h => absurd rfl h
            · intro u
              simp only [List.take_succ_cons, List.take_zero, List.map_cons, List.map_nil, fillU, List.setIfInBounds_toArray, List.set_cons_zero, List.set_cons_succ, Nat.reduceAdd]
              exact rfl
            · simp only [List.take_succ_cons, List.take_zero]
              refine ⟨fun u W hb hd K hK => ?_, ?_⟩
              · clear hd
                go_simp
                refine (CurvesE (hT.up hb0 hb)).mono ?_
                rintro e wy ⟨rfl, hby⟩
                exact hK _ _ _ rfl hby IsOut
              refine ⟨fun u W hb hd K hK => ?_, ?_⟩
              · simp only [Facts, nthR, Is, and_true] at hd
                simp only [hd] at hK ⊢
                clear hd
                go_simp
                apply hK
                · simp only [Act.put, List.setIfInBounds_toArray, List.set_cons_zero, List.set_cons_succ]
                  exact rfl
                · exact Below.refl _ _
                · exact IsOut
              refine ⟨fun u W hb hd K hK => ?_, ?_⟩
              · simp only [Facts, nthR, Is, and_true] at hd
                simp only [hd] at hK ⊢
                clear hd
                rw [if_pos (by rfl)]
                refine wp_load_mid 24 (.tmp 9) rfl g9 0 rfl (ptV p25) _ (rangeAt_of_blk (bg9.below hb lg9)) Tryd.underlying24 rfl (infoPt.trans (by rw [ptV_length])) ?_
                exact hK _ _ _ rfl (Below.refl _ _) IsOut
              refine ⟨fun u W hb hd K hK => ?_, ?_⟩
              · simp only [Facts, nthR, Is, and_true] at hd
                simp only [hd] at hK ⊢
                clear hd
                go_simp
                refine (OnP (hT.up hb0 hb) (hp25)).mono ?_
                rintro e wy ⟨rfl, hby⟩
                exact hK _ _ _ rfl hby IsOut
              refine ⟨fun u W hb hd K hK => ?_, ?_⟩
              · simp only [Facts, nthR, Is, and_true] at hd
                simp only [hd] at hK ⊢
                clear hd
                go_simp
                apply hK
                · simp only [Act.put, List.setIfInBounds_toArray, List.set_cons_zero, List.set_cons_succ]
                  exact rfl
                · exact Below.refl _ _
                · exact IsOut
              refine ⟨fun u W hb hd K hK => ?_, ?_⟩
              · simp only [Facts, nthR, Is, and_true] at hd
                simp only [hd] at hK ⊢
                clear hd
                go_simp
                apply hK
                · simp only [Act.put, List.setIfInBounds_toArray, List.set_cons_zero, List.set_cons_succ]
                  exact rfl
                · exact Below.refl _ _
                · exact IsOut
              refine ⟨fun u W hb hd K hK => ?_, ?_⟩
              · simp only [Facts, nthR, Is, and_true] at hd
                simp only [hd] at hK ⊢
                clear hd
                rw [if_pos (by rfl)]
                refine wp_load_mid 22 (.tmp 8) rfl g8 0 rfl (B23.map B8) _ (rangeAt_of_blk (bg8.below hb lg8)) Tryd.underlying22 rfl (info40.trans (by rw [List.length_map, (bytes_len hB23).out])) ?_
                exact hK _ _ _ rfl (Below.refl _ _) IsOut
              refine ⟨fun u W hb hd K hK => ?_, ?_⟩
              · simp only [Facts, nthR, Is, and_true] at hd
                simp only [hd] at hK ⊢
                clear hd
                go_simp
                refine (OfE (hT.up hb0 hb) (bytes_len hB23) (bytes_val hB23 (ok_red hn22) rfl) hp33).mono ?_
                rintro e wy ⟨rfl, hby⟩
                exact hK _ _ _ rfl hby IsOut
              refine ⟨fun u W hb hd K hK => ?_, ?_⟩
              · simp only [Facts, nthR, Is, and_true] at hd
                simp only [hd] at hK ⊢
                clear hd
                rw [if_pos (by rfl)]
                refine wp_load_mid 24 (.tmp 9) rfl g9 0 rfl (ptV p25) _ (rangeAt_of_blk (bg9.below hb lg9)) Tryd.underlying24 rfl (infoPt.trans (by rw [ptV_length])) ?_
                exact hK _ _ _ rfl (Below.refl _ _) IsOut
              refine ⟨fun u W hb hd K hK => ?_, ?_⟩
              · simp only [Facts, nthR, Is, and_true] at hd
                simp only [hd] at hK ⊢
                clear hd
                rw [if_pos (by rfl)]
                refine wp_eqlA rfl rfl rfl guardPt (show (Op.equalIn 10000 24 (.agg (ptV p33).toArray) (.agg (ptV p25).toArray)).run Tryd.prog W = .ok true W from EqP (on_of (hp33)) (on_of (hp25)) (Lib.hid (decide_eq_true (E9.out))) W) ?_
                exact hK _ _ (.bool true) rfl (Below.refl _ _) IsOut
              refine ⟨fun u W hb hd K hK => ?_, ?_⟩
              · simp only [Facts, nthR, Is, and_true] at hd
                simp only [hd] at hK ⊢
                clear hd
                go_simp
                apply hK
                · simp only [Act.put, List.setIfInBounds_toArray, List.set_cons_zero, List.set_cons_succ]
                  exact rfl
                · exact Below.refl _ _
                · exact IsOut
              refine ⟨fun u W hb hd K hK => ?_, ?_⟩
              · simp only [Facts, nthR, Is, and_true] at hd
                simp only [hd] at hK ⊢
                clear hd
                go_simp
                apply hK
                · simp only [Act.put, List.setIfInBounds_toArray, List.set_cons_zero, List.set_cons_succ]
                  exact rfl
                · exact Below.refl _ _
                · exact IsOut
              refine ⟨fun u W hb hd K hK => ?_, ?_⟩
              · simp only [Facts, nthR, Is, and_true] at hd
                simp only [hd] at hK ⊢
                clear hd
                rw [if_pos (by rfl)]
                refine wp_load_mid 24 (.tmp 9) rfl g9 0 rfl (ptV p25) _ (rangeAt_of_blk (bg9.below hb lg9)) Tryd.underlying24 rfl (infoPt.trans (by rw [ptV_length])) ?_
                exact hK _ _ _ rfl (Below.refl _ _) IsOut
              refine ⟨fun u W hb hd K hK => ?_, ?_⟩
              · simp only [Facts, nthR, Is, and_true] at hd
                simp only [hd] at hK ⊢
                clear hd
                rw [if_pos (by rfl)]
                refine wp_load_mid 22 (.tmp 3) rfl g3 0 rfl (B.map B8) _ (rangeAt_of_blk (bg3.below hb lg3)) Tryd.underlying22 rfl (info40.trans (by rw [List.length_map, (hB).out])) ?_
                exact hK _ _ _ rfl (Below.refl _ _) IsOut
              refine ⟨fun u W hb hd K hK => ?_, ?_⟩
              · simp only [Facts, nthR, Is, and_true] at hd
                simp only [hd] at hK ⊢
                clear hd
                go_simp
                refine (OfE (hT.up hb0 hb) (hB) (hvb) hp40).mono ?_
                rintro e wy ⟨rfl, hby⟩
                exact hK _ _ _ rfl hby IsOut
              refine ⟨fun u W hb hd K hK => ?_, ?_⟩
              · simp only [Facts, nthR, Is, and_true] at hd
                simp only [hd] at hK ⊢
                clear hd
                go_simp
                refine (AddP (hT.up hb0 hb) (hp25) (hp40) hp41).mono ?_
                rintro e wy ⟨rfl, hby⟩
                exact hK _ _ _ rfl hby IsOut
              refine ⟨fun u W hb hd K hK => ?_, ?_⟩
              · simp only [Facts, nthR, Is, and_true] at hd
                simp only [hd] at hK ⊢
                clear hd
                rw [if_pos (by rfl)]
                refine wp_load_mid 22 (.tmp 7) rfl g7 0 rfl (B18.map B8) _ (rangeAt_of_blk (bg7.below hb lg7)) Tryd.underlying22 rfl (info40.trans (by rw [List.length_map, (bytes_len hB18).out])) ?_
                exact hK _ _ _ rfl (Below.refl _ _) IsOut
              refine ⟨fun u W hb hd K hK => ?_, ?_⟩
              · simp only [Facts, nthR, Is, and_true] at hd
                simp only [hd] at hK ⊢
                clear hd
                go_simp
                refine (OfE (hT.up hb0 hb) (bytes_len hB18) (bytes_val hB18 (ok_red hn17) rfl) hp43).mono ?_
                rintro e wy ⟨rfl, hby⟩
                exact hK _ _ _ rfl hby IsOut
              refine ⟨fun u W hb hd K hK => ?_, ?_⟩
              · simp only [Facts, nthR, Is, and_true] at hd
                simp only [hd] at hK ⊢
                clear hd
                rw [if_pos (by rfl)]
                refine wp_eqlA rfl rfl rfl guardPt (show (Op.equalIn 10000 24 (.agg (ptV p41).toArray) (.agg (ptV p43).toArray)).run Tryd.prog W = .ok true W from EqP (on_of (hp41)) (on_of (hp43)) (Lib.hid (decide_eq_true (E18.out))) W) ?_
                exact hK _ _ (.bool true) rfl (Below.refl _ _) IsOut
              refine ⟨fun u W hb hd K hK => ?_, ?_⟩
              · simp only [Facts, nthR, Is, and_true] at hd
                simp only [hd] at hK ⊢
                clear hd
                go_simp
                apply hK
                · simp only [Act.put, List.setIfInBounds_toArray, List.set_cons_zero, List.set_cons_succ]
                  exact rfl
                · exact Below.refl _ _
                · exact IsOut
              refine ⟨fun u W hb hd K hK => ?_, ?_⟩
              · simp only [Facts, nthR, Is, and_true] at hd
                simp only [hd] at hK ⊢
                clear hd
                go_simp
                apply hK
                · simp only [Act.put, List.setIfInBounds_toArray, List.set_cons_zero, List.set_cons_succ]
                  exact rfl
                · exact Below.refl _ _
                · exact IsOut
              refine ⟨fun u W hb hd K hK => ?_, ?_⟩
              · simp only [Facts, nthR, Is, and_true] at hd
                simp only [hd] at hK ⊢
                clear hd
                rw [if_pos (by rfl)]
                refine wp_load_mid 22 (.tmp 3) rfl g3 0 rfl (B.map B8) _ (rangeAt_of_blk (bg3.below hb lg3)) Tryd.underlying22 rfl (info40.trans (by rw [List.length_map, (hB).out])) ?_
                exact hK _ _ _ rfl (Below.refl _ _) IsOut
              refine ⟨fun u W hb hd K hK => ?_, ?_⟩
              · simp only [Facts, nthR, Is, and_true] at hd
                simp only [hd] at hK ⊢
                clear hd
                rw [if_pos (by rfl)]
                refine wp_load_mid 24 (.tmp 9) rfl g9 0 rfl (ptV p25) _ (rangeAt_of_blk (bg9.below hb lg9)) Tryd.underlying24 rfl (infoPt.trans (by rw [ptV_length])) ?_
                exact hK _ _ _ rfl (Below.refl _ _) IsOut
              refine ⟨fun u W hb hd K hK => ?_, ?_⟩
              · simp only [Facts, nthR, Is, and_true] at hd
                simp only [hd] at hK ⊢
                clear hd
                go_simp
                refine (TimesP (hT.up hb0 hb) (hB) (hvb) (hp25) hp49).mono ?_
                rintro e wy ⟨rfl, hby⟩
                exact hK _ _ _ rfl hby IsOut
              refine ⟨fun u W hb hd K hK => ?_, ?_⟩
              · simp only [Facts, nthR, Is, and_true] at hd
                simp only [hd] at hK ⊢
                clear hd
                rw [if_pos (by rfl)]
                refine wp_load_mid 22 (.tmp 2) rfl g2 0 rfl (A.map B8) _ (rangeAt_of_blk (bg2.below hb lg2)) Tryd.underlying22 rfl (info40.trans (by rw [List.length_map, (hA).out])) ?_
                exact hK _ _ _ rfl (Below.refl _ _) IsOut
              refine ⟨fun u W hb hd K hK => ?_, ?_⟩
              · simp only [Facts, nthR, Is, and_true] at hd
                simp only [hd] at hK ⊢
                clear hd
                rw [if_pos (by rfl)]
                refine wp_load_mid 22 (.tmp 3) rfl g3 0 rfl (B.map B8) _ (rangeAt_of_blk (bg3.below hb lg3)) Tryd.underlying22 rfl (info40.trans (by rw [List.length_map, (hB).out])) ?_
                exact hK _ _ _ rfl (Below.refl _ _) IsOut
              refine ⟨fun u W hb hd K hK => ?_, ?_⟩
              · simp only [Facts, nthR, Is, and_true] at hd
                simp only [hd] at hK ⊢
                clear hd
                go_simp
                refine (OfE (hT.up hb0 hb) (hB) (hvb) hp52).mono ?_
                rintro e wy ⟨rfl, hby⟩
                exact hK _ _ _ rfl hby IsOut
              refine ⟨fun u W hb hd K hK => ?_, ?_⟩
              · simp only [Facts, nthR, Is, and_true] at hd
                simp only [hd] at hK ⊢
                clear hd
                go_simp
                refine (TimesP (hT.up hb0 hb) (hA) (hva) (hp52) hp53).mono ?_
                rintro e wy ⟨rfl, hby⟩
                exact hK _ _ _ rfl hby IsOut
              refine ⟨fun u W hb hd K hK => ?_, ?_⟩
              · simp only [Facts, nthR, Is, and_true] at hd
                simp only [hd] at hK ⊢
                clear hd
                rw [if_pos (by rfl)]
                refine wp_eqlA rfl rfl rfl guardPt (show (Op.equalIn 10000 24 (.agg (ptV p49).toArray) (.agg (ptV p53).toArray)).run Tryd.prog W = .ok true W from EqP (on_of (hp49)) (on_of (hp53)) (Lib.hid (decide_eq_true (E28.out))) W) ?_
                exact hK _ _ (.bool true) rfl (Below.refl _ _) IsOut
              refine ⟨fun u W hb hd K hK => ?_, ?_⟩
              · simp only [Facts, nthR, Is, and_true] at hd
                simp only [hd] at hK ⊢
                clear hd
                go_simp
                apply hK
                · simp only [Act.put, List.setIfInBounds_toArray, List.set_cons_zero, List.set_cons_succ]
                  exact rfl
                · exact Below.refl _ _
                · exact IsOut
              refine ⟨fun u W hb hd K hK => ?_, ?_⟩
              · simp only [Facts, nthR, Is, and_true] at hd
                simp only [hd] at hK ⊢
                clear hd
                go_simp
                apply hK
                · simp only [Act.put, List.setIfInBounds_toArray, List.set_cons_zero, List.set_cons_succ]
                  exact rfl
                · exact Below.refl _ _
                · exact IsOut
              refine ⟨fun u W hb hd K hK => ?_, ?_⟩
              · simp only [Facts, nthR, Is, and_true] at hd
                simp only [hd] at hK ⊢
                clear hd
                rw [if_pos (by rfl)]
                refine wp_load_mid 24 (.tmp 9) rfl g9 0 rfl (ptV p25) _ (rangeAt_of_blk (bg9.below hb lg9)) Tryd.underlying24 rfl (infoPt.trans (by rw [ptV_length])) ?_
                exact hK _ _ _ rfl (Below.refl _ _) IsOut
              refine ⟨fun u W hb hd K hK => ?_, ?_⟩
              · simp only [Facts, nthR, Is, and_true] at hd
                simp only [hd] at hK ⊢
                clear hd
                rw [if_pos (by rfl)]
                refine wp_load_mid 24 (.tmp 5) rfl g5 0 rfl (ptV p10) _ (rangeAt_of_blk (bg5.below hb lg5)) Tryd.underlying24 rfl (infoPt.trans (by rw [ptV_length])) ?_
                exact hK _ _ _ rfl (Below.refl _ _) IsOut
              refine ⟨fun u W hb hd K hK => ?_, ?_⟩
              · simp only [Facts, nthR, Is, and_true] at hd
                simp only [hd] at hK ⊢
                clear hd
                go_simp
                refine (AddP (hT.up hb0 hb) (hp25) (hp10) hp59).mono ?_
                rintro e wy ⟨rfl, hby⟩
                exact hK _ _ _ rfl hby IsOut
              refine ⟨fun u W hb hd K hK => ?_, ?_⟩
              · simp only [Facts, nthR, Is, and_true] at hd
                simp only [hd] at hK ⊢
                clear hd
                rw [if_pos (by rfl)]
                refine wp_load_mid 22 (.tmp 2) rfl g2 0 rfl (A.map B8) _ (rangeAt_of_blk (bg2.below hb lg2)) Tryd.underlying22 rfl (info40.trans (by rw [List.length_map, (hA).out])) ?_
                exact hK _ _ _ rfl (Below.refl _ _) IsOut
              refine ⟨fun u W hb hd K hK => ?_, ?_⟩
              · simp only [Facts, nthR, Is, and_true] at hd
                simp only [hd] at hK ⊢
                clear hd
                go_simp
                refine (ROf hn61 (hA) _).mono ?_
                rintro e wy ⟨rfl, hby⟩
                exact hK _ _ _ rfl hby IsOut
              refine ⟨fun u W hb hd K hK => ?_, ?_⟩
              · simp only [Facts, nthR, Is, and_true] at hd
                simp only [hd] at hK ⊢
                clear hd
                rw [if_pos (by rfl)]
                refine wp_builtV 29 _ rfl [(0, .int .u64 1)] rfl (nC oneP).toArray built6_1n ?_
                exact hK _ _ _ rfl (Below.refl _ _) IsOut
              refine ⟨fun u W hb hd K hK => ?_, ?_⟩
              · simp only [Facts, nthR, Is, and_true] at hd
                simp only [hd] at hK ⊢
                clear hd
                rw [if_pos (by rfl)]
                refine wp_load_mid 29 (.tmp 6) rfl g6 0 rfl (nC orderP) _ (rangeAt_of_blk (bg6.below hb lg6)) Tryd.underlying29 rfl (infoN6.trans (by rw [nC_length])) ?_
                exact hK _ _ _ rfl (Below.refl _ _) IsOut
              refine ⟨fun u W hb hd K hK => ?_, ?_⟩
              · simp only [Facts, nthR, Is, and_true] at hd
                simp only [hd] at hK ⊢
                clear hd
                go_simp
                refine (RAddN (ok_of hn61) (Lib.hid oneP_ok) (Lib.hid orderP_ok) hn64 (by decide) _).mono ?_
                rintro e wy ⟨rfl, hby⟩
                exact hK _ _ _ rfl hby IsOut
              refine ⟨fun u W hb hd K hK => ?_, ?_⟩
              · simp only [Facts, nthR, Is, and_true] at hd
                simp only [hd] at hK ⊢
                clear hd
                go_simp
                refine (RBytes hB65 _).mono ?_
                rintro e wy ⟨rfl, hby⟩
                exact hK _ _ _ rfl hby IsOut
              refine ⟨fun u W hb hd K hK => ?_, ?_⟩
              · simp only [Facts, nthR, Is, and_true] at hd
                simp only [hd] at hK ⊢
                clear hd
                go_simp
                refine (OfE (hT.up hb0 hb) (bytes_len hB65) (bytes_val hB65 (ok_red hn64) rfl) hp66).mono ?_
                rintro e wy ⟨rfl, hby⟩
                exact hK _ _ _ rfl hby IsOut
              refine ⟨fun u W hb hd K hK => ?_, ?_⟩
              · simp only [Facts, nthR, Is, and_true] at hd
                simp only [hd] at hK ⊢
                clear hd
                rw [if_pos (by rfl)]
                refine wp_eqlA rfl rfl rfl guardPt (show (Op.equalIn 10000 24 (.agg (ptV p59).toArray) (.agg (ptV p66).toArray)).run Tryd.prog W = .ok true W from EqP (on_of (hp59)) (on_of (hp66)) (Lib.hid (decide_eq_true (E41.out))) W) ?_
                exact hK _ _ (.bool true) rfl (Below.refl _ _) IsOut
              refine ⟨fun u W hb hd K hK => ?_, ?_⟩
              · simp only [Facts, nthR, Is, and_true] at hd
                simp only [hd] at hK ⊢
                clear hd
                go_simp
                apply hK
                · simp only [Act.put, List.setIfInBounds_toArray, List.set_cons_zero, List.set_cons_succ]
                  exact rfl
                · exact Below.refl _ _
                · exact IsOut
              exact trivial
            · skip
              exact trivial
            · exact (.is (.is (.is (.is (.is (.is (.is (.is (.is (.is (.is (.is (.is (.is (.is (.is (.is (.is (.is (.is (.is (.is (.is (.is (.is (.is (.is (.is (.is (.is (.is (.is (.is (.is (.is (.is (.is (.is (.is (.is (.is (.is (.is .nil)))))))))))))))))))))))))))))))))))))))))))
            · intro u w16 hb hd
              simp only [List.drop_succ_cons, List.drop_zero]
              simp only [Facts, nthR, Is, and_true] at hd
              have h42 := hd
              clear hd
              simp only [h42]
              clear h42
              replace bg2 := bg2.below hb lg2
              replace bg3 := bg3.below hb lg3
              replace bg5 := bg5.below hb lg5
              replace bg6 := bg6.below hb lg6
              replace bg7 := bg7.below hb lg7
              replace bg8 := bg8.below hb lg8
              replace bg9 := bg9.below hb lg9
              replace hb0 := hb0.trans (hb.mono hb0.size)
              replace lg2 := bg2.lt
              replace lg3 := bg3.lt
              replace lg5 := bg5.lt
              replace lg6 := bg6.lt
              replace lg7 := bg7.lt
              replace lg8 := bg8.lt
              replace lg9 := bg9.lt
              clear hb
              go_wp2_with (fail)
              refine bodyPost_ret (results_tmp Tryd.results5 _ _ _) rfl ?_
              exact ⟨rfl, hb0⟩
end Go.Proofs.YtnkikhnllnbhfaaDoor
