/-
  CurveConstants's walk.
-/
import Derived.Test.YtnkikhnllnbhfaaDoorCl0
import Derived.Test.YtnkikhnllnbhfaaDoorCr3
namespace Go.Proofs.YtnkikhnllnbhfaaDoor
open Go.RowKit
open CurveMath

set_option maxRecDepth 100000 in
set_option maxHeartbeats 4000000 in
theorem curveConstants_any (X Y : List UInt8) (w : World) (hT : TabsC w) (hX : Hid (X.length = 32)) (hY : Hid (Y.length = 32)) : Calls Tryd.prog 3 #[.agg (X.map B8).toArray, .agg (Y.map B8).toArray] w fun e w' => e = .returned (.bool true) ∧ Below w.heap.size w w' := by
  go_enter Tryd.func3, Tryd.ntmps3
  have hb0 : Below w.heap.size w w := Below.refl _ _
  obtain ⟨ba, hba⟩ : ∃ s, Hid ((X == zero32) = s) := ⟨_, Lib.hid rfl⟩
  obtain ⟨bb, hbb⟩ : ∃ s, Hid ((Y == zero32) = s) := ⟨_, Lib.hid rfl⟩
  obtain ⟨bi, hbi⟩ : ∃ s, Hid ((ba && bb) = s) := ⟨_, Lib.hid rfl⟩
  go_upto_region 0 with (fail)
  refine wp_region_lit ?_
  refine wpList_box_blk rfl 22 (.tmp 0) rfl (X.map B8) rfl ?_
  intro g2 w1 hg bg2 hb
  have og2 := Lib.hid (show w.heap.size ≤ g2 from Nat.le_trans hb0.size (Nat.le_of_eq hg.symm))
  clear hg
  replace hb0 := hb0.trans (hb.mono hb0.size)
  clear hb
  have lg2 := bg2.lt
  try simp only [Act.put, List.setIfInBounds_toArray, List.set_cons_zero, List.set_cons_succ]
  refine wpList_box_blk rfl 22 (.tmp 1) rfl (Y.map B8) rfl ?_
  intro g3 w2 hg bg3 hb
  have og3 := Lib.hid (show w.heap.size ≤ g3 ∧ g2 < g3 from ⟨Nat.le_trans hb0.size (Nat.le_of_eq hg.symm), Nat.lt_of_lt_of_le lg2 (Nat.le_of_eq hg.symm)⟩)
  clear hg
  replace bg2 := bg2.below hb lg2
  replace hb0 := hb0.trans (hb.mono hb0.size)
  replace lg2 := bg2.lt
  clear hb
  have lg3 := bg3.lt
  try simp only [Act.put, List.setIfInBounds_toArray, List.set_cons_zero, List.set_cons_succ]
  go_upto_region 1 with (fail)
  obtain ⟨p7, hp7⟩ : ∃ s : Pt, Hid (s = mulG (1)) := ⟨_, Lib.hid rfl⟩
  apply wp_plain_once (m := 1) (J := [[]]) (Je := [0]) (Rs := [Is _])
  · kernel_rfl
  · kernel_rfl
  · intro u
    simp only [List.take_succ_cons, List.take_zero, List.map_cons, List.map_nil, fillU, List.setIfInBounds_toArray, List.set_cons_zero, List.set_cons_succ]
    exact rfl
  · simp only [List.take_succ_cons, List.take_zero]
    refine ⟨fun u W hb hd K hK => ?_, ?_⟩
    · clear hd
      go_simp
      refine (BaseP (hT.up hb0 hb) hp7).mono ?_
      rintro e wy ⟨rfl, hby⟩
      exact hK _ _ _ rfl hby IsOut
    exact trivial
  · exact (.is .nil)
  · intro u w3 hb hd
    simp only [List.drop_succ_cons, List.drop_zero]
    simp only [Facts, nthR, Is, and_true] at hd
    have h0 := hd
    clear hd
    simp only [h0]
    clear h0
    replace bg2 := bg2.below hb lg2
    replace bg3 := bg3.below hb lg3
    replace hb0 := hb0.trans (hb.mono hb0.size)
    replace lg2 := bg2.lt
    replace lg3 := bg3.lt
    clear hb
    refine wpList_new_blk rfl 24 rfl (ptV none) zeroPt ?_
    intro g5 w4 hg bg5 hb
    have og5 := Lib.hid (show w.heap.size ≤ g5 ∧ g2 < g5 ∧ g3 < g5 from ⟨Nat.le_trans hb0.size (Nat.le_of_eq hg.symm), Nat.lt_of_lt_of_le lg2 (Nat.le_of_eq hg.symm), Nat.lt_of_lt_of_le lg3 (Nat.le_of_eq hg.symm)⟩)
    clear hg
    replace bg2 := bg2.below hb lg2
    replace bg3 := bg3.below hb lg3
    replace hb0 := hb0.trans (hb.mono hb0.size)
    replace lg2 := bg2.lt
    replace lg3 := bg3.lt
    clear hb
    have lg5 := bg5.lt
    try simp only [Act.put, List.setIfInBounds_toArray, List.set_cons_zero, List.set_cons_succ]
    refine wpList_store_blk rfl 24 (.tmp 5) (.tmp 7) rfl rfl g5 (ptV p7) rfl rfl _ _ bg5 (infoPt.trans (by rw [ptV_length])) (by first | with_reducible rfl | rw [ptV_length, ptV_length] | rw [ptV_length]) (onePv _) ?_
    intro w5 bn hgs
    replace bg2 := bg2.grown hgs (fun e => Nat.ne_of_lt og5.out.2.1 (Option.some.inj e))
    replace bg3 := bg3.grown hgs (fun e => Nat.ne_of_lt og5.out.2.2 (Option.some.inj e))
    replace hb0 := below_new hb0 hgs og5.out.1 hb0.size
    clear hgs bg5
    have bg5 := bn
    clear bn
    replace lg2 := bg2.lt
    replace lg3 := bg3.lt
    replace lg5 := bg5.lt
    try simp only [Act.put]
    go_upto_region 2 with (fail)
    apply wp_plain_once (m := 8) (J := [[], [], [0, 1], [2], [3], [3], [3, 4, 5], [3, 6]]) (Je := [7]) (Rs := [Is _, Is _, Is _, Is _, Maybe ba true _, Maybe ba true _, Maybe ba true _, Is (.bool bi)])
    · kernel_rfl
    · kernel_rfl
    · intro u
      simp only [List.take_succ_cons, List.take_zero, List.map_cons, List.map_nil, fillU, List.setIfInBounds_toArray, List.set_cons_zero, List.set_cons_succ, Nat.reduceAdd]
      exact rfl
    · simp only [List.take_succ_cons, List.take_zero]
      refine ⟨fun u W hb hd K hK => ?_, ?_⟩
      · clear hd
        rw [if_pos (by rfl)]
        refine wp_load_mid 22 (.tmp 2) rfl g2 0 rfl (X.map B8) _ (rangeAt_of_blk (bg2.below hb lg2)) Tryd.underlying22 rfl (info40.trans (by rw [List.length_map, (hX).out])) ?_
        exact hK _ _ _ rfl (Below.refl _ _) IsOut
      refine ⟨fun u W hb hd K hK => ?_, ?_⟩
      · clear hd
        rw [if_pos (by rfl)]
        refine wp_builtV 22 _ rfl [] rfl (zero32.map B8).toArray built32_0 ?_
        exact hK _ _ _ rfl (Below.refl _ _) IsOut
      refine ⟨fun u W hb hd K hK => ?_, ?_⟩
      · simp only [Facts, nthR, Is, and_true] at hd
        simp only [hd] at hK ⊢
        clear hd
        rw [if_pos (by rfl)]
        refine wp_eqlA rfl rfl rfl guardB32 (show (Op.equalIn 10000 22 (.agg (X.map B8).toArray) (.agg (zero32.map B8).toArray)).run Tryd.prog W = .ok ba W from EqB hX (Lib.hid zero32_length) hba W) ?_
        exact hK _ _ (.bool ba) rfl (Below.refl _ _) IsOut
      refine ⟨fun u W hb hd K hK => ?_, ?_⟩
      · simp only [Facts, nthR, Is, and_true] at hd
        simp only [hd] at hK ⊢
        clear hd
        go_simp
        apply hK
        · simp only [Act.put, List.setIfInBounds_toArray, List.set_cons_zero, List.set_cons_succ]
          exact rfl
        · exact Below.refl _ _
        · exact IsOut
      refine ⟨fun u W hb hd K hK => ?_, ?_⟩
      · simp only [Facts, nthR, Is, and_true] at hd
        have h3 := hd
        by_cases hc : ba = true
        · simp only [h3, hc] at hK ⊢
          rw [if_pos (by rfl)]
          refine wp_load_mid 22 (.tmp 3) rfl g3 0 rfl (Y.map B8) _ (rangeAt_of_blk (bg3.below hb lg3)) Tryd.underlying22 rfl (info40.trans (by rw [List.length_map, (hY).out])) ?_
          exact hK _ _ _ rfl (Below.refl _ _) fun _ => IsOut (w := W)
        · have hc' : ba = false := by cases ba <;> simp_all
          simp only [h3, hc'] at hK ⊢
          go_simp
          apply hK
          · simp only [Act.put, List.setIfInBounds_toArray, List.set_cons_zero, List.set_cons_succ]
            exact rfl
          · exact Below.refl _ _
          · exact fun h => by cases h
      refine ⟨fun u W hb hd K hK => ?_, ?_⟩
      · simp only [Facts, nthR, Is, and_true] at hd
        have h3 := hd
        by_cases hc : ba = true
        · simp only [h3, hc] at hK ⊢
          rw [if_pos (by rfl)]
          refine wp_builtV 22 _ rfl [] rfl (zero32.map B8).toArray built32_0 ?_
          exact hK _ _ _ rfl (Below.refl _ _) fun _ => IsOut (w := W)
        · have hc' : ba = false := by cases ba <;> simp_all
          simp only [h3, hc'] at hK ⊢
          go_simp
          apply hK
          · simp only [Act.put, List.setIfInBounds_toArray, List.set_cons_zero, List.set_cons_succ]
            exact rfl
          · exact Below.refl _ _
          · exact fun h => by cases h
      refine ⟨fun u W hb hd K hK => ?_, ?_⟩
      · simp only [Facts, nthR, Is, and_true] at hd
        obtain ⟨h3, h4, h5⟩ := hd
        by_cases hc : ba = true
        · replace h4 := h4 hc
          replace h5 := h5 hc
          simp only [h3, h4, h5, hc] at hK ⊢
          rw [if_pos (by rfl)]
          refine wp_eqlA rfl rfl rfl guardB32 (show (Op.equalIn 10000 22 (.agg (Y.map B8).toArray) (.agg (zero32.map B8).toArray)).run Tryd.prog W = .ok bb W from EqB hY (Lib.hid zero32_length) hbb W) ?_
          exact hK _ _ (.bool bb) rfl (Below.refl _ _) fun _ => IsOut (w := W)
        · have hc' : ba = false := by cases ba <;> simp_all
          simp only [h3, hc'] at hK ⊢
          go_simp
          apply hK
          · simp only [Act.put, List.setIfInBounds_toArray, List.set_cons_zero, List.set_cons_succ]
            exact rfl
          · exact Below.refl _ _
          · exact fun h => by cases h
      refine ⟨fun u W hb hd K hK => ?_, ?_⟩
      · simp only [Facts, nthR, Is, and_true] at hd
        obtain ⟨h3, h6⟩ := hd
        by_cases hc : ba = true
        · replace h6 := h6 hc
          simp only [h3, h6, hc] at hK ⊢
          go_simp
          apply hK
          · simp only [Act.put, List.setIfInBounds_toArray, List.set_cons_zero, List.set_cons_succ]
            exact rfl
          · exact Below.refl _ _
          · exact (by have hz := hbi.out; rw [hc, Bool.true_and] at hz; rw [← hz]; exact IsOut)
        · have hc' : ba = false := by cases ba <;> simp_all
          simp only [h3, hc'] at hK ⊢
          go_simp
          apply hK
          · simp only [Act.put, List.setIfInBounds_toArray, List.set_cons_zero, List.set_cons_succ]
            exact rfl
          · exact Below.refl _ _
          · exact (by have hz := hbi.out; rw [hc', Bool.false_and] at hz; rw [← hz]; exact IsOut)
      exact trivial
    · exact (.is (.is (.is (.is (.cons (fun _ _ _ h _ => h) (.cons (fun _ _ _ h _ => h) (.cons (fun _ _ _ h _ => h) (.cons (fun _ _ _ h _ => h) .nil))))))))
    · intro u w6 hb hd
      simp only [List.drop_succ_cons, List.drop_zero]
      simp only [Facts, nthR, Is, and_true] at hd
      have h7 := hd
      clear hd
      simp only [h7]
      clear h7
      replace bg2 := bg2.below hb lg2
      replace bg3 := bg3.below hb lg3
      replace bg5 := bg5.below hb lg5
      replace hb0 := hb0.trans (hb.mono hb0.size)
      replace lg2 := bg2.lt
      replace lg3 := bg3.lt
      replace lg5 := bg5.lt
      clear hb
      go_upto_region 3 with (fail)
      obtain ⟨B21, hB21⟩ : ∃ s : List UInt8, Hid (bsTo (pK gx) 32 = s) := ⟨_, Lib.hid rfl⟩
      obtain ⟨B28, hB28⟩ : ∃ s : List UInt8, Hid (bsTo (pK gy) 32 = s) := ⟨_, Lib.hid rfl⟩
      obtain ⟨B34, hB34⟩ : ∃ s : List UInt8, Hid (bsTo orderP 32 = s) := ⟨_, Lib.hid rfl⟩
      obtain ⟨n45, hn45⟩ : ∃ s : P4, Hid (ofTo X 32 = s) := ⟨_, Lib.hid rfl⟩
      obtain ⟨n47, hn47⟩ : ∃ s : P4, Hid (ofTo Y 32 = s) := ⟨_, Lib.hid rfl⟩
      have E6 := Lib.hid (show xB p7 = B21 by rw [← hB21.out, hp7.out, g_one]; rfl)
      have E13 := Lib.hid (show yB p7 = B28 by rw [← hB28.out, hp7.out, g_one]; rfl)
      have E19 := Lib.hid (show orderB = B34 by rw [← hB34.out]; rfl)
      obtain ⟨bn, hbn⟩ : ∃ s, Hid (onN n45 n47 = s) := ⟨_, Lib.hid rfl⟩
      obtain ⟨bo, hbo⟩ : ∃ s, Hid ((bi || bn) = s) := ⟨_, Lib.hid rfl⟩
      have hOn : Hid (onB X Y = bo) := Lib.hid (by rw [← hbo.out, ← hbi.out, ← hba.out, ← hbb.out, ← hbn.out, ← hn45.out, ← hn47.out]; rfl)
      apply wp_region_once_tail (m := 36) (Z := []) (D := [[], [0], [0, 1], [0, 1, 2], [0, 1], [0, 1, 4], [0, 1, 2, 3, 4, 5], [0, 1, 2, 3, 4, 5, 6], [0, 1, 2, 3, 4, 5, 6, 7], [0, 1, 2, 3, 4, 5, 6, 7, 8], [0, 1, 2, 3, 4, 5, 6, 7, 8, 9], [0, 1, 2, 3, 4, 5, 6, 7, 8], [0, 1, 2, 3, 4, 5, 6, 7, 8, 11], [0, 1, 2, 3, 4, 5, 6, 7, 8, 9, 10, 11, 12], [0, 1, 2, 3, 4, 5, 6, 7, 8, 9, 10, 11, 12, 13], [0, 1, 2, 3, 4, 5, 6, 7, 8, 9, 10, 11, 12, 13, 14], [0, 1, 2, 3, 4, 5, 6, 7, 8, 9, 10, 11, 12, 13, 14, 15], [0, 1, 2, 3, 4, 5, 6, 7, 8, 9, 10, 11, 12, 13, 14, 15, 16], [0, 1, 2, 3, 4, 5, 6, 7, 8, 9, 10, 11, 12, 13, 14, 15, 16, 17], [0, 1, 2, 3, 4, 5, 6, 7, 8, 9, 10, 11, 12, 13, 14, 15, 16, 17, 18], [0, 1, 2, 3, 4, 5, 6, 7, 8, 9, 10, 11, 12, 13, 14, 15, 16, 17, 18, 19], [0, 1, 2, 3, 4, 5, 6, 7, 8, 9, 10, 11, 12, 13, 14, 15, 16, 17, 18, 19, 20], [0, 1, 2, 3, 4, 5, 6, 7, 8, 9, 10, 11, 12, 13, 14, 15, 16, 17, 18, 19, 20, 21], [0, 1, 2, 3, 4, 5, 6, 7, 8, 9, 10, 11, 12, 13, 14, 15, 16, 17, 18, 19, 20, 21], [0, 1, 2, 3, 4, 5, 6, 7, 8, 9, 10, 11, 12, 13, 14, 15, 16, 17, 18, 19, 20, 21, 22, 23], [0, 1, 2, 3, 4, 5, 6, 7, 8, 9, 10, 11, 12, 13, 14, 15, 16, 17, 18, 19, 20, 21, 22, 23, 24], [0, 1, 2, 3, 4, 5, 6, 7, 8, 9, 10, 11, 12, 13, 14, 15, 16, 17, 18, 19, 20, 21], [0, 1, 2, 3, 4, 5, 6, 7, 8, 9, 10, 11, 12, 13, 14, 15, 16, 17, 18, 19, 20, 21, 22, 23, 24, 25, 26], [0, 1, 2, 3, 4, 5, 6, 7, 8, 9, 10, 11, 12, 13, 14, 15, 16, 17, 18, 19, 20, 21, 22, 23, 24, 25, 26, 27], [0, 1, 2, 3, 4, 5, 6, 7, 8, 9, 10, 11, 12, 13, 14, 15, 16, 17, 18, 19, 20, 21, 22, 23, 24, 25, 26, 27, 28], [0, 1, 2, 3, 4, 5, 6, 7, 8, 9, 10, 11, 12, 13, 14, 15, 16, 17, 18, 19, 20, 21, 22, 23, 24, 25, 26, 27], [0, 1, 2, 3, 4, 5, 6, 7, 8, 9, 10, 11, 12, 13, 14, 15, 16, 17, 18, 19, 20, 21, 22, 23, 24, 25, 26, 27, 28, 29, 30], [0, 1, 2, 3, 4, 5, 6, 7, 8, 9, 10, 11, 12, 13, 14, 15, 16, 17, 18, 19, 20, 21, 22, 23, 24, 25, 26, 27, 28, 29, 30, 31], [0, 1, 2, 3, 4, 5, 6, 7, 8, 9, 10, 11, 12, 13, 14, 15, 16, 17, 18, 19, 20, 21, 22, 23, 24, 25, 26, 27, 28, 29, 30, 31, 32], [0, 1, 2, 3, 4, 5, 6, 7, 8, 9, 10, 11, 12, 13, 14, 15, 16, 17, 18, 19, 20, 21, 22, 23, 24, 25, 26, 27, 28, 29, 30, 31, 32, 33], [0, 1, 2, 3, 4, 5, 6, 7, 8, 9, 10, 11, 12, 13, 14, 15, 16, 17, 18, 19, 20, 21, 22, 23, 24, 25, 26, 27, 28, 29, 30, 31, 32, 33, 34], [0, 1, 2, 3, 4, 5, 6, 7, 8, 9, 10, 11, 12, 13, 14, 15, 16, 17, 18, 19, 20, 21, 22, 23, 24, 25, 26, 27, 28, 29, 30, 31, 32, 33, 34, 35]]) (J := [[], [0], [1], [1, 2], [1], [1, 4], [1, 3, 5], [1, 6], [7], [8], [8, 9], [8], [8, 11], [8, 10, 12], [8, 13], [14], [15], [15], [15, 17], [15, 16, 18], [15, 19], [20], [21], [21], [21, 22, 23], [21, 24], [21], [21, 26], [27], [27, 28], [27], [27, 30], [27, 29, 31], [21, 27, 32], [21, 25, 33], [21, 34]]) (Je := [35]) (Rs := [Is _, Is _, Is _, Is _, Is _, Is _, Is _, Is _, Is _, Is _, Is _, Is _, Is _, Is _, Is _, Is _, Is _, Is _, Is _, Is _, Is _, Is _, Is _, Is _, Is _, Is _, Is _, Is _, Maybe bi false _, Maybe bi false _, Maybe bi false _, Maybe bi false _, Maybe bi false _, Is (.bool bo), Is _, Is _])
      · kernel_rfl
      · kernel_rfl
      · kernel_rfl
      · kernel_rfl
      · kernel_rfl
      · kernel_rfl
      · kernel_rfl
      · exact fun h => absurd rfl h
      · intro u
        simp only [List.take_succ_cons, List.take_zero, List.map_cons, List.map_nil, fillU, List.setIfInBounds_toArray, List.set_cons_zero, List.set_cons_succ, Nat.reduceAdd]
        exact rfl
      · simp only [List.take_succ_cons, List.take_zero]
        refine ⟨fun u W hb hd K hK => ?_, ?_⟩
        · clear hd
          go_simp
          refine (CurvesE (hT.up hb0 hb)).mono ?_
          rintro e wy ⟨rfl, hby⟩
          exact hK _ _ _ rfl hby IsOut
        refine ⟨fun u W hb hd K hK => ?_, ?_⟩
        · simp only [Facts, nthR, Is, and_true] at hd
          simp only [hd] at hK ⊢
          clear hd
          go_simp
          apply hK
          · simp only [Act.put, List.setIfInBounds_toArray, List.set_cons_zero, List.set_cons_succ]
            exact rfl
          · exact Below.refl _ _
          · exact IsOut
        refine ⟨fun u W hb hd K hK => ?_, ?_⟩
        · simp only [Facts, nthR, Is, and_true] at hd
          simp only [hd] at hK ⊢
          clear hd
          go_simp
          apply hK
          · simp only [Act.put, List.setIfInBounds_toArray, List.set_cons_zero, List.set_cons_succ]
            exact rfl
          · exact Below.refl _ _
          · exact IsOut
        refine ⟨fun u W hb hd K hK => ?_, ?_⟩
        · simp only [Facts, nthR, Is, and_true] at hd
          simp only [hd] at hK ⊢
          clear hd
          rw [if_pos (by rfl)]
          refine wp_load_mid 22 (.tmp 18) rfl g5 0 rfl ((xB p7).map B8) _ (ptv_range0 (bg5.below hb lg5)) Tryd.underlying22 rfl (info40.trans (by rw [List.length_map, (Lib.hid (xB_length p7)).out])) ?_
          exact hK _ _ _ rfl (Below.refl _ _) IsOut
        refine ⟨fun u W hb hd K hK => ?_, ?_⟩
        · simp only [Facts, nthR, Is, and_true] at hd
          simp only [hd] at hK ⊢
          clear hd
          go_simp
          refine (rX _).mono ?_
          rintro e wy ⟨rfl, hby⟩
          exact hK _ _ _ rfl hby IsOut
        refine ⟨fun u W hb hd K hK => ?_, ?_⟩
        · simp only [Facts, nthR, Is, and_true] at hd
          simp only [hd] at hK ⊢
          clear hd
          go_simp
          refine (RBytes hB21 _).mono ?_
          rintro e wy ⟨rfl, hby⟩
          exact hK _ _ _ rfl hby IsOut
        refine ⟨fun u W hb hd K hK => ?_, ?_⟩
        · simp only [Facts, nthR, Is, and_true] at hd
          simp only [hd] at hK ⊢
          clear hd
          rw [if_pos (by rfl)]
          refine wp_eqlA rfl rfl rfl guardB32 (show (Op.equalIn 10000 22 (.agg ((xB p7).map B8).toArray) (.agg (B21.map B8).toArray)).run Tryd.prog W = .ok true W from EqB (Lib.hid (xB_length p7)) (bytes_len hB21) (Lib.hid (beq_iff_eq.2 (E6.out))) W) ?_
          exact hK _ _ (.bool true) rfl (Below.refl _ _) IsOut
        refine ⟨fun u W hb hd K hK => ?_, ?_⟩
        · simp only [Facts, nthR, Is, and_true] at hd
          simp only [hd] at hK ⊢
          clear hd
          go_simp
          apply hK
          · simp only [Act.put, List.setIfInBounds_toArray, List.set_cons_zero, List.set_cons_succ]
            exact rfl
          · exact Below.refl _ _
          · exact IsOut
        refine ⟨fun u W hb hd K hK => ?_, ?_⟩
        · simp only [Facts, nthR, Is, and_true] at hd
          simp only [hd] at hK ⊢
          clear hd
          go_simp
          apply hK
          · simp only [Act.put, List.setIfInBounds_toArray, List.set_cons_zero, List.set_cons_succ]
            exact rfl
          · exact Below.refl _ _
          · exact IsOut
        refine ⟨fun u W hb hd K hK => ?_, ?_⟩
        · simp only [Facts, nthR, Is, and_true] at hd
          simp only [hd] at hK ⊢
          clear hd
          go_simp
          apply hK
          · simp only [Act.put, List.setIfInBounds_toArray, List.set_cons_zero, List.set_cons_succ]
            exact rfl
          · exact Below.refl _ _
          · exact IsOut
        refine ⟨fun u W hb hd K hK => ?_, ?_⟩
        · simp only [Facts, nthR, Is, and_true] at hd
          simp only [hd] at hK ⊢
          clear hd
          rw [if_pos (by rfl)]
          refine wp_load_mid 22 (.tmp 25) rfl g5 32 rfl ((yB p7).map B8) _ (ptv_range1 (bg5.below hb lg5)) Tryd.underlying22 rfl (info40.trans (by rw [List.length_map, (Lib.hid (yB_length p7)).out])) ?_
          exact hK _ _ _ rfl (Below.refl _ _) IsOut
        refine ⟨fun u W hb hd K hK => ?_, ?_⟩
        · simp only [Facts, nthR, Is, and_true] at hd
          simp only [hd] at hK ⊢
          clear hd
          go_simp
          refine (rY _).mono ?_
          rintro e wy ⟨rfl, hby⟩
          exact hK _ _ _ rfl hby IsOut
        refine ⟨fun u W hb hd K hK => ?_, ?_⟩
        · simp only [Facts, nthR, Is, and_true] at hd
          simp only [hd] at hK ⊢
          clear hd
          go_simp
          refine (RBytes hB28 _).mono ?_
          rintro e wy ⟨rfl, hby⟩
          exact hK _ _ _ rfl hby IsOut
        refine ⟨fun u W hb hd K hK => ?_, ?_⟩
        · simp only [Facts, nthR, Is, and_true] at hd
          simp only [hd] at hK ⊢
          clear hd
          rw [if_pos (by rfl)]
          refine wp_eqlA rfl rfl rfl guardB32 (show (Op.equalIn 10000 22 (.agg ((yB p7).map B8).toArray) (.agg (B28.map B8).toArray)).run Tryd.prog W = .ok true W from EqB (Lib.hid (yB_length p7)) (bytes_len hB28) (Lib.hid (beq_iff_eq.2 (E13.out))) W) ?_
          exact hK _ _ (.bool true) rfl (Below.refl _ _) IsOut
        refine ⟨fun u W hb hd K hK => ?_, ?_⟩
        · simp only [Facts, nthR, Is, and_true] at hd
          simp only [hd] at hK ⊢
          clear hd
          go_simp
          apply hK
          · simp only [Act.put, List.setIfInBounds_toArray, List.set_cons_zero, List.set_cons_succ]
            exact rfl
          · exact Below.refl _ _
          · exact IsOut
        refine ⟨fun u W hb hd K hK => ?_, ?_⟩
        · simp only [Facts, nthR, Is, and_true] at hd
          simp only [hd] at hK ⊢
          clear hd
          go_simp
          apply hK
          · simp only [Act.put, List.setIfInBounds_toArray, List.set_cons_zero, List.set_cons_succ]
            exact rfl
          · exact Below.refl _ _
          · exact IsOut
        refine ⟨fun u W hb hd K hK => ?_, ?_⟩
        · simp only [Facts, nthR, Is, and_true] at hd
          simp only [hd] at hK ⊢
          clear hd
          go_simp
          refine (OrderE (hT.up hb0 hb) (Lib.hid rfl)).mono ?_
          rintro e wy ⟨rfl, hby⟩
          exact hK _ _ _ rfl hby IsOut
        refine ⟨fun u W hb hd K hK => ?_, ?_⟩
        · simp only [Facts, nthR, Is, and_true] at hd
          simp only [hd] at hK ⊢
          clear hd
          go_simp
          refine (rN _).mono ?_
          rintro e wy ⟨rfl, hby⟩
          exact hK _ _ _ rfl hby IsOut
        refine ⟨fun u W hb hd K hK => ?_, ?_⟩
        · simp only [Facts, nthR, Is, and_true] at hd
          simp only [hd] at hK ⊢
          clear hd
          go_simp
          refine (RBytes hB34 _).mono ?_
          rintro e wy ⟨rfl, hby⟩
          exact hK _ _ _ rfl hby IsOut
        refine ⟨fun u W hb hd K hK => ?_, ?_⟩
        · simp only [Facts, nthR, Is, and_true] at hd
          simp only [hd] at hK ⊢
          clear hd
          rw [if_pos (by rfl)]
          refine wp_eqlA rfl rfl rfl guardB32 (show (Op.equalIn 10000 22 (.agg (orderB.map B8).toArray) (.agg (B34.map B8).toArray)).run Tryd.prog W = .ok true W from EqB (Lib.hid orderB_length) (bytes_len hB34) (Lib.hid (beq_iff_eq.2 (E19.out))) W) ?_
          exact hK _ _ (.bool true) rfl (Below.refl _ _) IsOut
        refine ⟨fun u W hb hd K hK => ?_, ?_⟩
        · simp only [Facts, nthR, Is, and_true] at hd
          simp only [hd] at hK ⊢
          clear hd
          go_simp
          apply hK
          · simp only [Act.put, List.setIfInBounds_toArray, List.set_cons_zero, List.set_cons_succ]
            exact rfl
          · exact Below.refl _ _
          · exact IsOut
        refine ⟨fun u W hb hd K hK => ?_, ?_⟩
        · simp only [Facts, nthR, Is, and_true] at hd
          simp only [hd] at hK ⊢
          clear hd
          go_simp
          apply hK
          · simp only [Act.put, List.setIfInBounds_toArray, List.set_cons_zero, List.set_cons_succ]
            exact rfl
          · exact Below.refl _ _
          · exact IsOut
        refine ⟨fun u W hb hd K hK => ?_, ?_⟩
        · simp only [Facts, nthR, Is, and_true] at hd
          simp only [hd] at hK ⊢
          clear hd
          rw [if_pos (by rfl)]
          refine wp_load_mid 22 (.tmp 2) rfl g2 0 rfl (X.map B8) _ (rangeAt_of_blk (bg2.below hb lg2)) Tryd.underlying22 rfl (info40.trans (by rw [List.length_map, (hX).out])) ?_
          exact hK _ _ _ rfl (Below.refl _ _) IsOut
        refine ⟨fun u W hb hd K hK => ?_, ?_⟩
        · simp only [Facts, nthR, Is, and_true] at hd
          simp only [hd] at hK ⊢
          clear hd
          rw [if_pos (by rfl)]
          refine wp_load_mid 22 (.tmp 3) rfl g3 0 rfl (Y.map B8) _ (rangeAt_of_blk (bg3.below hb lg3)) Tryd.underlying22 rfl (info40.trans (by rw [List.length_map, (hY).out])) ?_
          exact hK _ _ _ rfl (Below.refl _ _) IsOut
        refine ⟨fun u W hb hd K hK => ?_, ?_⟩
        · simp only [Facts, nthR, Is, and_true] at hd
          simp only [hd] at hK ⊢
          clear hd
          rw [if_pos (by rfl)]
          refine wp_builtV 24 _ rfl [(0, .agg (X.map B8).toArray), (1, .agg (Y.map B8).toArray)] rfl (ptC X Y).toArray (builtPtC (hX) (hY)) ?_
          exact hK _ _ _ rfl (Below.refl _ _) IsOut
        refine ⟨fun u W hb hd K hK => ?_, ?_⟩
        · simp only [Facts, nthR, Is, and_true] at hd
          simp only [hd] at hK ⊢
          clear hd
          go_simp
          refine (OnC (hT.up hb0 hb) (hX) (hY) hOn).mono ?_
          rintro e wy ⟨rfl, hby⟩
          exact hK _ _ _ rfl hby IsOut
        refine ⟨fun u W hb hd K hK => ?_, ?_⟩
        · simp only [Facts, nthR, Is, and_true] at hd
          simp only [hd] at hK ⊢
          clear hd
          go_simp
          apply hK
          · simp only [Act.put, List.setIfInBounds_toArray, List.set_cons_zero, List.set_cons_succ]
            exact rfl
          · exact Below.refl _ _
          · exact IsOut
        refine ⟨fun u W hb hd K hK => ?_, ?_⟩
        · simp only [Facts, nthR, Is, and_true] at hd
          simp only [hd] at hK ⊢
          clear hd
          go_simp
          apply hK
          · simp only [Act.put, List.setIfInBounds_toArray, List.set_cons_zero, List.set_cons_succ]
            exact rfl
          · exact Below.refl _ _
          · exact IsOut
        refine ⟨fun u W hb hd K hK => ?_, ?_⟩
        · simp only [Facts, nthR, Is, and_true] at hd
          have h27 := hd
          by_cases hc : bi = false
          · simp only [h27, hc] at hK ⊢
            rw [if_pos (by rfl)]
            refine wp_load_mid 22 (.tmp 2) rfl g2 0 rfl (X.map B8) _ (rangeAt_of_blk (bg2.below hb lg2)) Tryd.underlying22 rfl (info40.trans (by rw [List.length_map, (hX).out])) ?_
            exact hK _ _ _ rfl (Below.refl _ _) fun _ => IsOut (w := W)
          · have hc' : bi = true := by cases bi <;> simp_all
            simp only [h27, hc'] at hK ⊢
            go_simp
            apply hK
            · simp only [Act.put, List.setIfInBounds_toArray, List.set_cons_zero, List.set_cons_succ]
              exact rfl
            · exact Below.refl _ _
            · exact fun h => by cases h
        refine ⟨fun u W hb hd K hK => ?_, ?_⟩
        · simp only [Facts, nthR, Is, and_true] at hd
          obtain ⟨h27, h28⟩ := hd
          by_cases hc : bi = false
          · replace h28 := h28 hc
            simp only [h27, h28, hc] at hK ⊢
            go_simp
            refine (ROf hn45 (hX) _).mono ?_
            rintro e wy ⟨rfl, hby⟩
            exact hK _ _ _ rfl hby fun _ => IsOut (w := W)
          · have hc' : bi = true := by cases bi <;> simp_all
            simp only [h27, hc'] at hK ⊢
            go_simp
            apply hK
            · simp only [Act.put, List.setIfInBounds_toArray, List.set_cons_zero, List.set_cons_succ]
              exact rfl
            · exact Below.refl _ _
            · exact fun h => by cases h
        refine ⟨fun u W hb hd K hK => ?_, ?_⟩
        · simp only [Facts, nthR, Is, and_true] at hd
          have h27 := hd
          by_cases hc : bi = false
          · simp only [h27, hc] at hK ⊢
            rw [if_pos (by rfl)]
            refine wp_load_mid 22 (.tmp 3) rfl g3 0 rfl (Y.map B8) _ (rangeAt_of_blk (bg3.below hb lg3)) Tryd.underlying22 rfl (info40.trans (by rw [List.length_map, (hY).out])) ?_
            exact hK _ _ _ rfl (Below.refl _ _) fun _ => IsOut (w := W)
          · have hc' : bi = true := by cases bi <;> simp_all
            simp only [h27, hc'] at hK ⊢
            go_simp
            apply hK
            · simp only [Act.put, List.setIfInBounds_toArray, List.set_cons_zero, List.set_cons_succ]
              exact rfl
            · exact Below.refl _ _
            · exact fun h => by cases h
        refine ⟨fun u W hb hd K hK => ?_, ?_⟩
        · simp only [Facts, nthR, Is, and_true] at hd
          obtain ⟨h27, h30⟩ := hd
          by_cases hc : bi = false
          · replace h30 := h30 hc
            simp only [h27, h30, hc] at hK ⊢
            go_simp
            refine (ROf hn47 (hY) _).mono ?_
            rintro e wy ⟨rfl, hby⟩
            exact hK _ _ _ rfl hby fun _ => IsOut (w := W)
          · have hc' : bi = true := by cases bi <;> simp_all
            simp only [h27, hc'] at hK ⊢
            go_simp
            apply hK
            · simp only [Act.put, List.setIfInBounds_toArray, List.set_cons_zero, List.set_cons_succ]
              exact rfl
            · exact Below.refl _ _
            · exact fun h => by cases h
        refine ⟨fun u W hb hd K hK => ?_, ?_⟩
        · simp only [Facts, nthR, Is, and_true] at hd
          obtain ⟨h27, h29, h31⟩ := hd
          by_cases hc : bi = false
          · replace h29 := h29 hc
            replace h31 := h31 hc
            simp only [h27, h29, h31, hc] at hK ⊢
            go_simp
            refine (ROn (ok_of hn45) (ok_of hn47) hbn _).mono ?_
            rintro e wy ⟨rfl, hby⟩
            exact hK _ _ _ rfl hby fun _ => IsOut (w := W)
          · have hc' : bi = true := by cases bi <;> simp_all
            simp only [h27, hc'] at hK ⊢
            go_simp
            apply hK
            · simp only [Act.put, List.setIfInBounds_toArray, List.set_cons_zero, List.set_cons_succ]
              exact rfl
            · exact Below.refl _ _
            · exact fun h => by cases h
        refine ⟨fun u W hb hd K hK => ?_, ?_⟩
        · simp only [Facts, nthR, Is, and_true] at hd
          obtain ⟨h21, h27, h32⟩ := hd
          by_cases hc : bi = false
          · replace h32 := h32 hc
            simp only [h21, h27, h32, hc] at hK ⊢
            go_simp
            apply hK
            · simp only [Act.put, List.setIfInBounds_toArray, List.set_cons_zero, List.set_cons_succ]
              exact rfl
            · exact Below.refl _ _
            · exact (by have hz := hbo.out; rw [hc, Bool.false_or] at hz; rw [← hz]; exact IsOut)
          · have hc' : bi = true := by cases bi <;> simp_all
            simp only [h21, h27, hc'] at hK ⊢
            go_simp
            apply hK
            · simp only [Act.put, List.setIfInBounds_toArray, List.set_cons_zero, List.set_cons_succ]
              exact rfl
            · exact Below.refl _ _
            · exact (by have hz := hbo.out; rw [hc', Bool.true_or] at hz; rw [← hz]; exact IsOut)
        refine ⟨fun u W hb hd K hK => ?_, ?_⟩
        · simp only [Facts, nthR, Is, and_true] at hd
          simp only [hd] at hK ⊢
          clear hd
          go_simp
          apply hK
          · simp only [Act.put, List.setIfInBounds_toArray, List.set_cons_zero, List.set_cons_succ]
            exact rfl
          · exact Below.refl _ _
          · exact IsOut
        refine ⟨fun u W hb hd K hK => ?_, ?_⟩
        · simp only [Facts, nthR, Is, and_true] at hd
          simp only [hd] at hK ⊢
          clear hd
          go_simp
          apply hK
          · simp only [Act.put, List.setIfInBounds_toArray, List.set_cons_zero, List.set_cons_succ]
            exact rfl
          · exact Below.refl _ _
          · exact IsOut
        exact trivial
      · skip
        exact trivial
      · exact (.is (.is (.is (.is (.is (.is (.is (.is (.is (.is (.is (.is (.is (.is (.is (.is (.is (.is (.is (.is (.is (.is (.is (.is (.is (.is (.is (.is (.cons (fun _ _ _ h _ => h) (.cons (fun _ _ _ h _ => h) (.cons (fun _ _ _ h _ => h) (.cons (fun _ _ _ h _ => h) (.cons (fun _ _ _ h _ => h) (.cons (fun _ _ _ h _ => h) (.is (.is .nil))))))))))))))))))))))))))))))))))))
      · intro u w7 hb hd
        simp only [List.drop_succ_cons, List.drop_zero]
        simp only [Facts, nthR, Is, and_true] at hd
        have h35 := hd
        clear hd
        simp only [h35]
        clear h35
        replace bg2 := bg2.below hb lg2
        replace bg3 := bg3.below hb lg3
        replace bg5 := bg5.below hb lg5
        replace hb0 := hb0.trans (hb.mono hb0.size)
        replace lg2 := bg2.lt
        replace lg3 := bg3.lt
        replace lg5 := bg5.lt
        clear hb
        go_wp2_with (fail)
        refine bodyPost_ret (results_tmp Tryd.results3 _ _ _) rfl ?_
        exact ⟨rfl, hb0⟩
end Go.Proofs.YtnkikhnllnbhfaaDoor
