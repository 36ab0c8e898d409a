/-
  CurveOpposites's walk.
-/
import Derived.Test.YtnkikhnllnbhfaaDoorCl0
namespace Go.Proofs.YtnkikhnllnbhfaaDoor
open Go.RowKit
open CurveMath

set_option maxRecDepth 100000 in
set_option maxHeartbeats 4000000 in
theorem curveOpp_1 (A : List UInt8) (w : World) (hT : TabsC w) (hA : Hid (A.length = 32)) (va : Nat) (hva : Hid ((ofTo A 32).val = va)) (hz : Hid (mulG va = none)) : Calls Tryd.prog 9 #[.agg (A.map B8).toArray] w fun e w' => e = .returned (.bool true) ∧ Below w.heap.size w w' := by
  go_enter Tryd.func9, Tryd.ntmps9
  have hb0 : Below w.heap.size w w := Below.refl _ _
  go_upto_region 0 with (fail)
  refine wp_region_lit ?_
  refine wpList_box_blk rfl 22 (.tmp 0) rfl (A.map B8) rfl ?_
  intro g1 w1 hg bg1 hb
  have og1 := Lib.hid (show w.heap.size ≤ g1 from Nat.le_trans hb0.size (Nat.le_of_eq hg.symm))
  clear hg
  replace hb0 := hb0.trans (hb.mono hb0.size)
  clear hb
  have lg1 := bg1.lt
  try simp only [Act.put, List.setIfInBounds_toArray, List.set_cons_zero, List.set_cons_succ]
  go_upto_region 1 with (fail)
  obtain ⟨p7, hp7⟩ : ∃ s : Pt, Hid (s = mulG (va)) := ⟨_, Lib.hid rfl⟩
  apply wp_plain_once (m := 2) (J := [[], [0]]) (Je := [1]) (Rs := [Is _, Is _])
  · kernel_rfl
  · kernel_rfl
  · intro u
    simp only [List.take_succ_cons, List.take_zero, List.map_cons, List.map_nil, fillU, List.setIfInBounds_toArray, List.set_cons_zero, List.set_cons_succ, Nat.reduceAdd]
    exact rfl
  · simp only [List.take_succ_cons, List.take_zero]
    refine ⟨fun u W hb hd K hK => ?_, ?_⟩
    · clear hd
      rw [if_pos (by rfl)]
      refine wp_load_mid 22 (.tmp 1) rfl g1 0 rfl (A.map B8) _ (rangeAt_of_blk (bg1.below hb lg1)) Tryd.underlying22 rfl (info40.trans (by rw [List.length_map, (hA).out])) ?_
      exact hK _ _ _ rfl (Below.refl _ _) IsOut
    refine ⟨fun u W hb hd K hK => ?_, ?_⟩
    · simp only [Facts, nthR, Is, and_true] at hd
      simp only [hd] at hK ⊢
      clear hd
      go_simp
      refine (OfE (hT.up hb0 hb) (hA) (hva) hp7).mono ?_
      rintro e wy ⟨rfl, hby⟩
      exact hK _ _ _ rfl hby IsOut
    exact trivial
  · exact (.is (.is .nil))
  · intro u w2 hb hd
    simp only [List.drop_succ_cons, List.drop_zero]
    simp only [Facts, nthR, Is, and_true] at hd
    have h1 := hd
    clear hd
    simp only [h1]
    clear h1
    replace bg1 := bg1.below hb lg1
    replace hb0 := hb0.trans (hb.mono hb0.size)
    replace lg1 := bg1.lt
    clear hb
    refine wpList_new_blk rfl 24 rfl (ptV none) zeroPt ?_
    intro g3 w3 hg bg3 hb
    have og3 := Lib.hid (show w.heap.size ≤ g3 ∧ g1 < g3 from ⟨Nat.le_trans hb0.size (Nat.le_of_eq hg.symm), Nat.lt_of_lt_of_le lg1 (Nat.le_of_eq hg.symm)⟩)
    clear hg
    replace bg1 := bg1.below hb lg1
    replace hb0 := hb0.trans (hb.mono hb0.size)
    replace lg1 := bg1.lt
    clear hb
    have lg3 := bg3.lt
    try simp only [Act.put, List.setIfInBounds_toArray, List.set_cons_zero, List.set_cons_succ]
    refine wpList_store_blk rfl 24 (.tmp 3) (.tmp 7) rfl rfl g3 (ptV p7) rfl rfl _ _ bg3 (infoPt.trans (by rw [ptV_length])) (by first | with_reducible rfl | rw [ptV_length, ptV_length] | rw [ptV_length]) (onePv _) ?_
    intro w4 bn hgs
    replace bg1 := bg1.grown hgs (fun e => Nat.ne_of_lt og3.out.2 (Option.some.inj e))
    replace hb0 := below_new hb0 hgs og3.out.1 hb0.size
    clear hgs bg3
    have bg3 := bn
    clear bn
    replace lg1 := bg1.lt
    replace lg3 := bg3.lt
    try simp only [Act.put]
    go_upto_region 2 with (fail)
    have E5 := Lib.hid (show p7 = none by rw [hp7.out, hz.out])
    apply wp_plain_once (m := 7) (J := [[], [0], [1], [2], [2], [2, 3, 4], [2, 5]]) (Je := [6]) (Rs := [Is _, Is _, Is _, Is _, Is _, Is _, Is _])
    · kernel_rfl
    · kernel_rfl
    · intro u
      simp only [List.take_succ_cons, List.take_zero, List.map_cons, List.map_nil, fillU, List.setIfInBounds_toArray, List.set_cons_zero, List.set_cons_succ, Nat.reduceAdd]
      exact rfl
    · simp only [List.take_succ_cons, List.take_zero]
      refine ⟨fun u W hb hd K hK => ?_, ?_⟩
      · clear hd
        go_simp
        refine (CurvesE (hT.up hb0 hb)).mono ?_
        rintro e wy ⟨rfl, hby⟩
        exact hK _ _ _ rfl hby IsOut
      refine ⟨fun u W hb hd K hK => ?_, ?_⟩
      · simp only [Facts, nthR, Is, and_true] at hd
        simp only [hd] at hK ⊢
        clear hd
        go_simp
        apply hK
        · simp only [Act.put, List.setIfInBounds_toArray, List.set_cons_zero, List.set_cons_succ]
          exact rfl
        · exact Below.refl _ _
        · exact IsOut
      refine ⟨fun u W hb hd K hK => ?_, ?_⟩
      · simp only [Facts, nthR, Is, and_true] at hd
        simp only [hd] at hK ⊢
        clear hd
        go_simp
        apply hK
        · simp only [Act.put, List.setIfInBounds_toArray, List.set_cons_zero, List.set_cons_succ]
          exact rfl
        · exact Below.refl _ _
        · exact IsOut
      refine ⟨fun u W hb hd K hK => ?_, ?_⟩
      · simp only [Facts, nthR, Is, and_true] at hd
        simp only [hd] at hK ⊢
        clear hd
        rw [if_pos (by rfl)]
        refine wp_load_mid 24 (.tmp 3) rfl g3 0 rfl (ptV p7) _ (rangeAt_of_blk (bg3.below hb lg3)) Tryd.underlying24 rfl (infoPt.trans (by rw [ptV_length])) ?_
        exact hK _ _ _ rfl (Below.refl _ _) IsOut
      refine ⟨fun u W hb hd K hK => ?_, ?_⟩
      · simp only [Facts, nthR, Is, and_true] at hd
        simp only [hd] at hK ⊢
        clear hd
        rw [if_pos (by rfl)]
        refine wp_builtV 24 _ rfl [] rfl (ptV none).toArray builtZ ?_
        exact hK _ _ _ rfl (Below.refl _ _) IsOut
      refine ⟨fun u W hb hd K hK => ?_, ?_⟩
      · simp only [Facts, nthR, Is, and_true] at hd
        simp only [hd] at hK ⊢
        clear hd
        rw [if_pos (by rfl)]
        refine wp_eqlA rfl rfl rfl guardPt (show (Op.equalIn 10000 24 (.agg (ptV p7).toArray) (.agg (ptV none).toArray)).run Tryd.prog W = .ok true W from EqP (on_of (hp7)) (on_of ((Lib.hid rfl : Hid ((none : Pt) = mulG 0)))) (Lib.hid (decide_eq_true (E5.out))) W) ?_
        exact hK _ _ (.bool true) rfl (Below.refl _ _) IsOut
      refine ⟨fun u W hb hd K hK => ?_, ?_⟩
      · simp only [Facts, nthR, Is, and_true] at hd
        simp only [hd] at hK ⊢
        clear hd
        go_simp
        apply hK
        · simp only [Act.put, List.setIfInBounds_toArray, List.set_cons_zero, List.set_cons_succ]
          exact rfl
        · exact Below.refl _ _
        · exact IsOut
      exact trivial
    · exact (.is (.is (.is (.is (.is (.is (.is .nil)))))))
    · intro u w5 hb hd
      simp only [List.drop_succ_cons, List.drop_zero]
      simp only [Facts, nthR, Is, and_true] at hd
      have h6 := hd
      clear hd
      simp only [h6]
      clear h6
      replace bg1 := bg1.below hb lg1
      replace bg3 := bg3.below hb lg3
      replace hb0 := hb0.trans (hb.mono hb0.size)
      replace lg1 := bg1.lt
      replace lg3 := bg3.lt
      clear hb
      go_upto_region 3 with (fail)
      apply wp_plain_once (m := 1) (J := [[]]) (Je := [0]) (Rs := [Is _])
      · kernel_rfl
      · kernel_rfl
      · intro u
        simp only [List.take_succ_cons, List.take_zero, List.map_cons, List.map_nil, fillU, List.setIfInBounds_toArray, List.set_cons_zero, List.set_cons_succ]
        exact rfl
      · simp only [List.take_succ_cons, List.take_zero]
        refine ⟨fun u W hb hd K hK => ?_, ?_⟩
        · clear hd
          go_simp
          refine (CurvesE (hT.up hb0 hb)).mono ?_
          rintro e wy ⟨rfl, hby⟩
          exact hK _ _ _ rfl hby IsOut
        exact trivial
      · exact (.is .nil)
      · intro u w6 hb hd
        simp only [List.drop_succ_cons, List.drop_zero]
        simp only [Facts, nthR, Is, and_true] at hd
        have h0 := hd
        clear hd
        simp only [h0]
        clear h0
        replace bg1 := bg1.below hb lg1
        replace bg3 := bg3.below hb lg3
        replace hb0 := hb0.trans (hb.mono hb0.size)
        replace lg1 := bg1.lt
        replace lg3 := bg3.lt
        clear hb
        go_wp2_with (fail)
        refine bodyPost_ret (results_tmp Tryd.results9 _ _ _) rfl ?_
        exact ⟨rfl, hb0⟩
set_option maxRecDepth 100000 in
set_option maxHeartbeats 4000000 in
theorem curveOpp_0 (A : List UInt8) (w : World) (hT : TabsC w) (hA : Hid (A.length = 32)) (va : Nat) (hva : Hid ((ofTo A 32).val = va)) (x y : K) (hz : Hid (mulG va = some (x, y))) : Calls Tryd.prog 9 #[.agg (A.map B8).toArray] w fun e w' => e = .returned (.bool true) ∧ Below w.heap.size w w' := by
  go_enter Tryd.func9, Tryd.ntmps9
  have hb0 : Below w.heap.size w w := Below.refl _ _
  go_upto_region 0 with (fail)
  refine wp_region_lit ?_
  refine wpList_box_blk rfl 22 (.tmp 0) rfl (A.map B8) rfl ?_
  intro g1 w1 hg bg1 hb
  have og1 := Lib.hid (show w.heap.size ≤ g1 from Nat.le_trans hb0.size (Nat.le_of_eq hg.symm))
  clear hg
  replace hb0 := hb0.trans (hb.mono hb0.size)
  clear hb
  have lg1 := bg1.lt
  try simp only [Act.put, List.setIfInBounds_toArray, List.set_cons_zero, List.set_cons_succ]
  go_upto_region 1 with (fail)
  obtain ⟨p7, hp7⟩ : ∃ s : Pt, Hid (s = mulG (va)) := ⟨_, Lib.hid rfl⟩
  apply wp_plain_once (m := 2) (J := [[], [0]]) (Je := [1]) (Rs := [Is _, Is _])
  · kernel_rfl
  · kernel_rfl
  · intro u
    simp only [List.take_succ_cons, List.take_zero, List.map_cons, List.map_nil, fillU, List.setIfInBounds_toArray, List.set_cons_zero, List.set_cons_succ, Nat.reduceAdd]
    exact rfl
  · simp only [List.take_succ_cons, List.take_zero]
    refine ⟨fun u W hb hd K hK => ?_, ?_⟩
    · clear hd
      rw [if_pos (by rfl)]
      refine wp_load_mid 22 (.tmp 1) rfl g1 0 rfl (A.map B8) _ (rangeAt_of_blk (bg1.below hb lg1)) Tryd.underlying22 rfl (info40.trans (by rw [List.length_map, (hA).out])) ?_
      exact hK _ _ _ rfl (Below.refl _ _) IsOut
    refine ⟨fun u W hb hd K hK => ?_, ?_⟩
    · simp only [Facts, nthR, Is, and_true] at hd
      simp only [hd] at hK ⊢
      clear hd
      go_simp
      refine (OfE (hT.up hb0 hb) (hA) (hva) hp7).mono ?_
      rintro e wy ⟨rfl, hby⟩
      exact hK _ _ _ rfl hby IsOut
    exact trivial
  · exact (.is (.is .nil))
  · intro u w2 hb hd
    simp only [List.drop_succ_cons, List.drop_zero]
    simp only [Facts, nthR, Is, and_true] at hd
    have h1 := hd
    clear hd
    simp only [h1]
    clear h1
    replace bg1 := bg1.below hb lg1
    replace hb0 := hb0.trans (hb.mono hb0.size)
    replace lg1 := bg1.lt
    clear hb
    refine wpList_new_blk rfl 24 rfl (ptV none) zeroPt ?_
    intro g3 w3 hg bg3 hb
    have og3 := Lib.hid (show w.heap.size ≤ g3 ∧ g1 < g3 from ⟨Nat.le_trans hb0.size (Nat.le_of_eq hg.symm), Nat.lt_of_lt_of_le lg1 (Nat.le_of_eq hg.symm)⟩)
    clear hg
    replace bg1 := bg1.below hb lg1
    replace hb0 := hb0.trans (hb.mono hb0.size)
    replace lg1 := bg1.lt
    clear hb
    have lg3 := bg3.lt
    try simp only [Act.put, List.setIfInBounds_toArray, List.set_cons_zero, List.set_cons_succ]
    refine wpList_store_blk rfl 24 (.tmp 3) (.tmp 7) rfl rfl g3 (ptV p7) rfl rfl _ _ bg3 (infoPt.trans (by rw [ptV_length])) (by first | with_reducible rfl | rw [ptV_length, ptV_length] | rw [ptV_length]) (onePv _) ?_
    intro w4 bn hgs
    replace bg1 := bg1.grown hgs (fun e => Nat.ne_of_lt og3.out.2 (Option.some.inj e))
    replace hb0 := below_new hb0 hgs og3.out.1 hb0.size
    clear hgs bg3
    have bg3 := bn
    clear bn
    replace lg1 := bg1.lt
    replace lg3 := bg3.lt
    try simp only [Act.put]
    go_upto_region 2 with (fail)
    have E5 := Lib.hid (show ¬ p7 = none by rw [hp7.out, hz.out]; exact fun h => by cases h)
    apply wp_plain_once (m := 7) (J := [[], [0], [1], [2], [2], [2, 3, 4], [2, 5]]) (Je := [6]) (Rs := [Is _, Is _, Is _, Is _, Is _, Is _, Is _])
    · kernel_rfl
    · kernel_rfl
    · intro u
      simp only [List.take_succ_cons, List.take_zero, List.map_cons, List.map_nil, fillU, List.setIfInBounds_toArray, List.set_cons_zero, List.set_cons_succ, Nat.reduceAdd]
      exact rfl
    · simp only [List.take_succ_cons, List.take_zero]
      refine ⟨fun u W hb hd K hK => ?_, ?_⟩
      · clear hd
        go_simp
        refine (CurvesE (hT.up hb0 hb)).mono ?_
        rintro e wy ⟨rfl, hby⟩
        exact hK _ _ _ rfl hby IsOut
      refine ⟨fun u W hb hd K hK => ?_, ?_⟩
      · simp only [Facts, nthR, Is, and_true] at hd
        simp only [hd] at hK ⊢
        clear hd
        go_simp
        apply hK
        · simp only [Act.put, List.setIfInBounds_toArray, List.set_cons_zero, List.set_cons_succ]
          exact rfl
        · exact Below.refl _ _
        · exact IsOut
      refine ⟨fun u W hb hd K hK => ?_, ?_⟩
      · simp only [Facts, nthR, Is, and_true] at hd
        simp only [hd] at hK ⊢
        clear hd
        go_simp
        apply hK
        · simp only [Act.put, List.setIfInBounds_toArray, List.set_cons_zero, List.set_cons_succ]
          exact rfl
        · exact Below.refl _ _
        · exact IsOut
      refine ⟨fun u W hb hd K hK => ?_, ?_⟩
      · simp only [Facts, nthR, Is, and_true] at hd
        simp only [hd] at hK ⊢
        clear hd
        rw [if_pos (by rfl)]
        refine wp_load_mid 24 (.tmp 3) rfl g3 0 rfl (ptV p7) _ (rangeAt_of_blk (bg3.below hb lg3)) Tryd.underlying24 rfl (infoPt.trans (by rw [ptV_length])) ?_
        exact hK _ _ _ rfl (Below.refl _ _) IsOut
      refine ⟨fun u W hb hd K hK => ?_, ?_⟩
      · simp only [Facts, nthR, Is, and_true] at hd
        simp only [hd] at hK ⊢
        clear hd
        rw [if_pos (by rfl)]
        refine wp_builtV 24 _ rfl [] rfl (ptV none).toArray builtZ ?_
        exact hK _ _ _ rfl (Below.refl _ _) IsOut
      refine ⟨fun u W hb hd K hK => ?_, ?_⟩
      · simp only [Facts, nthR, Is, and_true] at hd
        simp only [hd] at hK ⊢
        clear hd
        rw [if_pos (by rfl)]
        refine wp_eqlA rfl rfl rfl guardPt (show (Op.equalIn 10000 24 (.agg (ptV p7).toArray) (.agg (ptV none).toArray)).run Tryd.prog W = .ok false W from EqP (on_of hp7) (on_of (Lib.hid rfl : Hid ((none : Pt) = mulG 0))) (Lib.hid (decide_eq_false E5.out)) W) ?_
        exact hK _ _ (.bool false) rfl (Below.refl _ _) IsOut
      refine ⟨fun u W hb hd K hK => ?_, ?_⟩
      · simp only [Facts, nthR, Is, and_true] at hd
        simp only [hd] at hK ⊢
        clear hd
        go_simp
        apply hK
        · simp only [Act.put, List.setIfInBounds_toArray, List.set_cons_zero, List.set_cons_succ]
          exact rfl
        · exact Below.refl _ _
        · exact IsOut
      exact trivial
    · exact (.is (.is (.is (.is (.is (.is (.is .nil)))))))
    · intro u w5 hb hd
      simp only [List.drop_succ_cons, List.drop_zero]
      simp only [Facts, nthR, Is, and_true] at hd
      have h6 := hd
      clear hd
      simp only [h6]
      clear h6
      replace bg1 := bg1.below hb lg1
      replace bg3 := bg3.below hb lg3
      replace hb0 := hb0.trans (hb.mono hb0.size)
      replace lg1 := bg1.lt
      replace lg3 := bg3.lt
      clear hb
      go_upto_region 4 with (fail)
      obtain ⟨n23, hn23⟩ : ∃ s : P4, Hid (s = redP primeP (zeroP.val % primeP.val + primeP.val - (yN p7).val % primeP.val)) := ⟨_, Lib.hid rfl⟩
      obtain ⟨B24, hB24⟩ : ∃ s : List UInt8, Hid (bsTo n23 32 = s) := ⟨_, Lib.hid rfl⟩
      obtain ⟨pO, hpO⟩ : ∃ s : Pt, Hid (s = mulG ((nN - 1) * va)) := ⟨_, Lib.hid rfl⟩
      have hbO : Tryd.prog.built 24 [(0, .agg ((xB p7).map B8).toArray), (1, .agg (B24.map B8).toArray)] = some (ptV pO).toArray := by
        rw [builtPtC (Lib.hid (xB_length p7)) (bytes_len hB24), hpO.out, opp_mulG va hz.out, ← hB24.out, hn23.out, hp7.out, hz.out]
        show some (ptC (kB x) (bsTo (redP primeP (zeroP.val % primeP.val + primeP.val - (pK y).val % primeP.val)) 32)).toArray = _
        rw [show zeroP.val = (pK 0).val from by rw [pK_val]; rfl, pK_sub, show (0 : K) - y = -y by grind]
        rfl
      apply wp_region_once_tail (m := 11) (Z := []) (D := [[], [0], [], [], [3], [3, 4], [3, 4, 5], [2, 3, 4, 5, 6], [2, 3, 4, 5, 6, 7], [0, 1, 2, 3, 4, 5, 6, 7, 8], [], [0, 1, 2, 3, 4, 5, 6, 7, 8, 9, 10]]) (J := [[], [0], [], [], [3], [4], [], [2, 5, 6], [7], [1, 8], []]) (Je := [9, 10]) (Rs := [Is _, Is _, Is _, Is _, Is _, Is _, Is _, Is _, Is _, Is _, fun v V => ∃ g', v = .pointer (some ⟨g', 0, none⟩) ∧ w5.heap.size ≤ g' ∧ Blk V g' 24 (ptV none)])
      · kernel_rfl
      · kernel_rfl
      · kernel_rfl
      · kernel_rfl
      · kernel_rfl
      · kernel_rfl
      · kernel_rfl
      · exact fun h => absurd rfl h
      · intro u
        simp only [List.take_succ_cons, List.take_zero, List.map_cons, List.map_nil, fillU, List.setIfInBounds_toArray, List.set_cons_zero, List.set_cons_succ, Nat.reduceAdd]
        exact rfl
      · simp only [List.take_succ_cons, List.take_zero]
        refine ⟨fun u W hb hd K hK => ?_, ?_⟩
        · clear hd
          go_simp
          apply hK
          · simp only [Act.put, List.setIfInBounds_toArray, List.set_cons_zero, List.set_cons_succ]
            exact rfl
          · exact Below.refl _ _
          · exact IsOut
        refine ⟨fun u W hb hd K hK => ?_, ?_⟩
        · simp only [Facts, nthR, Is, and_true] at hd
          simp only [hd] at hK ⊢
          clear hd
          rw [if_pos (by rfl)]
          refine wp_load_mid 22 (.tmp 16) rfl g3 0 rfl ((xB p7).map B8) _ (ptv_range0 (bg3.below hb lg3)) Tryd.underlying22 rfl (info40.trans (by rw [List.length_map, (Lib.hid (xB_length p7)).out])) ?_
          exact hK _ _ _ rfl (Below.refl _ _) IsOut
        refine ⟨fun u W hb hd K hK => ?_, ?_⟩
        · clear hd
          rw [if_pos (by rfl)]
          refine wp_builtV 29 _ rfl [] rfl (nC zeroP).toArray built6_0 ?_
          exact hK _ _ _ rfl (Below.refl _ _) IsOut
        refine ⟨fun u W hb hd K hK => ?_, ?_⟩
        · clear hd
          go_simp
          apply hK
          · simp only [Act.put, List.setIfInBounds_toArray, List.set_cons_zero, List.set_cons_succ]
            exact rfl
          · exact Below.refl _ _
          · exact IsOut
        refine ⟨fun u W hb hd K hK => ?_, ?_⟩
        · simp only [Facts, nthR, Is, and_true] at hd
          simp only [hd] at hK ⊢
          clear hd
          rw [if_pos (by rfl)]
          refine wp_load_mid 22 (.tmp 19) rfl g3 32 rfl ((yB p7).map B8) _ (ptv_range1 (bg3.below hb lg3)) Tryd.underlying22 rfl (info40.trans (by rw [List.length_map, (Lib.hid (yB_length p7)).out])) ?_
          exact hK _ _ _ rfl (Below.refl _ _) IsOut
        refine ⟨fun u W hb hd K hK => ?_, ?_⟩
        · simp only [Facts, nthR, Is, and_true] at hd
          simp only [hd] at hK ⊢
          clear hd
          go_simp
          refine (ROf (Lib.hid (of_yB p7)) (Lib.hid (yB_length p7)) _).mono ?_
          rintro e wy ⟨rfl, hby⟩
          exact hK _ _ _ rfl hby IsOut
        refine ⟨fun u W hb hd K hK => ?_, ?_⟩
        · clear hd
          go_simp
          refine (rP _).mono ?_
          rintro e wy ⟨rfl, hby⟩
          exact hK _ _ _ rfl hby IsOut
        refine ⟨fun u W hb hd K hK => ?_, ?_⟩
        · simp only [Facts, nthR, Is, and_true] at hd
          simp only [hd] at hK ⊢
          clear hd
          go_simp
          refine (RSubN (Lib.hid zeroP_ok) (Lib.hid (yN_ok p7)) (Lib.hid primeP_ok) hn23 (by decide) _).mono ?_
          rintro e wy ⟨rfl, hby⟩
          exact hK _ _ _ rfl hby IsOut
        refine ⟨fun u W hb hd K hK => ?_, ?_⟩
        · simp only [Facts, nthR, Is, and_true] at hd
          simp only [hd] at hK ⊢
          clear hd
          go_simp
          refine (RBytes hB24 _).mono ?_
          rintro e wy ⟨rfl, hby⟩
          exact hK _ _ _ rfl hby IsOut
        refine ⟨fun u W hb hd K hK => ?_, ?_⟩
        · simp only [Facts, nthR, Is, and_true] at hd
          simp only [hd] at hK ⊢
          clear hd
          rw [if_pos (by rfl)]
          refine wp_builtV 24 _ rfl [(0, .agg ((xB p7).map B8).toArray), (1, .agg (B24.map B8).toArray)] rfl (ptV pO).toArray hbO ?_
          exact hK _ _ _ rfl (Below.refl _ _) IsOut
        refine ⟨fun u W hb hd K hK => ?_, ?_⟩
        · clear hd
          go_simp
          apply hK
          · simp only [Act.put, List.setIfInBounds_toArray, List.set_cons_zero, List.set_cons_succ]
            exact rfl
          · exact (Below.refl _ _).alloc (Nat.le_refl _) _
          · exact ⟨_, rfl, hb.size, Blk.new_of _ _ _ _ rfl⟩
        exact trivial
      · skip
        exact trivial
      · exact (.is (.is (.is (.is (.is (.is (.is (.is (.is (.is (.cons (fun v V V' ⟨g', h1, h2, h3⟩ hb => ⟨g', h1, h2, h3.below hb h3.lt⟩) .nil)))))))))))
      · intro u w6 hb hd
        simp only [List.drop_succ_cons, List.drop_zero]
        simp only [Facts, nthR, Is, and_true] at hd
        obtain ⟨h9, ⟨g4, h10, hng4, bg4⟩⟩ := hd
        have og4 := Lib.hid (show w.heap.size ≤ g4 ∧ g1 < g4 ∧ g3 < g4 from ⟨Nat.le_trans hb0.size hng4, Nat.lt_of_lt_of_le lg1 hng4, Nat.lt_of_lt_of_le lg3 hng4⟩)
        simp only [h9, h10]
        clear h9 h10
        replace bg1 := bg1.below hb lg1
        replace bg3 := bg3.below hb lg3
        replace hb0 := hb0.trans (hb.mono hb0.size)
        replace lg1 := bg1.lt
        replace lg3 := bg3.lt
        clear hb
        have lg4 := bg4.lt
        clear hng4
        refine wpList_store_blk rfl 24 (.tmp 4) (.tmp 25) rfl rfl g4 (ptV pO) rfl rfl _ _ bg4 (infoPt.trans (by rw [ptV_length])) (by first | with_reducible rfl | rw [ptV_length, ptV_length] | rw [ptV_length]) (onePv _) ?_
        intro w7 bn hgs
        replace bg1 := bg1.grown hgs (fun e => Nat.ne_of_lt og4.out.2.1 (Option.some.inj e))
        replace bg3 := bg3.grown hgs (fun e => Nat.ne_of_lt og4.out.2.2 (Option.some.inj e))
        replace hb0 := below_new hb0 hgs og4.out.1 hb0.size
        clear hgs bg4
        have bg4 := bn
        clear bn
        replace lg1 := bg1.lt
        replace lg3 := bg3.lt
        replace lg4 := bg4.lt
        try simp only [Act.put]
        go_upto_region 5 with (fail)
        obtain ⟨n29, hn29⟩ : ∃ s : P4, Hid (s = redP orderP (zeroP.val % orderP.val + orderP.val - oneP.val % orderP.val)) := ⟨_, Lib.hid rfl⟩
        obtain ⟨B30, hB30⟩ : ∃ s : List UInt8, Hid (bsTo n29 32 = s) := ⟨_, Lib.hid rfl⟩
        obtain ⟨p32, hp32⟩ : ∃ s : Pt, Hid (s = mulG (n29.val * va)) := ⟨_, Lib.hid rfl⟩
        apply wp_region_once_tail (m := 8) (Z := []) (D := [[], [], [], [0, 1, 2], [0, 1, 2, 3], [], [0, 1, 2, 3, 4, 5], [], [0, 1, 2, 3, 4, 5, 6, 7]]) (J := [[], [], [], [0, 1, 2], [3], [], [4, 5], []]) (Je := [6, 7]) (Rs := [Is _, Is _, Is _, Is _, Is _, Is _, Is _, fun v V => ∃ g', v = .pointer (some ⟨g', 0, none⟩) ∧ w7.heap.size ≤ g' ∧ Blk V g' 24 (ptV none)])
        · kernel_rfl
        · kernel_rfl
        · kernel_rfl
        · kernel_rfl
        · kernel_rfl
        · kernel_rfl
        · kernel_rfl
        · exact fun h => absurd rfl h
        · intro u
          simp only [List.take_succ_cons, List.take_zero, List.map_cons, List.map_nil, fillU, List.setIfInBounds_toArray, List.set_cons_zero, List.set_cons_succ, Nat.reduceAdd]
          exact rfl
        · simp only [List.take_succ_cons, List.take_zero]
          refine ⟨fun u W hb hd K hK => ?_, ?_⟩
          · clear hd
            rw [if_pos (by rfl)]
            refine wp_builtV 29 _ rfl [] rfl (nC zeroP).toArray built6_0 ?_
            exact hK _ _ _ rfl (Below.refl _ _) IsOut
          refine ⟨fun u W hb hd K hK => ?_, ?_⟩
          · clear hd
            rw [if_pos (by rfl)]
            refine wp_builtV 29 _ rfl [(0, .int .u64 1)] rfl (nC oneP).toArray built6_1n ?_
            exact hK _ _ _ rfl (Below.refl _ _) IsOut
          refine ⟨fun u W hb hd K hK => ?_, ?_⟩
          · clear hd
            go_simp
            refine (rN _).mono ?_
            rintro e wy ⟨rfl, hby⟩
            exact hK _ _ _ rfl hby IsOut
          refine ⟨fun u W hb hd K hK => ?_, ?_⟩
          · simp only [Facts, nthR, Is, and_true] at hd
            simp only [hd] at hK ⊢
            clear hd
            go_simp
            refine (RSubN (Lib.hid zeroP_ok) (Lib.hid oneP_ok) (Lib.hid orderP_ok) hn29 (by decide) _).mono ?_
            rintro e wy ⟨rfl, hby⟩
            exact hK _ _ _ rfl hby IsOut
          refine ⟨fun u W hb hd K hK => ?_, ?_⟩
          · simp only [Facts, nthR, Is, and_true] at hd
            simp only [hd] at hK ⊢
            clear hd
            go_simp
            refine (RBytes hB30 _).mono ?_
            rintro e wy ⟨rfl, hby⟩
            exact hK _ _ _ rfl hby IsOut
          refine ⟨fun u W hb hd K hK => ?_, ?_⟩
          · clear hd
            rw [if_pos (by rfl)]
            refine wp_load_mid 24 (.tmp 3) rfl g3 0 rfl (ptV p7) _ (rangeAt_of_blk (bg3.below hb lg3)) Tryd.underlying24 rfl (infoPt.trans (by rw [ptV_length])) ?_
            exact hK _ _ _ rfl (Below.refl _ _) IsOut
          refine ⟨fun u W hb hd K hK => ?_, ?_⟩
          · simp only [Facts, nthR, Is, and_true] at hd
            simp only [hd] at hK ⊢
            clear hd
            go_simp
            refine (TimesP (hT.up hb0 hb) (bytes_len hB30) (bytes_val hB30 (ok_red hn29) rfl) (hp7) hp32).mono ?_
            rintro e wy ⟨rfl, hby⟩
            exact hK _ _ _ rfl hby IsOut
          refine ⟨fun u W hb hd K hK => ?_, ?_⟩
          · clear hd
            go_simp
            apply hK
            · simp only [Act.put, List.setIfInBounds_toArray, List.set_cons_zero, List.set_cons_succ]
              exact rfl
            · exact (Below.refl _ _).alloc (Nat.le_refl _) _
            · exact ⟨_, rfl, hb.size, Blk.new_of _ _ _ _ rfl⟩
          exact trivial
        · skip
          exact trivial
        · exact (.is (.is (.is (.is (.is (.is (.is (.cons (fun v V V' ⟨g', h1, h2, h3⟩ hb => ⟨g', h1, h2, h3.below hb h3.lt⟩) .nil))))))))
        · intro u w8 hb hd
          simp only [List.drop_succ_cons, List.drop_zero]
          simp only [Facts, nthR, Is, and_true] at hd
          obtain ⟨h6, ⟨g5, h7, hng5, bg5⟩⟩ := hd
          have og5 := Lib.hid (show w.heap.size ≤ g5 ∧ g1 < g5 ∧ g3 < g5 ∧ g4 < g5 from ⟨Nat.le_trans hb0.size hng5, Nat.lt_of_lt_of_le lg1 hng5, Nat.lt_of_lt_of_le lg3 hng5, Nat.lt_of_lt_of_le lg4 hng5⟩)
          simp only [h6, h7]
          clear h6 h7
          replace bg1 := bg1.below hb lg1
          replace bg3 := bg3.below hb lg3
          replace bg4 := bg4.below hb lg4
          replace hb0 := hb0.trans (hb.mono hb0.size)
          replace lg1 := bg1.lt
          replace lg3 := bg3.lt
          replace lg4 := bg4.lt
          clear hb
          have lg5 := bg5.lt
          clear hng5
          refine wpList_store_blk rfl 24 (.tmp 5) (.tmp 32) rfl rfl g5 (ptV p32) rfl rfl _ _ bg5 (infoPt.trans (by rw [ptV_length])) (by first | with_reducible rfl | rw [ptV_length, ptV_length] | rw [ptV_length]) (onePv _) ?_
          intro w9 bn hgs
          replace bg1 := bg1.grown hgs (fun e => Nat.ne_of_lt og5.out.2.1 (Option.some.inj e))
          replace bg3 := bg3.grown hgs (fun e => Nat.ne_of_lt og5.out.2.2.1 (Option.some.inj e))
          replace bg4 := bg4.grown hgs (fun e => Nat.ne_of_lt og5.out.2.2.2 (Option.some.inj e))
          replace hb0 := below_new hb0 hgs og5.out.1 hb0.size
          clear hgs bg5
          have bg5 := bn
          clear bn
          replace lg1 := bg1.lt
          replace lg3 := bg3.lt
          replace lg4 := bg4.lt
          replace lg5 := bg5.lt
          try simp only [Act.put]
          go_upto_region 6 with (fail)
          obtain ⟨p38, hp38⟩ : ∃ s : Pt, Hid (s = mulG (va + ((nN - 1) * va))) := ⟨_, Lib.hid rfl⟩
          obtain ⟨p50, hp50⟩ : ∃ s : Pt, Hid (s = mulG (va + va)) := ⟨_, Lib.hid rfl⟩
          obtain ⟨B51, hB51⟩ : ∃ s : List UInt8, Hid (s = bsTo ⟨2, 0, 0, 0⟩ 32) := ⟨_, Lib.hid rfl⟩
          obtain ⟨p53, hp53⟩ : ∃ s : Pt, Hid (s = mulG (2 * va)) := ⟨_, Lib.hid rfl⟩
          obtain ⟨p59, hp59⟩ : ∃ s : Pt, Hid (s = mulG (va + va)) := ⟨_, Lib.hid rfl⟩
          obtain ⟨p61, hp61⟩ : ∃ s : Pt, Hid (s = mulG ((va + va) + ((nN - 1) * va))) := ⟨_, Lib.hid rfl⟩
          have n0 : 0 < nN := by decide
          have ev : n29.val = nN - 1 := by rw [red_order hn29]; decide +kernel
          have ew : (nN - 1) * va + va = nN * va := by
            rw [show (nN - 1) * va + va = (nN - 1 + 1) * va by rw [Nat.add_mul, Nat.one_mul], Nat.sub_add_cancel n0]
          have E7 := Lib.hid (show p38 = none by rw [hp38.out, Nat.add_comm, ew, ← mulG_mod, Nat.mul_mod_right]; rfl)
          have E12 := Lib.hid (show p32 = pO by rw [hp32.out, hpO.out, ev])
          have E21 := Lib.hid (show p50 = p53 by rw [hp50.out, hp53.out, Nat.two_mul])
          have E30 := Lib.hid (show p61 = p7 by rw [hp61.out, hp7.out, Nat.add_assoc, Nat.add_comm va ((nN - 1) * va), ew, ← mulG_mod, Nat.add_mul_mod_self_left, mulG_mod])
          clear ev ew n0
          apply wp_region_once_tail (m := 32) (Z := []) (D := [[], [0], [0, 1], [0, 1, 2], [0, 1, 2], [0, 1, 2, 3, 4], [0, 1, 2], [0, 1, 2, 3, 4, 5, 6], [0, 1, 2, 3, 4, 5, 6, 7], [0, 1, 2, 3, 4, 5, 6, 7, 8], [0, 1, 2, 3, 4, 5, 6, 7, 8, 9], [0, 1, 2, 3, 4, 5, 6, 7, 8, 9], [0, 1, 2, 3, 4, 5, 6, 7, 8, 9, 10, 11], [0, 1, 2, 3, 4, 5, 6, 7, 8, 9, 10, 11, 12], [0, 1, 2, 3, 4, 5, 6, 7, 8, 9, 10, 11, 12, 13], [0, 1, 2, 3, 4, 5, 6, 7, 8, 9, 10, 11, 12, 13, 14], [0, 1, 2, 3, 4, 5, 6, 7, 8, 9, 10, 11, 12, 13, 14], [0, 1, 2, 3, 4, 5, 6, 7, 8, 9, 10, 11, 12, 13, 14, 15, 16], [0, 1, 2, 3, 4, 5, 6, 7, 8, 9, 10, 11, 12, 13, 14, 15, 16, 17], [0, 1, 2, 3, 4, 5, 6, 7, 8, 9, 10, 11, 12, 13, 14], [0, 1, 2, 3, 4, 5, 6, 7, 8, 9, 10, 11, 12, 13, 14, 15, 16, 17, 18, 19], [0, 1, 2, 3, 4, 5, 6, 7, 8, 9, 10, 11, 12, 13, 14, 15, 16, 17, 18, 19, 20], [0, 1, 2, 3, 4, 5, 6, 7, 8, 9, 10, 11, 12, 13, 14, 15, 16, 17, 18, 19, 20, 21], [0, 1, 2, 3, 4, 5, 6, 7, 8, 9, 10, 11, 12, 13, 14, 15, 16, 17, 18, 19, 20, 21, 22], [0, 1, 2, 3, 4, 5, 6, 7, 8, 9, 10, 11, 12, 13, 14, 15, 16, 17, 18, 19, 20, 21, 22, 23], [0, 1, 2, 3, 4, 5, 6, 7, 8, 9, 10, 11, 12, 13, 14, 15, 16, 17, 18, 19, 20, 21, 22, 23], [0, 1, 2, 3, 4, 5, 6, 7, 8, 9, 10, 11, 12, 13, 14, 15, 16, 17, 18, 19, 20, 21, 22, 23, 24, 25], [0, 1, 2, 3, 4, 5, 6, 7, 8, 9, 10, 11, 12, 13, 14, 15, 16, 17, 18, 19, 20, 21, 22, 23], [0, 1, 2, 3, 4, 5, 6, 7, 8, 9, 10, 11, 12, 13, 14, 15, 16, 17, 18, 19, 20, 21, 22, 23, 24, 25, 26, 27], [0, 1, 2, 3, 4, 5, 6, 7, 8, 9, 10, 11, 12, 13, 14, 15, 16, 17, 18, 19, 20, 21, 22, 23], [0, 1, 2, 3, 4, 5, 6, 7, 8, 9, 10, 11, 12, 13, 14, 15, 16, 17, 18, 19, 20, 21, 22, 23, 24, 25, 26, 27, 28, 29], [0, 1, 2, 3, 4, 5, 6, 7, 8, 9, 10, 11, 12, 13, 14, 15, 16, 17, 18, 19, 20, 21, 22, 23, 24, 25, 26, 27, 28, 29, 30], [0, 1, 2, 3, 4, 5, 6, 7, 8, 9, 10, 11, 12, 13, 14, 15, 16, 17, 18, 19, 20, 21, 22, 23, 24, 25, 26, 27, 28, 29, 30, 31]]) (J := [[], [0], [1], [2], [2], [2, 3, 4], [2], [2, 5, 6], [2, 7], [8], [9], [9], [9, 10, 11], [9, 12], [13], [14], [14], [14, 15, 16], [14], [14], [14, 18, 19], [14, 17, 20], [14, 21], [22], [23], [23], [23, 24, 25], [23], [23, 26, 27], [23], [23, 28, 29], [23, 30]]) (Je := [31]) (Rs := [Is _, Is _, Is _, Is _, Is _, Is _, Is _, Is _, Is _, Is _, Is _, Is _, Is _, Is _, Is _, Is _, Is _, Is _, Is _, Is _, Is _, Is _, Is _, Is _, Is _, Is _, Is _, Is _, Is _, Is _, Is _, Is _])
          · kernel_rfl
          · kernel_rfl
          · kernel_rfl
          · kernel_rfl
          · kernel_rfl
          · kernel_rfl
          · kernel_rfl
          · exact fun h => absurd rfl h
          · intro u
            simp only [List.take_succ_cons, List.take_zero, List.map_cons, List.map_nil, fillU, List.setIfInBounds_toArray, List.set_cons_zero, List.set_cons_succ, Nat.reduceAdd]
            exact rfl
          · simp only [List.take_succ_cons, List.take_zero]
            refine ⟨fun u W hb hd K hK => ?_, ?_⟩
            · clear hd
              rw [if_pos (by rfl)]
              refine wp_load_mid 24 (.tmp 4) rfl g4 0 rfl (ptV pO) _ (rangeAt_of_blk (bg4.below hb lg4)) Tryd.underlying24 rfl (infoPt.trans (by rw [ptV_length])) ?_
              exact hK _ _ _ rfl (Below.refl _ _) IsOut
            refine ⟨fun u W hb hd K hK => ?_, ?_⟩
            · simp only [Facts, nthR, Is, and_true] at hd
              simp only [hd] at hK ⊢
              clear hd
              go_simp
              refine (OnP (hT.up hb0 hb) (hpO)).mono ?_
              rintro e wy ⟨rfl, hby⟩
              exact hK _ _ _ rfl hby IsOut
            refine ⟨fun u W hb hd K hK => ?_, ?_⟩
            · simp only [Facts, nthR, Is, and_true] at hd
              simp only [hd] at hK ⊢
              clear hd
              go_simp
              apply hK
              · simp only [Act.put, List.setIfInBounds_toArray, List.set_cons_zero, List.set_cons_succ]
                exact rfl
              · exact Below.refl _ _
              · exact IsOut
            refine ⟨fun u W hb hd K hK => ?_, ?_⟩
            · simp only [Facts, nthR, Is, and_true] at hd
              simp only [hd] at hK ⊢
              clear hd
              rw [if_pos (by rfl)]
              refine wp_load_mid 24 (.tmp 3) rfl g3 0 rfl (ptV p7) _ (rangeAt_of_blk (bg3.below hb lg3)) Tryd.underlying24 rfl (infoPt.trans (by rw [ptV_length])) ?_
              exact hK _ _ _ rfl (Below.refl _ _) IsOut
            refine ⟨fun u W hb hd K hK => ?_, ?_⟩
            · simp only [Facts, nthR, Is, and_true] at hd
              simp only [hd] at hK ⊢
              clear hd
              rw [if_pos (by rfl)]
              refine wp_load_mid 24 (.tmp 4) rfl g4 0 rfl (ptV pO) _ (rangeAt_of_blk (bg4.below hb lg4)) Tryd.underlying24 rfl (infoPt.trans (by rw [ptV_length])) ?_
              exact hK _ _ _ rfl (Below.refl _ _) IsOut
            refine ⟨fun u W hb hd K hK => ?_, ?_⟩
            · simp only [Facts, nthR, Is, and_true] at hd
              simp only [hd] at hK ⊢
              clear hd
              go_simp
              refine (AddP (hT.up hb0 hb) (hp7) (hpO) hp38).mono ?_
              rintro e wy ⟨rfl, hby⟩
              exact hK _ _ _ rfl hby IsOut
            refine ⟨fun u W hb hd K hK => ?_, ?_⟩
            · simp only [Facts, nthR, Is, and_true] at hd
              simp only [hd] at hK ⊢
              clear hd
              rw [if_pos (by rfl)]
              refine wp_builtV 24 _ rfl [] rfl (ptV none).toArray builtZ ?_
              exact hK _ _ _ rfl (Below.refl _ _) IsOut
            refine ⟨fun u W hb hd K hK => ?_, ?_⟩
            · simp only [Facts, nthR, Is, and_true] at hd
              simp only [hd] at hK ⊢
              clear hd
              rw [if_pos (by rfl)]
              refine wp_eqlA rfl rfl rfl guardPt (show (Op.equalIn 10000 24 (.agg (ptV p38).toArray) (.agg (ptV none).toArray)).run Tryd.prog W = .ok true W from EqP (on_of (hp38)) (on_of ((Lib.hid rfl : Hid ((none : Pt) = mulG 0)))) (Lib.hid (decide_eq_true (E7.out))) W) ?_
              exact hK _ _ (.bool true) rfl (Below.refl _ _) IsOut
            refine ⟨fun u W hb hd K hK => ?_, ?_⟩
            · simp only [Facts, nthR, Is, and_true] at hd
              simp only [hd] at hK ⊢
              clear hd
              go_simp
              apply hK
              · simp only [Act.put, List.setIfInBounds_toArray, List.set_cons_zero, List.set_cons_succ]
                exact rfl
              · exact Below.refl _ _
              · exact IsOut
            refine ⟨fun u W hb hd K hK => ?_, ?_⟩
            · simp only [Facts, nthR, Is, and_true] at hd
              simp only [hd] at hK ⊢
              clear hd
              go_simp
              apply hK
              · simp only [Act.put, List.setIfInBounds_toArray, List.set_cons_zero, List.set_cons_succ]
                exact rfl
              · exact Below.refl _ _
              · exact IsOut
            refine ⟨fun u W hb hd K hK => ?_, ?_⟩
            · simp only [Facts, nthR, Is, and_true] at hd
              simp only [hd] at hK ⊢
              clear hd
              rw [if_pos (by rfl)]
              refine wp_load_mid 24 (.tmp 5) rfl g5 0 rfl (ptV p32) _ (rangeAt_of_blk (bg5.below hb lg5)) Tryd.underlying24 rfl (infoPt.trans (by rw [ptV_length])) ?_
              exact hK _ _ _ rfl (Below.refl _ _) IsOut
            refine ⟨fun u W hb hd K hK => ?_, ?_⟩
            · simp only [Facts, nthR, Is, and_true] at hd
              simp only [hd] at hK ⊢
              clear hd
              rw [if_pos (by rfl)]
              refine wp_load_mid 24 (.tmp 4) rfl g4 0 rfl (ptV pO) _ (rangeAt_of_blk (bg4.below hb lg4)) Tryd.underlying24 rfl (infoPt.trans (by rw [ptV_length])) ?_
              exact hK _ _ _ rfl (Below.refl _ _) IsOut
            refine ⟨fun u W hb hd K hK => ?_, ?_⟩
            · simp only [Facts, nthR, Is, and_true] at hd
              simp only [hd] at hK ⊢
              clear hd
              rw [if_pos (by rfl)]
              refine wp_eqlA rfl rfl rfl guardPt (show (Op.equalIn 10000 24 (.agg (ptV p32).toArray) (.agg (ptV pO).toArray)).run Tryd.prog W = .ok true W from EqP (on_of (hp32)) (on_of (hpO)) (Lib.hid (decide_eq_true (E12.out))) W) ?_
              exact hK _ _ (.bool true) rfl (Below.refl _ _) IsOut
            refine ⟨fun u W hb hd K hK => ?_, ?_⟩
            · simp only [Facts, nthR, Is, and_true] at hd
              simp only [hd] at hK ⊢
              clear hd
              go_simp
              apply hK
              · simp only [Act.put, List.setIfInBounds_toArray, List.set_cons_zero, List.set_cons_succ]
                exact rfl
              · exact Below.refl _ _
              · exact IsOut
            refine ⟨fun u W hb hd K hK => ?_, ?_⟩
            · simp only [Facts, nthR, Is, and_true] at hd
              simp only [hd] at hK ⊢
              clear hd
              go_simp
              apply hK
              · simp only [Act.put, List.setIfInBounds_toArray, List.set_cons_zero, List.set_cons_succ]
                exact rfl
              · exact Below.refl _ _
              · exact IsOut
            refine ⟨fun u W hb hd K hK => ?_, ?_⟩
            · simp only [Facts, nthR, Is, and_true] at hd
              simp only [hd] at hK ⊢
              clear hd
              rw [if_pos (by rfl)]
              refine wp_load_mid 24 (.tmp 3) rfl g3 0 rfl (ptV p7) _ (rangeAt_of_blk (bg3.below hb lg3)) Tryd.underlying24 rfl (infoPt.trans (by rw [ptV_length])) ?_
              exact hK _ _ _ rfl (Below.refl _ _) IsOut
            refine ⟨fun u W hb hd K hK => ?_, ?_⟩
            · simp only [Facts, nthR, Is, and_true] at hd
              simp only [hd] at hK ⊢
              clear hd
              rw [if_pos (by rfl)]
              refine wp_load_mid 24 (.tmp 3) rfl g3 0 rfl (ptV p7) _ (rangeAt_of_blk (bg3.below hb lg3)) Tryd.underlying24 rfl (infoPt.trans (by rw [ptV_length])) ?_
              exact hK _ _ _ rfl (Below.refl _ _) IsOut
            refine ⟨fun u W hb hd K hK => ?_, ?_⟩
            · simp only [Facts, nthR, Is, and_true] at hd
              simp only [hd] at hK ⊢
              clear hd
              go_simp
              refine (AddP (hT.up hb0 hb) (hp7) (hp7) hp50).mono ?_
              rintro e wy ⟨rfl, hby⟩
              exact hK _ _ _ rfl hby IsOut
            refine ⟨fun u W hb hd K hK => ?_, ?_⟩
            · simp only [Facts, nthR, Is, and_true] at hd
              simp only [hd] at hK ⊢
              clear hd
              go_simp
              refine (SmallE (by decide) hB51 _).mono ?_
              rintro e wy ⟨rfl, hby⟩
              exact hK _ _ _ rfl hby IsOut
            refine ⟨fun u W hb hd K hK => ?_, ?_⟩
            · simp only [Facts, nthR, Is, and_true] at hd
              simp only [hd] at hK ⊢
              clear hd
              rw [if_pos (by rfl)]
              refine wp_load_mid 24 (.tmp 3) rfl g3 0 rfl (ptV p7) _ (rangeAt_of_blk (bg3.below hb lg3)) Tryd.underlying24 rfl (infoPt.trans (by rw [ptV_length])) ?_
              exact hK _ _ _ rfl (Below.refl _ _) IsOut
            refine ⟨fun u W hb hd K hK => ?_, ?_⟩
            · simp only [Facts, nthR, Is, and_true] at hd
              simp only [hd] at hK ⊢
              clear hd
              go_simp
              refine (TimesP (hT.up hb0 hb) (small_len hB51) (small_val (by decide) hB51) (hp7) hp53).mono ?_
              rintro e wy ⟨rfl, hby⟩
              exact hK _ _ _ rfl hby IsOut
            refine ⟨fun u W hb hd K hK => ?_, ?_⟩
            · simp only [Facts, nthR, Is, and_true] at hd
              simp only [hd] at hK ⊢
              clear hd
              rw [if_pos (by rfl)]
              refine wp_eqlA rfl rfl rfl guardPt (show (Op.equalIn 10000 24 (.agg (ptV p50).toArray) (.agg (ptV p53).toArray)).run Tryd.prog W = .ok true W from EqP (on_of (hp50)) (on_of (hp53)) (Lib.hid (decide_eq_true (E21.out))) W) ?_
              exact hK _ _ (.bool true) rfl (Below.refl _ _) IsOut
            refine ⟨fun u W hb hd K hK => ?_, ?_⟩
            · simp only [Facts, nthR, Is, and_true] at hd
              simp only [hd] at hK ⊢
              clear hd
              go_simp
              apply hK
              · simp only [Act.put, List.setIfInBounds_toArray, List.set_cons_zero, List.set_cons_succ]
                exact rfl
              · exact Below.refl _ _
              · exact IsOut
            refine ⟨fun u W hb hd K hK => ?_, ?_⟩
            · simp only [Facts, nthR, Is, and_true] at hd
              simp only [hd] at hK ⊢
              clear hd
              go_simp
              apply hK
              · simp only [Act.put, List.setIfInBounds_toArray, List.set_cons_zero, List.set_cons_succ]
                exact rfl
              · exact Below.refl _ _
              · exact IsOut
            refine ⟨fun u W hb hd K hK => ?_, ?_⟩
            · simp only [Facts, nthR, Is, and_true] at hd
              simp only [hd] at hK ⊢
              clear hd
              rw [if_pos (by rfl)]
              refine wp_load_mid 24 (.tmp 3) rfl g3 0 rfl (ptV p7) _ (rangeAt_of_blk (bg3.below hb lg3)) Tryd.underlying24 rfl (infoPt.trans (by rw [ptV_length])) ?_
              exact hK _ _ _ rfl (Below.refl _ _) IsOut
            refine ⟨fun u W hb hd K hK => ?_, ?_⟩
            · simp only [Facts, nthR, Is, and_true] at hd
              simp only [hd] at hK ⊢
              clear hd
              rw [if_pos (by rfl)]
              refine wp_load_mid 24 (.tmp 3) rfl g3 0 rfl (ptV p7) _ (rangeAt_of_blk (bg3.below hb lg3)) Tryd.underlying24 rfl (infoPt.trans (by rw [ptV_length])) ?_
              exact hK _ _ _ rfl (Below.refl _ _) IsOut
            refine ⟨fun u W hb hd K hK => ?_, ?_⟩
            · simp only [Facts, nthR, Is, and_true] at hd
              simp only [hd] at hK ⊢
              clear hd
              go_simp
              refine (AddP (hT.up hb0 hb) (hp7) (hp7) hp59).mono ?_
              rintro e wy ⟨rfl, hby⟩
              exact hK _ _ _ rfl hby IsOut
            refine ⟨fun u W hb hd K hK => ?_, ?_⟩
            · simp only [Facts, nthR, Is, and_true] at hd
              simp only [hd] at hK ⊢
              clear hd
              rw [if_pos (by rfl)]
              refine wp_load_mid 24 (.tmp 4) rfl g4 0 rfl (ptV pO) _ (rangeAt_of_blk (bg4.below hb lg4)) Tryd.underlying24 rfl (infoPt.trans (by rw [ptV_length])) ?_
              exact hK _ _ _ rfl (Below.refl _ _) IsOut
            refine ⟨fun u W hb hd K hK => ?_, ?_⟩
            · simp only [Facts, nthR, Is, and_true] at hd
              simp only [hd] at hK ⊢
              clear hd
              go_simp
              refine (AddP (hT.up hb0 hb) (hp59) (hpO) hp61).mono ?_
              rintro e wy ⟨rfl, hby⟩
              exact hK _ _ _ rfl hby IsOut
            refine ⟨fun u W hb hd K hK => ?_, ?_⟩
            · simp only [Facts, nthR, Is, and_true] at hd
              simp only [hd] at hK ⊢
              clear hd
              rw [if_pos (by rfl)]
              refine wp_load_mid 24 (.tmp 3) rfl g3 0 rfl (ptV p7) _ (rangeAt_of_blk (bg3.below hb lg3)) Tryd.underlying24 rfl (infoPt.trans (by rw [ptV_length])) ?_
              exact hK _ _ _ rfl (Below.refl _ _) IsOut
            refine ⟨fun u W hb hd K hK => ?_, ?_⟩
            · simp only [Facts, nthR, Is, and_true] at hd
              simp only [hd] at hK ⊢
              clear hd
              rw [if_pos (by rfl)]
              refine wp_eqlA rfl rfl rfl guardPt (show (Op.equalIn 10000 24 (.agg (ptV p61).toArray) (.agg (ptV p7).toArray)).run Tryd.prog W = .ok true W from EqP (on_of (hp61)) (on_of (hp7)) (Lib.hid (decide_eq_true (E30.out))) W) ?_
              exact hK _ _ (.bool true) rfl (Below.refl _ _) IsOut
            refine ⟨fun u W hb hd K hK => ?_, ?_⟩
            · simp only [Facts, nthR, Is, and_true] at hd
              simp only [hd] at hK ⊢
              clear hd
              go_simp
              apply hK
              · simp only [Act.put, List.setIfInBounds_toArray, List.set_cons_zero, List.set_cons_succ]
                exact rfl
              · exact Below.refl _ _
              · exact IsOut
            exact trivial
          · skip
            exact trivial
          · exact (.is (.is (.is (.is (.is (.is (.is (.is (.is (.is (.is (.is (.is (.is (.is (.is (.is (.is (.is (.is (.is (.is (.is (.is (.is (.is (.is (.is (.is (.is (.is (.is .nil))))))))))))))))))))))))))))))))
          · intro u w10 hb hd
            simp only [List.drop_succ_cons, List.drop_zero]
            simp only [Facts, nthR, Is, and_true] at hd
            have h31 := hd
            clear hd
            simp only [h31]
            clear h31
            replace bg1 := bg1.below hb lg1
            replace bg3 := bg3.below hb lg3
            replace bg4 := bg4.below hb lg4
            replace bg5 := bg5.below hb lg5
            replace hb0 := hb0.trans (hb.mono hb0.size)
            replace lg1 := bg1.lt
            replace lg3 := bg3.lt
            replace lg4 := bg4.lt
            replace lg5 := bg5.lt
            clear hb
            go_wp2_with (fail)
            refine bodyPost_ret (results_tmp Tryd.results9 _ _ _) rfl ?_
            exact ⟨rfl, hb0⟩
theorem curveOpp_any (A : List UInt8) (w : World) (hT : TabsC w) (hA : Hid (A.length = 32)) : Calls Tryd.prog 9 #[.agg (A.map B8).toArray] w fun e w' => e = .returned (.bool true) ∧ Below w.heap.size w w' := by
  match h : mulG (ofTo A 32).val with
  | none => exact curveOpp_1 A w hT hA _ (Lib.hid rfl) (Lib.hid h)
  | some (x, y) => exact curveOpp_0 A w hT hA _ (Lib.hid rfl) x y (Lib.hid h)
end Go.Proofs.YtnkikhnllnbhfaaDoor
