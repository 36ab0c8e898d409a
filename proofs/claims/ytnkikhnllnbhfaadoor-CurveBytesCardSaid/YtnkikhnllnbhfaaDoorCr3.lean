/-
  The document's On.
-/
import Derived.Test.YtnkikhnllnbhfaaDoorCr2
namespace Go.Proofs.YtnkikhnllnbhfaaDoor
open Go.RowKit
open CurveMath

def kV (n : P4) : K := Fin.ofNat pN n.val
/-- Do two numbers hold the equation? -/
def onN (x y : P4) : Bool := lessP x primeP && lessP y primeP && decide (kV y * kV y = kV x * (kV x * kV x - 3) + bK)
theorem less_pK (a : K) : lessP (pK a) primeP = true := by
  rw [lessP_eq (pK_ok a) primeP_ok, decide_eq_true_iff, pK_val, primeP_val]
  exact a.isLt
theorem kV_pK (a : K) : kV (pK a) = a := by unfold kV; rw [pK_val]; exact ofNat_val a
theorem pK_kV {x : P4} (hx : x.ok) (h : lessP x primeP = true) : x = pK (kV x) := by
  rw [lessP_eq hx primeP_ok, decide_eq_true_iff, primeP_val] at h
  refine P4.ext_val hx (pK_ok _) ?_
  rw [pK_val]
  exact (Nat.mod_eq_of_lt h).symm
theorem holds_onN (X Y : List UInt8) : holdsB X Y = onN (ofTo X 32) (ofTo Y 32) := rfl
theorem primeP_okH : Hid primeP.ok := Lib.hid primeP_ok
set_option maxRecDepth 100000 in
set_option maxHeartbeats 400000 in
theorem rOn_bad1 (x y : P4) (w : World) (hx : Hid x.ok) (hb1 : Hid (lessP x primeP = false)) : Calls Tryd.prog 18 #[.agg (nC x).toArray, .agg (nC y).toArray] w fun e w' => e = .returned (.bool false) ∧ Below w.heap.size w w' := by
  go_enter Tryd.func18, Tryd.ntmps18
  have hb0 : Below w.heap.size w w := Below.refl _ _
  go_upto_region 0 with (fail)
  refine wp_region_lit ?_
  refine wpList_box_blk rfl 29 (.tmp 0) rfl (nC x) rfl ?_
  intro g2 w1 hg bg2 hb
  have og2 := Lib.hid (show w.heap.size ≤ g2 from Nat.le_trans hb0.size (Nat.le_of_eq hg.symm))
  clear hg
  replace hb0 := hb0.trans (hb.mono hb0.size)
  clear hb
  have lg2 := bg2.lt
  try simp only [Act.put, List.setIfInBounds_toArray, List.set_cons_zero, List.set_cons_succ]
  refine wpList_box_blk rfl 29 (.tmp 1) rfl (nC y) rfl ?_
  intro g3 w2 hg bg3 hb
  have og3 := Lib.hid (show w.heap.size ≤ g3 ∧ g2 < g3 from ⟨Nat.le_trans hb0.size (Nat.le_of_eq hg.symm), Nat.lt_of_lt_of_le lg2 (Nat.le_of_eq hg.symm)⟩)
  clear hg
  replace bg2 := bg2.below hb lg2
  replace hb0 := hb0.trans (hb.mono hb0.size)
  replace lg2 := bg2.lt
  clear hb
  have lg3 := bg3.lt
  try simp only [Act.put, List.setIfInBounds_toArray, List.set_cons_zero, List.set_cons_succ]
  go_upto_region 1 with (fail)
  apply wp_plain_once (m := 1) (J := [[]]) (Je := [0]) (Rs := [Is _])
  · kernel_rfl
  · kernel_rfl
  · intro u
    simp only [List.take_succ_cons, List.take_zero, List.map_cons, List.map_nil, fillU, List.setIfInBounds_toArray, List.set_cons_zero, List.set_cons_succ]
    exact rfl
  · simp only [List.take_succ_cons, List.take_zero]
    refine ⟨fun u W hb hd K hK => ?_, ?_⟩
    · clear hd
      go_simp
      refine (rP _).mono ?_
      rintro e wy ⟨rfl, hby⟩
      exact hK _ _ _ rfl hby IsOut
    exact trivial
  · exact (.is .nil)
  · intro u w3 hb hd
    simp only [List.drop_succ_cons, List.drop_zero]
    simp only [Facts, nthR, Is, and_true] at hd
    have h0 := hd
    clear hd
    simp only [h0]
    clear h0
    replace bg2 := bg2.below hb lg2
    replace bg3 := bg3.below hb lg3
    replace hb0 := hb0.trans (hb.mono hb0.size)
    replace lg2 := bg2.lt
    replace lg3 := bg3.lt
    clear hb
    refine wpList_new_blk rfl 29 rfl (nC zeroP) zeroN4 ?_
    intro g5 w4 hg bg5 hb
    have og5 := Lib.hid (show w.heap.size ≤ g5 ∧ g2 < g5 ∧ g3 < g5 from ⟨Nat.le_trans hb0.size (Nat.le_of_eq hg.symm), Nat.lt_of_lt_of_le lg2 (Nat.le_of_eq hg.symm), Nat.lt_of_lt_of_le lg3 (Nat.le_of_eq hg.symm)⟩)
    clear hg
    replace bg2 := bg2.below hb lg2
    replace bg3 := bg3.below hb lg3
    replace hb0 := hb0.trans (hb.mono hb0.size)
    replace lg2 := bg2.lt
    replace lg3 := bg3.lt
    clear hb
    have lg5 := bg5.lt
    try simp only [Act.put, List.setIfInBounds_toArray, List.set_cons_zero, List.set_cons_succ]
    refine wpList_store_blk rfl 29 (.tmp 5) (.tmp 8) rfl rfl g5 (nC primeP) rfl rfl _ _ bg5 (infoN6.trans (by rw [nC_length])) (by rw [nC_length]; with_reducible first | rfl | rw [nC_length]) (one4 _) ?_
    intro w5 bn hgs
    replace bg2 := bg2.grown hgs (fun e => Nat.ne_of_lt og5.out.2.1 (Option.some.inj e))
    replace bg3 := bg3.grown hgs (fun e => Nat.ne_of_lt og5.out.2.2 (Option.some.inj e))
    replace hb0 := below_new hb0 hgs og5.out.1 hb0.size
    clear hgs bg5
    have bg5 := bn
    clear bn
    replace lg2 := bg2.lt
    replace lg3 := bg3.lt
    replace lg5 := bg5.lt
    try simp only [Act.put, List.setIfInBounds_toArray, List.set_cons_zero, List.set_cons_succ]
    go_upto_region 2 with (fail)
    apply wp_plain_once (m := 10) (J := [[], [], [0, 1], [2], [3], [4], [4], [4, 5, 6], [4, 7], [4, 8]]) (Je := [9]) (Rs := [Is _, Is _, Is _, Is _, Is _, Is _, Is _, Is _, Is _, Is _])
    · kernel_rfl
    · kernel_rfl
    · intro u
      simp only [List.take_succ_cons, List.take_zero, List.map_cons, List.map_nil, fillU, List.setIfInBounds_toArray, List.set_cons_zero, List.set_cons_succ, Nat.zero_add, Nat.reduceAdd]
      exact rfl
    · simp only [List.take_succ_cons, List.take_zero]
      refine ⟨fun u W hb hd K hK => ?_, ?_⟩
      · clear hd
        rw [if_pos (by rfl)]
        refine wp_load_mid 29 (.tmp 2) rfl g2 0 rfl (nC x) _ (rangeAt_of_blk (bg2.below hb lg2)) Tryd.underlying29 rfl (infoN6.trans (by rw [nC_length])) ?_
        exact hK _ _ _ rfl (Below.refl _ _) IsOut
      refine ⟨fun u W hb hd K hK => ?_, ?_⟩
      · clear hd
        rw [if_pos (by rfl)]
        refine wp_load_mid 29 (.tmp 5) rfl g5 0 rfl (nC primeP) _ (rangeAt_of_blk (bg5.below hb lg5)) Tryd.underlying29 rfl (infoN6.trans (by rw [nC_length])) ?_
        exact hK _ _ _ rfl (Below.refl _ _) IsOut
      refine ⟨fun u W hb hd K hK => ?_, ?_⟩
      · simp only [Facts, nthR, Is, and_true] at hd
        simp only [hd] at hK ⊢
        clear hd
        go_simp
        refine (RLess hx primeP_okH hb1 _).mono ?_
        rintro e wy ⟨rfl, hby⟩
        exact hK _ _ _ rfl hby IsOut
      refine ⟨fun u W hb hd K hK => ?_, ?_⟩
      · simp only [Facts, nthR, Is, and_true] at hd
        simp only [hd] at hK ⊢
        clear hd
        go_simp
        apply hK
        · simp only [Act.put, List.setIfInBounds_toArray, List.set_cons_zero, List.set_cons_succ]
          exact rfl
        · exact Below.refl _ _
        · exact IsOut
      refine ⟨fun u W hb hd K hK => ?_, ?_⟩
      · simp only [Facts, nthR, Is, and_true] at hd
        simp only [hd] at hK ⊢
        clear hd
        go_simp
        apply hK
        · simp only [Act.put, List.setIfInBounds_toArray, List.set_cons_zero, List.set_cons_succ]
          exact rfl
        · exact Below.refl _ _
        · exact IsOut
      refine ⟨fun u W hb hd K hK => ?_, ?_⟩
      · simp only [Facts, nthR, Is, and_true] at hd
        simp only [hd] at hK ⊢
        clear hd
        go_simp
        apply hK
        · simp only [Act.put, List.setIfInBounds_toArray, List.set_cons_zero, List.set_cons_succ]
          exact rfl
        · exact Below.refl _ _
        · exact IsOut
      refine ⟨fun u W hb hd K hK => ?_, ?_⟩
      · simp only [Facts, nthR, Is, and_true] at hd
        simp only [hd] at hK ⊢
        clear hd
        go_simp
        apply hK
        · simp only [Act.put, List.setIfInBounds_toArray, List.set_cons_zero, List.set_cons_succ]
          exact rfl
        · exact Below.refl _ _
        · exact IsOut
      refine ⟨fun u W hb hd K hK => ?_, ?_⟩
      · simp only [Facts, nthR, Is, and_true] at hd
        simp only [hd] at hK ⊢
        clear hd
        go_simp
        apply hK
        · simp only [Act.put, List.setIfInBounds_toArray, List.set_cons_zero, List.set_cons_succ]
          exact rfl
        · exact Below.refl _ _
        · exact IsOut
      refine ⟨fun u W hb hd K hK => ?_, ?_⟩
      · simp only [Facts, nthR, Is, and_true] at hd
        simp only [hd] at hK ⊢
        clear hd
        go_simp
        apply hK
        · simp only [Act.put, List.setIfInBounds_toArray, List.set_cons_zero, List.set_cons_succ]
          exact rfl
        · exact Below.refl _ _
        · exact IsOut
      refine ⟨fun u W hb hd K hK => ?_, ?_⟩
      · simp only [Facts, nthR, Is, and_true] at hd
        simp only [hd] at hK ⊢
        clear hd
        go_simp
        apply hK
        · simp only [Act.put, List.setIfInBounds_toArray, List.set_cons_zero, List.set_cons_succ]
          exact rfl
        · exact Below.refl _ _
        · exact IsOut
      exact trivial
    · exact (.is (.is (.is (.is (.is (.is (.is (.is (.is (.is .nil))))))))))
    · intro u w6 hb hd
      simp only [List.drop_succ_cons, List.drop_zero]
      simp only [Facts, nthR, Is, and_true] at hd
      have h9 := hd
      clear hd
      simp only [h9]
      clear h9
      replace bg2 := bg2.below hb lg2
      replace bg3 := bg3.below hb lg3
      replace bg5 := bg5.below hb lg5
      replace hb0 := hb0.trans (hb.mono hb0.size)
      replace lg2 := bg2.lt
      replace lg3 := bg3.lt
      replace lg5 := bg5.lt
      clear hb
      go_upto_region 3 with (fail)
      refine wp_region_lit ?_
      go_wp2_with (fail)
      refine bodyPost_ret (results_tmp Tryd.results18 _ _ _) rfl ?_
      exact ⟨rfl, hb0⟩
set_option maxRecDepth 100000 in
set_option maxHeartbeats 400000 in
theorem rOn_bad2 (x y : P4) (w : World) (hx : Hid x.ok) (hy : Hid y.ok) (hb1 : Hid (lessP x primeP = true)) (hb2 : Hid (lessP y primeP = false)) : Calls Tryd.prog 18 #[.agg (nC x).toArray, .agg (nC y).toArray] w fun e w' => e = .returned (.bool false) ∧ Below w.heap.size w w' := by
  go_enter Tryd.func18, Tryd.ntmps18
  have hb0 : Below w.heap.size w w := Below.refl _ _
  go_upto_region 0 with (fail)
  refine wp_region_lit ?_
  refine wpList_box_blk rfl 29 (.tmp 0) rfl (nC x) rfl ?_
  intro g2 w1 hg bg2 hb
  have og2 := Lib.hid (show w.heap.size ≤ g2 from Nat.le_trans hb0.size (Nat.le_of_eq hg.symm))
  clear hg
  replace hb0 := hb0.trans (hb.mono hb0.size)
  clear hb
  have lg2 := bg2.lt
  try simp only [Act.put, List.setIfInBounds_toArray, List.set_cons_zero, List.set_cons_succ]
  refine wpList_box_blk rfl 29 (.tmp 1) rfl (nC y) rfl ?_
  intro g3 w2 hg bg3 hb
  have og3 := Lib.hid (show w.heap.size ≤ g3 ∧ g2 < g3 from ⟨Nat.le_trans hb0.size (Nat.le_of_eq hg.symm), Nat.lt_of_lt_of_le lg2 (Nat.le_of_eq hg.symm)⟩)
  clear hg
  replace bg2 := bg2.below hb lg2
  replace hb0 := hb0.trans (hb.mono hb0.size)
  replace lg2 := bg2.lt
  clear hb
  have lg3 := bg3.lt
  try simp only [Act.put, List.setIfInBounds_toArray, List.set_cons_zero, List.set_cons_succ]
  go_upto_region 1 with (fail)
  apply wp_plain_once (m := 1) (J := [[]]) (Je := [0]) (Rs := [Is _])
  · kernel_rfl
  · kernel_rfl
  · intro u
    simp only [List.take_succ_cons, List.take_zero, List.map_cons, List.map_nil, fillU, List.setIfInBounds_toArray, List.set_cons_zero, List.set_cons_succ]
    exact rfl
  · simp only [List.take_succ_cons, List.take_zero]
    refine ⟨fun u W hb hd K hK => ?_, ?_⟩
    · clear hd
      go_simp
      refine (rP _).mono ?_
      rintro e wy ⟨rfl, hby⟩
      exact hK _ _ _ rfl hby IsOut
    exact trivial
  · exact (.is .nil)
  · intro u w3 hb hd
    simp only [List.drop_succ_cons, List.drop_zero]
    simp only [Facts, nthR, Is, and_true] at hd
    have h0 := hd
    clear hd
    simp only [h0]
    clear h0
    replace bg2 := bg2.below hb lg2
    replace bg3 := bg3.below hb lg3
    replace hb0 := hb0.trans (hb.mono hb0.size)
    replace lg2 := bg2.lt
    replace lg3 := bg3.lt
    clear hb
    refine wpList_new_blk rfl 29 rfl (nC zeroP) zeroN4 ?_
    intro g5 w4 hg bg5 hb
    have og5 := Lib.hid (show w.heap.size ≤ g5 ∧ g2 < g5 ∧ g3 < g5 from ⟨Nat.le_trans hb0.size (Nat.le_of_eq hg.symm), Nat.lt_of_lt_of_le lg2 (Nat.le_of_eq hg.symm), Nat.lt_of_lt_of_le lg3 (Nat.le_of_eq hg.symm)⟩)
    clear hg
    replace bg2 := bg2.below hb lg2
    replace bg3 := bg3.below hb lg3
    replace hb0 := hb0.trans (hb.mono hb0.size)
    replace lg2 := bg2.lt
    replace lg3 := bg3.lt
    clear hb
    have lg5 := bg5.lt
    try simp only [Act.put, List.setIfInBounds_toArray, List.set_cons_zero, List.set_cons_succ]
    refine wpList_store_blk rfl 29 (.tmp 5) (.tmp 8) rfl rfl g5 (nC primeP) rfl rfl _ _ bg5 (infoN6.trans (by rw [nC_length])) (by rw [nC_length]; with_reducible first | rfl | rw [nC_length]) (one4 _) ?_
    intro w5 bn hgs
    replace bg2 := bg2.grown hgs (fun e => Nat.ne_of_lt og5.out.2.1 (Option.some.inj e))
    replace bg3 := bg3.grown hgs (fun e => Nat.ne_of_lt og5.out.2.2 (Option.some.inj e))
    replace hb0 := below_new hb0 hgs og5.out.1 hb0.size
    clear hgs bg5
    have bg5 := bn
    clear bn
    replace lg2 := bg2.lt
    replace lg3 := bg3.lt
    replace lg5 := bg5.lt
    try simp only [Act.put, List.setIfInBounds_toArray, List.set_cons_zero, List.set_cons_succ]
    go_upto_region 2 with (fail)
    apply wp_plain_once (m := 10) (J := [[], [], [0, 1], [2], [3], [4], [4], [4, 5, 6], [4, 7], [4, 8]]) (Je := [9]) (Rs := [Is _, Is _, Is _, Is _, Is _, Is _, Is _, Is _, Is _, Is _])
    · kernel_rfl
    · kernel_rfl
    · intro u
      simp only [List.take_succ_cons, List.take_zero, List.map_cons, List.map_nil, fillU, List.setIfInBounds_toArray, List.set_cons_zero, List.set_cons_succ, Nat.zero_add, Nat.reduceAdd]
      exact rfl
    · simp only [List.take_succ_cons, List.take_zero]
      refine ⟨fun u W hb hd K hK => ?_, ?_⟩
      · clear hd
        rw [if_pos (by rfl)]
        refine wp_load_mid 29 (.tmp 2) rfl g2 0 rfl (nC x) _ (rangeAt_of_blk (bg2.below hb lg2)) Tryd.underlying29 rfl (infoN6.trans (by rw [nC_length])) ?_
        exact hK _ _ _ rfl (Below.refl _ _) IsOut
      refine ⟨fun u W hb hd K hK => ?_, ?_⟩
      · clear hd
        rw [if_pos (by rfl)]
        refine wp_load_mid 29 (.tmp 5) rfl g5 0 rfl (nC primeP) _ (rangeAt_of_blk (bg5.below hb lg5)) Tryd.underlying29 rfl (infoN6.trans (by rw [nC_length])) ?_
        exact hK _ _ _ rfl (Below.refl _ _) IsOut
      refine ⟨fun u W hb hd K hK => ?_, ?_⟩
      · simp only [Facts, nthR, Is, and_true] at hd
        simp only [hd] at hK ⊢
        clear hd
        go_simp
        refine (RLess hx primeP_okH hb1 _).mono ?_
        rintro e wy ⟨rfl, hby⟩
        exact hK _ _ _ rfl hby IsOut
      refine ⟨fun u W hb hd K hK => ?_, ?_⟩
      · simp only [Facts, nthR, Is, and_true] at hd
        simp only [hd] at hK ⊢
        clear hd
        go_simp
        apply hK
        · simp only [Act.put, List.setIfInBounds_toArray, List.set_cons_zero, List.set_cons_succ]
          exact rfl
        · exact Below.refl _ _
        · exact IsOut
      refine ⟨fun u W hb hd K hK => ?_, ?_⟩
      · simp only [Facts, nthR, Is, and_true] at hd
        simp only [hd] at hK ⊢
        clear hd
        go_simp
        apply hK
        · simp only [Act.put, List.setIfInBounds_toArray, List.set_cons_zero, List.set_cons_succ]
          exact rfl
        · exact Below.refl _ _
        · exact IsOut
      refine ⟨fun u W hb hd K hK => ?_, ?_⟩
      · simp only [Facts, nthR, Is, and_true] at hd
        simp only [hd] at hK ⊢
        clear hd
        rw [if_pos (by rfl)]
        refine wp_load_mid 29 (.tmp 3) rfl g3 0 rfl (nC y) _ (rangeAt_of_blk (bg3.below hb lg3)) Tryd.underlying29 rfl (infoN6.trans (by rw [nC_length])) ?_
        exact hK _ _ _ rfl (Below.refl _ _) IsOut
      refine ⟨fun u W hb hd K hK => ?_, ?_⟩
      · simp only [Facts, nthR, Is, and_true] at hd
        simp only [hd] at hK ⊢
        clear hd
        rw [if_pos (by rfl)]
        refine wp_load_mid 29 (.tmp 5) rfl g5 0 rfl (nC primeP) _ (rangeAt_of_blk (bg5.below hb lg5)) Tryd.underlying29 rfl (infoN6.trans (by rw [nC_length])) ?_
        exact hK _ _ _ rfl (Below.refl _ _) IsOut
      refine ⟨fun u W hb hd K hK => ?_, ?_⟩
      · simp only [Facts, nthR, Is, and_true] at hd
        simp only [hd] at hK ⊢
        clear hd
        go_simp
        refine (RLess hy primeP_okH hb2 _).mono ?_
        rintro e wy ⟨rfl, hby⟩
        exact hK _ _ _ rfl hby IsOut
      refine ⟨fun u W hb hd K hK => ?_, ?_⟩
      · simp only [Facts, nthR, Is, and_true] at hd
        simp only [hd] at hK ⊢
        clear hd
        go_simp
        apply hK
        · simp only [Act.put, List.setIfInBounds_toArray, List.set_cons_zero, List.set_cons_succ]
          exact rfl
        · exact Below.refl _ _
        · exact IsOut
      refine ⟨fun u W hb hd K hK => ?_, ?_⟩
      · simp only [Facts, nthR, Is, and_true] at hd
        simp only [hd] at hK ⊢
        clear hd
        go_simp
        apply hK
        · simp only [Act.put, List.setIfInBounds_toArray, List.set_cons_zero, List.set_cons_succ]
          exact rfl
        · exact Below.refl _ _
        · exact IsOut
      exact trivial
    · exact (.is (.is (.is (.is (.is (.is (.is (.is (.is (.is .nil))))))))))
    · intro u w6 hb hd
      simp only [List.drop_succ_cons, List.drop_zero]
      simp only [Facts, nthR, Is, and_true] at hd
      have h9 := hd
      clear hd
      simp only [h9]
      clear h9
      replace bg2 := bg2.below hb lg2
      replace bg3 := bg3.below hb lg3
      replace bg5 := bg5.below hb lg5
      replace hb0 := hb0.trans (hb.mono hb0.size)
      replace lg2 := bg2.lt
      replace lg3 := bg3.lt
      replace lg5 := bg5.lt
      clear hb
      go_upto_region 3 with (fail)
      refine wp_region_lit ?_
      go_wp2_with (fail)
      refine bodyPost_ret (results_tmp Tryd.results18 _ _ _) rfl ?_
      exact ⟨rfl, hb0⟩
set_option maxRecDepth 100000 in
set_option maxHeartbeats 400000 in
theorem rOn_k (x y : K) (w : World) (b : Bool) (hbQ : Hid (decide (y * y = x * (x * x - 3) + bK) = b)) : Calls Tryd.prog 18 #[.agg (kC x).toArray, .agg (kC y).toArray] w fun e w' => e = .returned (.bool b) ∧ Below w.heap.size w w' := by
  go_enter Tryd.func18, Tryd.ntmps18
  have hb0 : Below w.heap.size w w := Below.refl _ _
  go_upto_region 0 with (fail)
  refine wp_region_lit ?_
  refine wpList_box_blk rfl 29 (.tmp 0) rfl (kC x) rfl ?_
  intro g2 w1 hg bg2 hb
  have og2 := Lib.hid (show w.heap.size ≤ g2 from Nat.le_trans hb0.size (Nat.le_of_eq hg.symm))
  clear hg
  replace hb0 := hb0.trans (hb.mono hb0.size)
  clear hb
  have lg2 := bg2.lt
  try simp only [Act.put, List.setIfInBounds_toArray, List.set_cons_zero, List.set_cons_succ]
  refine wpList_box_blk rfl 29 (.tmp 1) rfl (kC y) rfl ?_
  intro g3 w2 hg bg3 hb
  have og3 := Lib.hid (show w.heap.size ≤ g3 ∧ g2 < g3 from ⟨Nat.le_trans hb0.size (Nat.le_of_eq hg.symm), Nat.lt_of_lt_of_le lg2 (Nat.le_of_eq hg.symm)⟩)
  clear hg
  replace bg2 := bg2.below hb lg2
  replace hb0 := hb0.trans (hb.mono hb0.size)
  replace lg2 := bg2.lt
  clear hb
  have lg3 := bg3.lt
  try simp only [Act.put, List.setIfInBounds_toArray, List.set_cons_zero, List.set_cons_succ]
  go_upto_region 1 with (fail)
  apply wp_plain_once (m := 1) (J := [[]]) (Je := [0]) (Rs := [Is _])
  · kernel_rfl
  · kernel_rfl
  · intro u
    simp only [List.take_succ_cons, List.take_zero, List.map_cons, List.map_nil, fillU, List.setIfInBounds_toArray, List.set_cons_zero, List.set_cons_succ]
    exact rfl
  · simp only [List.take_succ_cons, List.take_zero]
    refine ⟨fun u W hb hd K hK => ?_, ?_⟩
    · clear hd
      go_simp
      refine (rP _).mono ?_
      rintro e wy ⟨rfl, hby⟩
      exact hK _ _ _ rfl hby IsOut
    exact trivial
  · exact (.is .nil)
  · intro u w3 hb hd
    simp only [List.drop_succ_cons, List.drop_zero]
    simp only [Facts, nthR, Is, and_true] at hd
    have h0 := hd
    clear hd
    simp only [h0]
    clear h0
    replace bg2 := bg2.below hb lg2
    replace bg3 := bg3.below hb lg3
    replace hb0 := hb0.trans (hb.mono hb0.size)
    replace lg2 := bg2.lt
    replace lg3 := bg3.lt
    clear hb
    refine wpList_new_blk rfl 29 rfl (nC zeroP) zeroN4 ?_
    intro g5 w4 hg bg5 hb
    have og5 := Lib.hid (show w.heap.size ≤ g5 ∧ g2 < g5 ∧ g3 < g5 from ⟨Nat.le_trans hb0.size (Nat.le_of_eq hg.symm), Nat.lt_of_lt_of_le lg2 (Nat.le_of_eq hg.symm), Nat.lt_of_lt_of_le lg3 (Nat.le_of_eq hg.symm)⟩)
    clear hg
    replace bg2 := bg2.below hb lg2
    replace bg3 := bg3.below hb lg3
    replace hb0 := hb0.trans (hb.mono hb0.size)
    replace lg2 := bg2.lt
    replace lg3 := bg3.lt
    clear hb
    have lg5 := bg5.lt
    try simp only [Act.put, List.setIfInBounds_toArray, List.set_cons_zero, List.set_cons_succ]
    refine wpList_store_blk rfl 29 (.tmp 5) (.tmp 8) rfl rfl g5 (nC primeP) rfl rfl _ _ bg5 (infoN6.trans (by rw [nC_length])) (by rw [nC_length]; with_reducible first | rfl | rw [nC_length]) (one4 _) ?_
    intro w5 bn hgs
    replace bg2 := bg2.grown hgs (fun e => Nat.ne_of_lt og5.out.2.1 (Option.some.inj e))
    replace bg3 := bg3.grown hgs (fun e => Nat.ne_of_lt og5.out.2.2 (Option.some.inj e))
    replace hb0 := below_new hb0 hgs og5.out.1 hb0.size
    clear hgs bg5
    have bg5 := bn
    clear bn
    replace lg2 := bg2.lt
    replace lg3 := bg3.lt
    replace lg5 := bg5.lt
    try simp only [Act.put, List.setIfInBounds_toArray, List.set_cons_zero, List.set_cons_succ]
    go_upto_region 2 with (fail)
    apply wp_plain_once (m := 10) (J := [[], [], [0, 1], [2], [3], [4], [4], [4, 5, 6], [4, 7], [4, 8]]) (Je := [9]) (Rs := [Is _, Is _, Is _, Is _, Is _, Is _, Is _, Is _, Is _, Is _])
    · kernel_rfl
    · kernel_rfl
    · intro u
      simp only [List.take_succ_cons, List.take_zero, List.map_cons, List.map_nil, fillU, List.setIfInBounds_toArray, List.set_cons_zero, List.set_cons_succ, Nat.zero_add, Nat.reduceAdd]
      exact rfl
    · simp only [List.take_succ_cons, List.take_zero]
      refine ⟨fun u W hb hd K hK => ?_, ?_⟩
      · clear hd
        rw [if_pos (by rfl)]
        refine wp_load_mid 29 (.tmp 2) rfl g2 0 rfl (kC x) _ (rangeAt_of_blk (bg2.below hb lg2)) Tryd.underlying29 rfl (infoN6.trans (by rw [kC_length])) ?_
        exact hK _ _ _ rfl (Below.refl _ _) IsOut
      refine ⟨fun u W hb hd K hK => ?_, ?_⟩
      · clear hd
        rw [if_pos (by rfl)]
        refine wp_load_mid 29 (.tmp 5) rfl g5 0 rfl (nC primeP) _ (rangeAt_of_blk (bg5.below hb lg5)) Tryd.underlying29 rfl (infoN6.trans (by rw [nC_length])) ?_
        exact hK _ _ _ rfl (Below.refl _ _) IsOut
      refine ⟨fun u W hb hd K hK => ?_, ?_⟩
      · simp only [Facts, nthR, Is, and_true] at hd
        simp only [hd] at hK ⊢
        clear hd
        go_simp
        refine (RLess (Lib.hid (pK_ok x)) primeP_okH (Lib.hid (less_pK x)) _).mono ?_
        rintro e wy ⟨rfl, hby⟩
        exact hK _ _ _ rfl hby IsOut
      refine ⟨fun u W hb hd K hK => ?_, ?_⟩
      · simp only [Facts, nthR, Is, and_true] at hd
        simp only [hd] at hK ⊢
        clear hd
        go_simp
        apply hK
        · simp only [Act.put, List.setIfInBounds_toArray, List.set_cons_zero, List.set_cons_succ]
          exact rfl
        · exact Below.refl _ _
        · exact IsOut
      refine ⟨fun u W hb hd K hK => ?_, ?_⟩
      · simp only [Facts, nthR, Is, and_true] at hd
        simp only [hd] at hK ⊢
        clear hd
        go_simp
        apply hK
        · simp only [Act.put, List.setIfInBounds_toArray, List.set_cons_zero, List.set_cons_succ]
          exact rfl
        · exact Below.refl _ _
        · exact IsOut
      refine ⟨fun u W hb hd K hK => ?_, ?_⟩
      · simp only [Facts, nthR, Is, and_true] at hd
        simp only [hd] at hK ⊢
        clear hd
        rw [if_pos (by rfl)]
        refine wp_load_mid 29 (.tmp 3) rfl g3 0 rfl (kC y) _ (rangeAt_of_blk (bg3.below hb lg3)) Tryd.underlying29 rfl (infoN6.trans (by rw [kC_length])) ?_
        exact hK _ _ _ rfl (Below.refl _ _) IsOut
      refine ⟨fun u W hb hd K hK => ?_, ?_⟩
      · simp only [Facts, nthR, Is, and_true] at hd
        simp only [hd] at hK ⊢
        clear hd
        rw [if_pos (by rfl)]
        refine wp_load_mid 29 (.tmp 5) rfl g5 0 rfl (nC primeP) _ (rangeAt_of_blk (bg5.below hb lg5)) Tryd.underlying29 rfl (infoN6.trans (by rw [nC_length])) ?_
        exact hK _ _ _ rfl (Below.refl _ _) IsOut
      refine ⟨fun u W hb hd K hK => ?_, ?_⟩
      · simp only [Facts, nthR, Is, and_true] at hd
        simp only [hd] at hK ⊢
        clear hd
        go_simp
        refine (RLess (Lib.hid (pK_ok y)) primeP_okH (Lib.hid (less_pK y)) _).mono ?_
        rintro e wy ⟨rfl, hby⟩
        exact hK _ _ _ rfl hby IsOut
      refine ⟨fun u W hb hd K hK => ?_, ?_⟩
      · simp only [Facts, nthR, Is, and_true] at hd
        simp only [hd] at hK ⊢
        clear hd
        go_simp
        apply hK
        · simp only [Act.put, List.setIfInBounds_toArray, List.set_cons_zero, List.set_cons_succ]
          exact rfl
        · exact Below.refl _ _
        · exact IsOut
      refine ⟨fun u W hb hd K hK => ?_, ?_⟩
      · simp only [Facts, nthR, Is, and_true] at hd
        simp only [hd] at hK ⊢
        clear hd
        go_simp
        apply hK
        · simp only [Act.put, List.setIfInBounds_toArray, List.set_cons_zero, List.set_cons_succ]
          exact rfl
        · exact Below.refl _ _
        · exact IsOut
      exact trivial
    · exact (.is (.is (.is (.is (.is (.is (.is (.is (.is (.is .nil))))))))))
    · intro u w6 hb hd
      simp only [List.drop_succ_cons, List.drop_zero]
      simp only [Facts, nthR, Is, and_true] at hd
      have h9 := hd
      clear hd
      simp only [h9]
      clear h9
      replace bg2 := bg2.below hb lg2
      replace bg3 := bg3.below hb lg3
      replace bg5 := bg5.below hb lg5
      replace hb0 := hb0.trans (hb.mono hb0.size)
      replace lg2 := bg2.lt
      replace lg3 := bg3.lt
      replace lg5 := bg5.lt
      clear hb
      go_upto_region 4 with (fail)
      obtain ⟨r22, hr22⟩ : ∃ s : K, Hid (s = y * y) := ⟨_, Lib.hid rfl⟩
      apply wp_plain_once (m := 4) (J := [[], [], [], [0, 1, 2]]) (Je := [3]) (Rs := [Is _, Is _, Is _, Is _])
      · kernel_rfl
      · kernel_rfl
      · intro u
        simp only [List.take_succ_cons, List.take_zero, List.map_cons, List.map_nil, fillU, List.setIfInBounds_toArray, List.set_cons_zero, List.set_cons_succ, Nat.zero_add, Nat.reduceAdd]
        exact rfl
      · simp only [List.take_succ_cons, List.take_zero]
        refine ⟨fun u W hb hd K hK => ?_, ?_⟩
        · clear hd
          rw [if_pos (by rfl)]
          refine wp_load_mid 29 (.tmp 3) rfl g3 0 rfl (kC y) _ (rangeAt_of_blk (bg3.below hb lg3)) Tryd.underlying29 rfl (infoN6.trans (by rw [kC_length])) ?_
          exact hK _ _ _ rfl (Below.refl _ _) IsOut
        refine ⟨fun u W hb hd K hK => ?_, ?_⟩
        · clear hd
          rw [if_pos (by rfl)]
          refine wp_load_mid 29 (.tmp 3) rfl g3 0 rfl (kC y) _ (rangeAt_of_blk (bg3.below hb lg3)) Tryd.underlying29 rfl (infoN6.trans (by rw [kC_length])) ?_
          exact hK _ _ _ rfl (Below.refl _ _) IsOut
        refine ⟨fun u W hb hd K hK => ?_, ?_⟩
        · clear hd
          rw [if_pos (by rfl)]
          refine wp_load_mid 29 (.tmp 5) rfl g5 0 rfl (nC primeP) _ (rangeAt_of_blk (bg5.below hb lg5)) Tryd.underlying29 rfl (infoN6.trans (by rw [nC_length])) ?_
          exact hK _ _ _ rfl (Below.refl _ _) IsOut
        refine ⟨fun u W hb hd K hK => ?_, ?_⟩
        · simp only [Facts, nthR, Is, and_true] at hd
          simp only [hd] at hK ⊢
          clear hd
          go_simp
          refine (RMulK hr22 _).mono ?_
          rintro e wy ⟨rfl, hby⟩
          exact hK _ _ _ rfl hby IsOut
        exact trivial
      · exact (.is (.is (.is (.is .nil))))
      · intro u w7 hb hd
        simp only [List.drop_succ_cons, List.drop_zero]
        simp only [Facts, nthR, Is, and_true] at hd
        have h3 := hd
        clear hd
        simp only [h3]
        clear h3
        replace bg2 := bg2.below hb lg2
        replace bg3 := bg3.below hb lg3
        replace bg5 := bg5.below hb lg5
        replace hb0 := hb0.trans (hb.mono hb0.size)
        replace lg2 := bg2.lt
        replace lg3 := bg3.lt
        replace lg5 := bg5.lt
        clear hb
        refine wpList_new_blk rfl 29 rfl (nC zeroP) zeroN4 ?_
        intro g6 w8 hg bg6 hb
        have og6 := Lib.hid (show w.heap.size ≤ g6 ∧ g2 < g6 ∧ g3 < g6 ∧ g5 < g6 from ⟨Nat.le_trans hb0.size (Nat.le_of_eq hg.symm), Nat.lt_of_lt_of_le lg2 (Nat.le_of_eq hg.symm), Nat.lt_of_lt_of_le lg3 (Nat.le_of_eq hg.symm), Nat.lt_of_lt_of_le lg5 (Nat.le_of_eq hg.symm)⟩)
        clear hg
        replace bg2 := bg2.below hb lg2
        replace bg3 := bg3.below hb lg3
        replace bg5 := bg5.below hb lg5
        replace hb0 := hb0.trans (hb.mono hb0.size)
        replace lg2 := bg2.lt
        replace lg3 := bg3.lt
        replace lg5 := bg5.lt
        clear hb
        have lg6 := bg6.lt
        try simp only [Act.put, List.setIfInBounds_toArray, List.set_cons_zero, List.set_cons_succ]
        refine wpList_store_blk rfl 29 (.tmp 6) (.tmp 22) rfl rfl g6 (kC r22) rfl rfl _ _ bg6 (infoN6.trans (by rw [kC_length])) (by rw [nC_length]; with_reducible first | rfl | rw [kC_length]) (oneK4 _) ?_
        intro w9 bn hgs
        replace bg2 := bg2.grown hgs (fun e => Nat.ne_of_lt og6.out.2.1 (Option.some.inj e))
        replace bg3 := bg3.grown hgs (fun e => Nat.ne_of_lt og6.out.2.2.1 (Option.some.inj e))
        replace bg5 := bg5.grown hgs (fun e => Nat.ne_of_lt og6.out.2.2.2 (Option.some.inj e))
        replace hb0 := below_new hb0 hgs og6.out.1 hb0.size
        clear hgs bg6
        have bg6 := bn
        clear bn
        replace lg2 := bg2.lt
        replace lg3 := bg3.lt
        replace lg5 := bg5.lt
        replace lg6 := bg6.lt
        try simp only [Act.put, List.setIfInBounds_toArray, List.set_cons_zero, List.set_cons_succ]
        go_upto_region 5 with (fail)
        obtain ⟨r26, hr26⟩ : ∃ s : K, Hid (s = x * x) := ⟨_, Lib.hid rfl⟩
        obtain ⟨r29, hr29⟩ : ∃ s : K, Hid (s = r26 - 3) := ⟨_, Lib.hid rfl⟩
        obtain ⟨r32, hr32⟩ : ∃ s : K, Hid (s = r29 * x) := ⟨_, Lib.hid rfl⟩
        obtain ⟨r35, hr35⟩ : ∃ s : K, Hid (s = r32 + bK) := ⟨_, Lib.hid rfl⟩
        apply wp_region_once_tail (m := 14) (Z := []) (D := [[], [], [], [0, 1, 2], [], [], [0, 1, 2, 3, 4, 5], [], [], [0, 1, 2, 3, 4, 5, 6, 7, 8], [0, 1, 2, 3, 4, 5, 6, 7, 8, 9], [], [0, 1, 2, 3, 4, 5, 6, 7, 8, 9, 10, 11], [], [0, 1, 2, 3, 4, 5, 6, 7, 8, 9, 10, 11, 12, 13]]) (J := [[], [], [], [0, 1, 2], [], [], [3, 4, 5], [], [], [6, 7, 8], [], [], [9, 10, 11], []]) (Je := [12, 13]) (Rs := [Is _, Is _, Is _, Is _, Is _, Is _, Is _, Is _, Is _, Is _, Is _, Is _, Is _, fun v V => ∃ g', v = .pointer (some ⟨g', 0, none⟩) ∧ w9.heap.size ≤ g' ∧ Blk V g' 29 (nC zeroP)])
        · kernel_rfl
        · kernel_rfl
        · kernel_rfl
        · kernel_rfl
        · kernel_rfl
        · kernel_rfl
        · kernel_rfl
        · exact fun h => absurd rfl h
        · intro u
          simp only [List.take_succ_cons, List.take_zero, List.map_cons, List.map_nil, fillU, List.setIfInBounds_toArray, List.set_cons_zero, List.set_cons_succ, Nat.zero_add, Nat.reduceAdd]
          exact rfl
        · simp only [List.take_succ_cons, List.take_zero]
          refine ⟨fun u W hb hd K hK => ?_, ?_⟩
          · clear hd
            rw [if_pos (by rfl)]
            refine wp_load_mid 29 (.tmp 2) rfl g2 0 rfl (kC x) _ (rangeAt_of_blk (bg2.below hb lg2)) Tryd.underlying29 rfl (infoN6.trans (by rw [kC_length])) ?_
            exact hK _ _ _ rfl (Below.refl _ _) IsOut
          refine ⟨fun u W hb hd K hK => ?_, ?_⟩
          · clear hd
            rw [if_pos (by rfl)]
            refine wp_load_mid 29 (.tmp 2) rfl g2 0 rfl (kC x) _ (rangeAt_of_blk (bg2.below hb lg2)) Tryd.underlying29 rfl (infoN6.trans (by rw [kC_length])) ?_
            exact hK _ _ _ rfl (Below.refl _ _) IsOut
          refine ⟨fun u W hb hd K hK => ?_, ?_⟩
          · clear hd
            rw [if_pos (by rfl)]
            refine wp_load_mid 29 (.tmp 5) rfl g5 0 rfl (nC primeP) _ (rangeAt_of_blk (bg5.below hb lg5)) Tryd.underlying29 rfl (infoN6.trans (by rw [nC_length])) ?_
            exact hK _ _ _ rfl (Below.refl _ _) IsOut
          refine ⟨fun u W hb hd K hK => ?_, ?_⟩
          · simp only [Facts, nthR, Is, and_true] at hd
            simp only [hd] at hK ⊢
            clear hd
            go_simp
            refine (RMulK hr26 _).mono ?_
            rintro e wy ⟨rfl, hby⟩
            exact hK _ _ _ rfl hby IsOut
          refine ⟨fun u W hb hd K hK => ?_, ?_⟩
          · clear hd
            rw [if_pos (by rfl)]
            refine wp_builtV 29 _ rfl [(0, .int .u64 3)] rfl (kC 3).toArray built6_3 ?_
            exact hK _ _ _ rfl (Below.refl _ _) IsOut
          refine ⟨fun u W hb hd K hK => ?_, ?_⟩
          · clear hd
            rw [if_pos (by rfl)]
            refine wp_load_mid 29 (.tmp 5) rfl g5 0 rfl (nC primeP) _ (rangeAt_of_blk (bg5.below hb lg5)) Tryd.underlying29 rfl (infoN6.trans (by rw [nC_length])) ?_
            exact hK _ _ _ rfl (Below.refl _ _) IsOut
          refine ⟨fun u W hb hd K hK => ?_, ?_⟩
          · simp only [Facts, nthR, Is, and_true] at hd
            simp only [hd] at hK ⊢
            clear hd
            go_simp
            refine (RSubK hr29 _).mono ?_
            rintro e wy ⟨rfl, hby⟩
            exact hK _ _ _ rfl hby IsOut
          refine ⟨fun u W hb hd K hK => ?_, ?_⟩
          · clear hd
            rw [if_pos (by rfl)]
            refine wp_load_mid 29 (.tmp 2) rfl g2 0 rfl (kC x) _ (rangeAt_of_blk (bg2.below hb lg2)) Tryd.underlying29 rfl (infoN6.trans (by rw [kC_length])) ?_
            exact hK _ _ _ rfl (Below.refl _ _) IsOut
          refine ⟨fun u W hb hd K hK => ?_, ?_⟩
          · clear hd
            rw [if_pos (by rfl)]
            refine wp_load_mid 29 (.tmp 5) rfl g5 0 rfl (nC primeP) _ (rangeAt_of_blk (bg5.below hb lg5)) Tryd.underlying29 rfl (infoN6.trans (by rw [nC_length])) ?_
            exact hK _ _ _ rfl (Below.refl _ _) IsOut
          refine ⟨fun u W hb hd K hK => ?_, ?_⟩
          · simp only [Facts, nthR, Is, and_true] at hd
            simp only [hd] at hK ⊢
            clear hd
            go_simp
            refine (RMulK hr32 _).mono ?_
            rintro e wy ⟨rfl, hby⟩
            exact hK _ _ _ rfl hby IsOut
          refine ⟨fun u W hb hd K hK => ?_, ?_⟩
          · clear hd
            go_simp
            refine (rB _).mono ?_
            rintro e wy ⟨rfl, hby⟩
            exact hK _ _ _ rfl hby IsOut
          refine ⟨fun u W hb hd K hK => ?_, ?_⟩
          · clear hd
            rw [if_pos (by rfl)]
            refine wp_load_mid 29 (.tmp 5) rfl g5 0 rfl (nC primeP) _ (rangeAt_of_blk (bg5.below hb lg5)) Tryd.underlying29 rfl (infoN6.trans (by rw [nC_length])) ?_
            exact hK _ _ _ rfl (Below.refl _ _) IsOut
          refine ⟨fun u W hb hd K hK => ?_, ?_⟩
          · simp only [Facts, nthR, Is, and_true] at hd
            simp only [hd] at hK ⊢
            clear hd
            go_simp
            refine (RAddK hr35 _).mono ?_
            rintro e wy ⟨rfl, hby⟩
            exact hK _ _ _ rfl hby IsOut
          refine ⟨fun u W hb hd K hK => ?_, ?_⟩
          · clear hd
            go_simp
            apply hK
            · simp only [Act.put, List.setIfInBounds_toArray, List.set_cons_zero, List.set_cons_succ]
              exact rfl
            · exact (Below.refl _ _).alloc (Nat.le_refl _) _
            · exact ⟨_, rfl, hb.size, Blk.new_of _ _ _ _ rfl⟩
          exact trivial
        · skip
          exact trivial
        · exact (.is (.is (.is (.is (.is (.is (.is (.is (.is (.is (.is (.is (.is (.cons (fun v V V' ⟨g', h1, h2, h3⟩ hb => ⟨g', h1, h2, h3.below hb h3.lt⟩) .nil))))))))))))))
        · intro u w10 hb hd
          simp only [List.drop_succ_cons, List.drop_zero]
          simp only [Facts, nthR, Is, and_true] at hd
          obtain ⟨h12, ⟨g7, h13, hng7, bg7⟩⟩ := hd
          have og7 := Lib.hid (show w.heap.size ≤ g7 ∧ g2 < g7 ∧ g3 < g7 ∧ g5 < g7 ∧ g6 < g7 from ⟨Nat.le_trans hb0.size hng7, Nat.lt_of_lt_of_le lg2 hng7, Nat.lt_of_lt_of_le lg3 hng7, Nat.lt_of_lt_of_le lg5 hng7, Nat.lt_of_lt_of_le lg6 hng7⟩)
          simp only [h12, h13]
          clear h12 h13
          replace bg2 := bg2.below hb lg2
          replace bg3 := bg3.below hb lg3
          replace bg5 := bg5.below hb lg5
          replace bg6 := bg6.below hb lg6
          replace hb0 := hb0.trans (hb.mono hb0.size)
          replace lg2 := bg2.lt
          replace lg3 := bg3.lt
          replace lg5 := bg5.lt
          replace lg6 := bg6.lt
          clear hb
          have lg7 := bg7.lt
          clear hng7
          refine wpList_store_blk rfl 29 (.tmp 7) (.tmp 35) rfl rfl g7 (kC r35) rfl rfl _ _ bg7 (infoN6.trans (by rw [kC_length])) (by rw [nC_length]; with_reducible first | rfl | rw [kC_length]) (oneK4 _) ?_
          intro w11 bn hgs
          replace bg2 := bg2.grown hgs (fun e => Nat.ne_of_lt og7.out.2.1 (Option.some.inj e))
          replace bg3 := bg3.grown hgs (fun e => Nat.ne_of_lt og7.out.2.2.1 (Option.some.inj e))
          replace bg5 := bg5.grown hgs (fun e => Nat.ne_of_lt og7.out.2.2.2.1 (Option.some.inj e))
          replace bg6 := bg6.grown hgs (fun e => Nat.ne_of_lt og7.out.2.2.2.2 (Option.some.inj e))
          replace hb0 := below_new hb0 hgs og7.out.1 hb0.size
          clear hgs bg7
          have bg7 := bn
          clear bn
          replace lg2 := bg2.lt
          replace lg3 := bg3.lt
          replace lg5 := bg5.lt
          replace lg6 := bg6.lt
          replace lg7 := bg7.lt
          try simp only [Act.put, List.setIfInBounds_toArray, List.set_cons_zero, List.set_cons_succ]
          go_upto_region 6 with (fail)
          have HE : Hid (decide (r22 = r35) = b) := Lib.hid (by rw [← hbQ.out, show x * (x * x - 3) = (x * x - 3) * x by grind, hr22.out, hr35.out, hr32.out, hr29.out, hr26.out])
          apply wp_plain_once (m := 3) (J := [[], [], [0, 1]]) (Je := [2]) (Rs := [Is _, Is _, Is _])
          · kernel_rfl
          · kernel_rfl
          · intro u
            simp only [List.take_succ_cons, List.take_zero, List.map_cons, List.map_nil, fillU, List.setIfInBounds_toArray, List.set_cons_zero, List.set_cons_succ, Nat.zero_add, Nat.reduceAdd]
            exact rfl
          · simp only [List.take_succ_cons, List.take_zero]
            refine ⟨fun u W hb hd K hK => ?_, ?_⟩
            · clear hd
              rw [if_pos (by rfl)]
              refine wp_load_mid 29 (.tmp 6) rfl g6 0 rfl (kC r22) _ (rangeAt_of_blk (bg6.below hb lg6)) Tryd.underlying29 rfl (infoN6.trans (by rw [kC_length])) ?_
              exact hK _ _ _ rfl (Below.refl _ _) IsOut
            refine ⟨fun u W hb hd K hK => ?_, ?_⟩
            · clear hd
              rw [if_pos (by rfl)]
              refine wp_load_mid 29 (.tmp 7) rfl g7 0 rfl (kC r35) _ (rangeAt_of_blk (bg7.below hb lg7)) Tryd.underlying29 rfl (infoN6.trans (by rw [kC_length])) ?_
              exact hK _ _ _ rfl (Below.refl _ _) IsOut
            refine ⟨fun u W hb hd K hK => ?_, ?_⟩
            · simp only [Facts, nthR, Is, and_true] at hd
              simp only [hd] at hK ⊢
              clear hd
              have he := EqK6 HE W
              go_simp
              apply hK
              · simp only [Act.put, List.setIfInBounds_toArray, List.set_cons_zero, List.set_cons_succ]
                exact rfl
              · exact Below.refl _ _
              · exact IsOut
            exact trivial
          · exact (.is (.is (.is .nil)))
          · intro u w12 hb hd
            simp only [List.drop_succ_cons, List.drop_zero]
            simp only [Facts, nthR, Is, and_true] at hd
            have h2 := hd
            clear hd
            simp only [h2]
            clear h2
            replace bg2 := bg2.below hb lg2
            replace bg3 := bg3.below hb lg3
            replace bg5 := bg5.below hb lg5
            replace bg6 := bg6.below hb lg6
            replace bg7 := bg7.below hb lg7
            replace hb0 := hb0.trans (hb.mono hb0.size)
            replace lg2 := bg2.lt
            replace lg3 := bg3.lt
            replace lg5 := bg5.lt
            replace lg6 := bg6.lt
            replace lg7 := bg7.lt
            clear hb
            go_wp2_with (fail)
            refine bodyPost_ret (results_tmp Tryd.results18 _ _ _) rfl ?_
            exact ⟨rfl, hb0⟩
theorem rOn_any (x y : P4) (w : World) (hx : x.ok) (hy : y.ok) : Calls Tryd.prog 18 #[.agg (nC x).toArray, .agg (nC y).toArray] w fun e w' => e = .returned (.bool (onN x y)) ∧ Below w.heap.size w w' := by
  unfold onN
  cases h1 : lessP x primeP with
  | false => exact rOn_bad1 x y w (Lib.hid hx) (Lib.hid h1)
  | true =>
    cases h2 : lessP y primeP with
    | false => exact rOn_bad2 x y w (Lib.hid hx) (Lib.hid hy) (Lib.hid h1) (Lib.hid h2)
    | true =>
      have k := rOn_k (kV x) (kV y) w _ (Lib.hid rfl)
      unfold kC at k
      rw [← pK_kV hx h1, ← pK_kV hy h2] at k
      exact k
theorem ROn {x y : P4} {b : Bool} (hx : Hid x.ok) (hy : Hid y.ok) (h : Hid (onN x y = b)) (w : World) : Calls Tryd.prog 18 #[.agg (nC x).toArray, .agg (nC y).toArray] w fun e w' => e = .returned (.bool b) ∧ Below w.heap.size w w' := by
  rw [← h.out]
  exact rOn_any x y w hx.out hy.out
end Go.Proofs.YtnkikhnllnbhfaaDoor
