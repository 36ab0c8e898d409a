/-
  The document's Add, over the field.
-/
import Derived.Test.YtnkikhnllnbhfaaDoorCr3
namespace Go.Proofs.YtnkikhnllnbhfaaDoor
open Go.RowKit
open CurveMath

theorem built6_0k : Tryd.prog.built 29 [] = some (kC 0).toArray := by kernel_rfl
set_option maxRecDepth 100000 in
theorem zeroN6k : Zero Tryd.prog 29 (kC 0) := ⟨_, _, rfl, rfl, by kernel_rfl⟩
theorem minus_two : ((0 : K) - 2).val = pN - 2 := by decide +kernel
theorem RInvK {a e r : K} (he : Hid (e = 0 - 2)) (h : Hid (r = invK a)) (w : World) : Calls Tryd.prog 47 #[.agg (kC a).toArray, .agg (kC e).toArray, .agg (nC primeP).toArray] w fun e w' => e = .returned (.agg (kC r).toArray) ∧ Below w.heap.size w w' := by
  have k := rPow_any (pK a) (pK e) primeP w (pK_ok a) (pK_ok e) primeP_ok (by decide)
  have e1 : redP primeP ((pK a).val ^ (pK e).val) = pK r := by
    rw [pK_val, pK_val, he.out, minus_two, redP_pK, h.out]
    unfold invK
    rw [pm_eq pN 256 a.val (pN - 2) (by decide +kernel), ofNat_mod]
  rw [e1] at k
  exact k
theorem results_two6 {fn : Func} {p q : Tmp} (h : fn.results = #[.cell p 29, .cell q 29]) (tmps : Array Value) (w : World) (g g' : Nat) (x y : K)
    (hp : tmps.getD p undef = .pointer (some ⟨g, 0, none⟩)) (hq : tmps.getD q undef = .pointer (some ⟨g', 0, none⟩)) (hg : Blk w g 29 (kC x)) (hg' : Blk w g' 29 (kC y)) :
    (results fn tmps).run Tryd.prog w = .ok (.tuple #[.agg (kC x).toArray, .agg (kC y).toArray]) w := by
  have hp' : tmps[p]?.getD undef = .pointer (some ⟨g, 0, none⟩) := by simpa using hp
  have hq' : tmps[q]?.getD undef = .pointer (some ⟨g', 0, none⟩) := by simpa using hq
  have h1 := run_loadVar_row (P := Tryd.prog) w g 29 29 (kC x).toArray (0, 0) _ hg Tryd.underlying29 rfl (infoN6.trans (by rw [List.size_toArray, kC_length]))
  have h2 := run_loadVar_row (P := Tryd.prog) w g' 29 29 (kC y).toArray (0, 0) _ hg' Tryd.underlying29 rfl (infoN6.trans (by rw [List.size_toArray, kC_length]))
  simp [results, h, hp', hq', asAddr, h1, h2]
set_option maxRecDepth 100000 in
set_option maxHeartbeats 2000000 in
theorem rAdd_1 (x2 y2 : K) (w : World) : Calls Tryd.prog 25 #[.agg (kC 0).toArray, .agg (kC 0).toArray, .agg (kC x2).toArray, .agg (kC y2).toArray] w fun e w' => e = .returned (.tuple #[.agg (kC x2).toArray, .agg (kC y2).toArray]) ∧ Below w.heap.size w w' := by
  go_enter Tryd.func25, Tryd.ntmps25
  have hb0 : Below w.heap.size w w := Below.refl _ _
  go_upto_region 0 with (fail)
  refine wp_region_lit ?_
  refine wpList_box_blk rfl 29 (.tmp 0) rfl (kC 0) rfl ?_
  intro g4 w1 hg bg4 hb
  have og4 := Lib.hid (show w.heap.size ≤ g4 from Nat.le_trans hb0.size (Nat.le_of_eq hg.symm))
  clear hg
  replace hb0 := hb0.trans (hb.mono hb0.size)
  clear hb
  have lg4 := bg4.lt
  try simp only [Act.put, List.setIfInBounds_toArray, List.set_cons_zero, List.set_cons_succ]
  refine wpList_box_blk rfl 29 (.tmp 1) rfl (kC 0) rfl ?_
  intro g5 w2 hg bg5 hb
  have og5 := Lib.hid (show w.heap.size ≤ g5 ∧ g4 < g5 from ⟨Nat.le_trans hb0.size (Nat.le_of_eq hg.symm), Nat.lt_of_lt_of_le lg4 (Nat.le_of_eq hg.symm)⟩)
  clear hg
  replace bg4 := bg4.below hb lg4
  replace hb0 := hb0.trans (hb.mono hb0.size)
  replace lg4 := bg4.lt
  clear hb
  have lg5 := bg5.lt
  try simp only [Act.put, List.setIfInBounds_toArray, List.set_cons_zero, List.set_cons_succ]
  refine wpList_box_blk rfl 29 (.tmp 2) rfl (kC x2) rfl ?_
  intro g6 w3 hg bg6 hb
  have og6 := Lib.hid (show w.heap.size ≤ g6 ∧ g4 < g6 ∧ g5 < g6 from ⟨Nat.le_trans hb0.size (Nat.le_of_eq hg.symm), Nat.lt_of_lt_of_le lg4 (Nat.le_of_eq hg.symm), Nat.lt_of_lt_of_le lg5 (Nat.le_of_eq hg.symm)⟩)
  clear hg
  replace bg4 := bg4.below hb lg4
  replace bg5 := bg5.below hb lg5
  replace hb0 := hb0.trans (hb.mono hb0.size)
  replace lg4 := bg4.lt
  replace lg5 := bg5.lt
  clear hb
  have lg6 := bg6.lt
  try simp only [Act.put, List.setIfInBounds_toArray, List.set_cons_zero, List.set_cons_succ]
  refine wpList_box_blk rfl 29 (.tmp 3) rfl (kC y2) rfl ?_
  intro g7 w4 hg bg7 hb
  have og7 := Lib.hid (show w.heap.size ≤ g7 ∧ g4 < g7 ∧ g5 < g7 ∧ g6 < g7 from ⟨Nat.le_trans hb0.size (Nat.le_of_eq hg.symm), Nat.lt_of_lt_of_le lg4 (Nat.le_of_eq hg.symm), Nat.lt_of_lt_of_le lg5 (Nat.le_of_eq hg.symm), Nat.lt_of_lt_of_le lg6 (Nat.le_of_eq hg.symm)⟩)
  clear hg
  replace bg4 := bg4.below hb lg4
  replace bg5 := bg5.below hb lg5
  replace bg6 := bg6.below hb lg6
  replace hb0 := hb0.trans (hb.mono hb0.size)
  replace lg4 := bg4.lt
  replace lg5 := bg5.lt
  replace lg6 := bg6.lt
  clear hb
  have lg7 := bg7.lt
  try simp only [Act.put, List.setIfInBounds_toArray, List.set_cons_zero, List.set_cons_succ]
  refine wpList_new_blk rfl 29 rfl (kC 0) zeroN6k ?_
  intro g8 w5 hg bg8 hb
  have og8 := Lib.hid (show w.heap.size ≤ g8 ∧ g4 < g8 ∧ g5 < g8 ∧ g6 < g8 ∧ g7 < g8 from ⟨Nat.le_trans hb0.size (Nat.le_of_eq hg.symm), Nat.lt_of_lt_of_le lg4 (Nat.le_of_eq hg.symm), Nat.lt_of_lt_of_le lg5 (Nat.le_of_eq hg.symm), Nat.lt_of_lt_of_le lg6 (Nat.le_of_eq hg.symm), Nat.lt_of_lt_of_le lg7 (Nat.le_of_eq hg.symm)⟩)
  clear hg
  replace bg4 := bg4.below hb lg4
  replace bg5 := bg5.below hb lg5
  replace bg6 := bg6.below hb lg6
  replace bg7 := bg7.below hb lg7
  replace hb0 := hb0.trans (hb.mono hb0.size)
  replace lg4 := bg4.lt
  replace lg5 := bg5.lt
  replace lg6 := bg6.lt
  replace lg7 := bg7.lt
  clear hb
  have lg8 := bg8.lt
  try simp only [Act.put, List.setIfInBounds_toArray, List.set_cons_zero, List.set_cons_succ]
  refine wpList_new_blk rfl 29 rfl (kC 0) zeroN6k ?_
  intro g9 w6 hg bg9 hb
  have og9 := Lib.hid (show w.heap.size ≤ g9 ∧ g4 < g9 ∧ g5 < g9 ∧ g6 < g9 ∧ g7 < g9 ∧ g8 < g9 from ⟨Nat.le_trans hb0.size (Nat.le_of_eq hg.symm), Nat.lt_of_lt_of_le lg4 (Nat.le_of_eq hg.symm), Nat.lt_of_lt_of_le lg5 (Nat.le_of_eq hg.symm), Nat.lt_of_lt_of_le lg6 (Nat.le_of_eq hg.symm), Nat.lt_of_lt_of_le lg7 (Nat.le_of_eq hg.symm), Nat.lt_of_lt_of_le lg8 (Nat.le_of_eq hg.symm)⟩)
  clear hg
  replace bg4 := bg4.below hb lg4
  replace bg5 := bg5.below hb lg5
  replace bg6 := bg6.below hb lg6
  replace bg7 := bg7.below hb lg7
  replace bg8 := bg8.below hb lg8
  replace hb0 := hb0.trans (hb.mono hb0.size)
  replace lg4 := bg4.lt
  replace lg5 := bg5.lt
  replace lg6 := bg6.lt
  replace lg7 := bg7.lt
  replace lg8 := bg8.lt
  clear hb
  have lg9 := bg9.lt
  try simp only [Act.put, List.setIfInBounds_toArray, List.set_cons_zero, List.set_cons_succ]
  go_upto_region 1 with (fail)
  apply wp_plain_once (m := 1) (J := [[]]) (Je := [0]) (Rs := [Is _])
  · kernel_rfl
  · kernel_rfl
  · intro u
    simp only [List.take_succ_cons, List.take_zero, List.map_cons, List.map_nil, fillU, List.setIfInBounds_toArray, List.set_cons_zero, List.set_cons_succ]
    exact rfl
  · simp only [List.take_succ_cons, List.take_zero]
    refine ⟨fun u W hb hd K hK => ?_, ?_⟩
    · clear hd
      go_simp
      refine (rP _).mono ?_
      rintro e wy ⟨rfl, hby⟩
      exact hK _ _ _ rfl hby IsOut
    exact trivial
  · exact (.is .nil)
  intro u w7 hb hd
  simp only [List.drop_succ_cons, List.drop_zero]
  simp only [Facts, nthR, Is, and_true] at hd
  have h0 := hd
  clear hd
  simp only [h0]
  clear h0
  replace bg4 := bg4.below hb lg4
  replace bg5 := bg5.below hb lg5
  replace bg6 := bg6.below hb lg6
  replace bg7 := bg7.below hb lg7
  replace bg8 := bg8.below hb lg8
  replace bg9 := bg9.below hb lg9
  replace hb0 := hb0.trans (hb.mono hb0.size)
  replace lg4 := bg4.lt
  replace lg5 := bg5.lt
  replace lg6 := bg6.lt
  replace lg7 := bg7.lt
  replace lg8 := bg8.lt
  replace lg9 := bg9.lt
  clear hb
  refine wpList_new_blk rfl 29 rfl (kC 0) zeroN6k ?_
  intro g10 w8 hg bg10 hb
  have og10 := Lib.hid (show w.heap.size ≤ g10 ∧ g4 < g10 ∧ g5 < g10 ∧ g6 < g10 ∧ g7 < g10 ∧ g8 < g10 ∧ g9 < g10 from ⟨Nat.le_trans hb0.size (Nat.le_of_eq hg.symm), Nat.lt_of_lt_of_le lg4 (Nat.le_of_eq hg.symm), Nat.lt_of_lt_of_le lg5 (Nat.le_of_eq hg.symm), Nat.lt_of_lt_of_le lg6 (Nat.le_of_eq hg.symm), Nat.lt_of_lt_of_le lg7 (Nat.le_of_eq hg.symm), Nat.lt_of_lt_of_le lg8 (Nat.le_of_eq hg.symm), Nat.lt_of_lt_of_le lg9 (Nat.le_of_eq hg.symm)⟩)
  clear hg
  replace bg4 := bg4.below hb lg4
  replace bg5 := bg5.below hb lg5
  replace bg6 := bg6.below hb lg6
  replace bg7 := bg7.below hb lg7
  replace bg8 := bg8.below hb lg8
  replace bg9 := bg9.below hb lg9
  replace hb0 := hb0.trans (hb.mono hb0.size)
  replace lg4 := bg4.lt
  replace lg5 := bg5.lt
  replace lg6 := bg6.lt
  replace lg7 := bg7.lt
  replace lg8 := bg8.lt
  replace lg9 := bg9.lt
  clear hb
  have lg10 := bg10.lt
  try simp only [Act.put, List.setIfInBounds_toArray, List.set_cons_zero, List.set_cons_succ]
  refine wpList_store_blk rfl 29 (.tmp 10) (.tmp 17) rfl rfl g10 (nC primeP) rfl rfl _ _ bg10 (infoN6.trans (by rw [nC_length])) (by first | with_reducible rfl | rw [kC_length, nC_length] | rw [kC_length]) (one4 _) ?_
  intro w9 bn hgs
  replace bg4 := bg4.grown hgs (fun e => Nat.ne_of_lt og10.out.2.1 (Option.some.inj e))
  replace bg5 := bg5.grown hgs (fun e => Nat.ne_of_lt og10.out.2.2.1 (Option.some.inj e))
  replace bg6 := bg6.grown hgs (fun e => Nat.ne_of_lt og10.out.2.2.2.1 (Option.some.inj e))
  replace bg7 := bg7.grown hgs (fun e => Nat.ne_of_lt og10.out.2.2.2.2.1 (Option.some.inj e))
  replace bg8 := bg8.grown hgs (fun e => Nat.ne_of_lt og10.out.2.2.2.2.2.1 (Option.some.inj e))
  replace bg9 := bg9.grown hgs (fun e => Nat.ne_of_lt og10.out.2.2.2.2.2.2 (Option.some.inj e))
  replace hb0 := below_new hb0 hgs og10.out.1 hb0.size
  clear hgs bg10
  have bg10 := bn
  clear bn
  replace lg4 := bg4.lt
  replace lg5 := bg5.lt
  replace lg6 := bg6.lt
  replace lg7 := bg7.lt
  replace lg8 := bg8.lt
  replace lg9 := bg9.lt
  replace lg10 := bg10.lt
  try simp only [Act.put]
  go_upto_region 2 with (fail)
  apply wp_plain_once (m := 1) (J := [[]]) (Je := [0]) (Rs := [Is _])
  · kernel_rfl
  · kernel_rfl
  · intro u
    simp only [List.take_succ_cons, List.take_zero, List.map_cons, List.map_nil, fillU, List.setIfInBounds_toArray, List.set_cons_zero, List.set_cons_succ]
    exact rfl
  · simp only [List.take_succ_cons, List.take_zero]
    refine ⟨fun u W hb hd K hK => ?_, ?_⟩
    · clear hd
      rw [if_pos (by rfl)]
      refine wp_builtV 29 _ rfl [] rfl (kC 0).toArray built6_0k ?_
      exact hK _ _ _ rfl (Below.refl _ _) IsOut
    exact trivial
  · exact (.is .nil)
  intro u w10 hb hd
  simp only [List.drop_succ_cons, List.drop_zero]
  simp only [Facts, nthR, Is, and_true] at hd
  have h0 := hd
  clear hd
  simp only [h0]
  clear h0
  replace bg4 := bg4.below hb lg4
  replace bg5 := bg5.below hb lg5
  replace bg6 := bg6.below hb lg6
  replace bg7 := bg7.below hb lg7
  replace bg8 := bg8.below hb lg8
  replace bg9 := bg9.below hb lg9
  replace bg10 := bg10.below hb lg10
  replace hb0 := hb0.trans (hb.mono hb0.size)
  replace lg4 := bg4.lt
  replace lg5 := bg5.lt
  replace lg6 := bg6.lt
  replace lg7 := bg7.lt
  replace lg8 := bg8.lt
  replace lg9 := bg9.lt
  replace lg10 := bg10.lt
  clear hb
  refine wpList_new_blk rfl 29 rfl (kC 0) zeroN6k ?_
  intro g11 w11 hg bg11 hb
  have og11 := Lib.hid (show w.heap.size ≤ g11 ∧ g4 < g11 ∧ g5 < g11 ∧ g6 < g11 ∧ g7 < g11 ∧ g8 < g11 ∧ g9 < g11 ∧ g10 < g11 from ⟨Nat.le_trans hb0.size (Nat.le_of_eq hg.symm), Nat.lt_of_lt_of_le lg4 (Nat.le_of_eq hg.symm), Nat.lt_of_lt_of_le lg5 (Nat.le_of_eq hg.symm), Nat.lt_of_lt_of_le lg6 (Nat.le_of_eq hg.symm), Nat.lt_of_lt_of_le lg7 (Nat.le_of_eq hg.symm), Nat.lt_of_lt_of_le lg8 (Nat.le_of_eq hg.symm), Nat.lt_of_lt_of_le lg9 (Nat.le_of_eq hg.symm), Nat.lt_of_lt_of_le lg10 (Nat.le_of_eq hg.symm)⟩)
  clear hg
  replace bg4 := bg4.below hb lg4
  replace bg5 := bg5.below hb lg5
  replace bg6 := bg6.below hb lg6
  replace bg7 := bg7.below hb lg7
  replace bg8 := bg8.below hb lg8
  replace bg9 := bg9.below hb lg9
  replace bg10 := bg10.below hb lg10
  replace hb0 := hb0.trans (hb.mono hb0.size)
  replace lg4 := bg4.lt
  replace lg5 := bg5.lt
  replace lg6 := bg6.lt
  replace lg7 := bg7.lt
  replace lg8 := bg8.lt
  replace lg9 := bg9.lt
  replace lg10 := bg10.lt
  clear hb
  have lg11 := bg11.lt
  try simp only [Act.put, List.setIfInBounds_toArray, List.set_cons_zero, List.set_cons_succ]
  refine wpList_store_blk rfl 29 (.tmp 11) (.tmp 18) rfl rfl g11 (kC 0) rfl rfl _ _ bg11 (infoN6.trans (by rw [kC_length])) (by first | with_reducible rfl | rw [kC_length, kC_length] | rw [kC_length]) (oneK4 _) ?_
  intro w12 bn hgs
  replace bg4 := bg4.grown hgs (fun e => Nat.ne_of_lt og11.out.2.1 (Option.some.inj e))
  replace bg5 := bg5.grown hgs (fun e => Nat.ne_of_lt og11.out.2.2.1 (Option.some.inj e))
  replace bg6 := bg6.grown hgs (fun e => Nat.ne_of_lt og11.out.2.2.2.1 (Option.some.inj e))
  replace bg7 := bg7.grown hgs (fun e => Nat.ne_of_lt og11.out.2.2.2.2.1 (Option.some.inj e))
  replace bg8 := bg8.grown hgs (fun e => Nat.ne_of_lt og11.out.2.2.2.2.2.1 (Option.some.inj e))
  replace bg9 := bg9.grown hgs (fun e => Nat.ne_of_lt og11.out.2.2.2.2.2.2.1 (Option.some.inj e))
  replace bg10 := bg10.grown hgs (fun e => Nat.ne_of_lt og11.out.2.2.2.2.2.2.2 (Option.some.inj e))
  replace hb0 := below_new hb0 hgs og11.out.1 hb0.size
  clear hgs bg11
  have bg11 := bn
  clear bn
  replace lg4 := bg4.lt
  replace lg5 := bg5.lt
  replace lg6 := bg6.lt
  replace lg7 := bg7.lt
  replace lg8 := bg8.lt
  replace lg9 := bg9.lt
  replace lg10 := bg10.lt
  replace lg11 := bg11.lt
  try simp only [Act.put]
  go_upto_region 3 with (fail)
  apply wp_plain_once (m := 8) (J := [[], [], [0, 1], [2], [3], [3], [3, 4, 5], [3, 6]]) (Je := [7]) (Rs := [Is _, Is _, Is _, Is _, Is _, Is _, Is _, Is _])
  · kernel_rfl
  · kernel_rfl
  · intro u
    simp only [List.take_succ_cons, List.take_zero, List.map_cons, List.map_nil, fillU, List.setIfInBounds_toArray, List.set_cons_zero, List.set_cons_succ, Nat.reduceAdd]
    exact rfl
  · simp only [List.take_succ_cons, List.take_zero]
    refine ⟨fun u W hb hd K hK => ?_, ?_⟩
    · clear hd
      rw [if_pos (by rfl)]
      refine wp_load_mid 29 (.tmp 4) rfl g4 0 rfl (kC 0) _ (rangeAt_of_blk (bg4.below hb lg4)) Tryd.underlying29 rfl (infoN6.trans (by rw [kC_length])) ?_
      exact hK _ _ _ rfl (Below.refl _ _) IsOut
    refine ⟨fun u W hb hd K hK => ?_, ?_⟩
    · clear hd
      rw [if_pos (by rfl)]
      refine wp_load_mid 29 (.tmp 11) rfl g11 0 rfl (kC 0) _ (rangeAt_of_blk (bg11.below hb lg11)) Tryd.underlying29 rfl (infoN6.trans (by rw [kC_length])) ?_
      exact hK _ _ _ rfl (Below.refl _ _) IsOut
    refine ⟨fun u W hb hd K hK => ?_, ?_⟩
    · simp only [Facts, nthR, Is, and_true] at hd
      simp only [hd] at hK ⊢
      clear hd
      have he : (Op.equalIn 10000 29 (.agg (kC 0).toArray) (.agg (kC 0).toArray)).run Tryd.prog W = .ok true W := EqK6 (Lib.hid (decide_eq_true rfl)) W
      go_simp
      apply hK
      · simp only [Act.put, List.setIfInBounds_toArray, List.set_cons_zero, List.set_cons_succ]
        exact rfl
      · exact Below.refl _ _
      · exact IsOut
    refine ⟨fun u W hb hd K hK => ?_, ?_⟩
    · simp only [Facts, nthR, Is, and_true] at hd
      simp only [hd] at hK ⊢
      clear hd
      go_simp
      apply hK
      · simp only [Act.put, List.setIfInBounds_toArray, List.set_cons_zero, List.set_cons_succ]
        exact rfl
      · exact Below.refl _ _
      · exact IsOut
    refine ⟨fun u W hb hd K hK => ?_, ?_⟩
    · simp only [Facts, nthR, Is, and_true] at hd
      simp only [hd] at hK ⊢
      clear hd
      rw [if_pos (by rfl)]
      refine wp_load_mid 29 (.tmp 5) rfl g5 0 rfl (kC 0) _ (rangeAt_of_blk (bg5.below hb lg5)) Tryd.underlying29 rfl (infoN6.trans (by rw [kC_length])) ?_
      exact hK _ _ _ rfl (Below.refl _ _) IsOut
    refine ⟨fun u W hb hd K hK => ?_, ?_⟩
    · simp only [Facts, nthR, Is, and_true] at hd
      simp only [hd] at hK ⊢
      clear hd
      rw [if_pos (by rfl)]
      refine wp_load_mid 29 (.tmp 11) rfl g11 0 rfl (kC 0) _ (rangeAt_of_blk (bg11.below hb lg11)) Tryd.underlying29 rfl (infoN6.trans (by rw [kC_length])) ?_
      exact hK _ _ _ rfl (Below.refl _ _) IsOut
    refine ⟨fun u W hb hd K hK => ?_, ?_⟩
    · simp only [Facts, nthR, Is, and_true] at hd
      simp only [hd] at hK ⊢
      clear hd
      have he : (Op.equalIn 10000 29 (.agg (kC 0).toArray) (.agg (kC 0).toArray)).run Tryd.prog W = .ok true W := EqK6 (Lib.hid (decide_eq_true rfl)) W
      go_simp
      apply hK
      · simp only [Act.put, List.setIfInBounds_toArray, List.set_cons_zero, List.set_cons_succ]
        exact rfl
      · exact Below.refl _ _
      · exact IsOut
    refine ⟨fun u W hb hd K hK => ?_, ?_⟩
    · simp only [Facts, nthR, Is, and_true] at hd
      simp only [hd] at hK ⊢
      clear hd
      go_simp
      apply hK
      · simp only [Act.put, List.setIfInBounds_toArray, List.set_cons_zero, List.set_cons_succ]
        exact rfl
      · exact Below.refl _ _
      · exact IsOut
    exact trivial
  · exact (.is (.is (.is (.is (.is (.is (.is (.is .nil))))))))
  intro u w13 hb hd
  simp only [List.drop_succ_cons, List.drop_zero]
  simp only [Facts, nthR, Is, and_true] at hd
  have h7 := hd
  clear hd
  simp only [h7]
  clear h7
  replace bg4 := bg4.below hb lg4
  replace bg5 := bg5.below hb lg5
  replace bg6 := bg6.below hb lg6
  replace bg7 := bg7.below hb lg7
  replace bg8 := bg8.below hb lg8
  replace bg9 := bg9.below hb lg9
  replace bg10 := bg10.below hb lg10
  replace bg11 := bg11.below hb lg11
  replace hb0 := hb0.trans (hb.mono hb0.size)
  replace lg4 := bg4.lt
  replace lg5 := bg5.lt
  replace lg6 := bg6.lt
  replace lg7 := bg7.lt
  replace lg8 := bg8.lt
  replace lg9 := bg9.lt
  replace lg10 := bg10.lt
  replace lg11 := bg11.lt
  clear hb
  go_upto_region 4 with (fail)
  refine wp_region_noPanic ?_
  refine wp_region_held_drew (S := fun W => Blk W g6 29 (kC x2) ∧ Blk W g7 29 (kC y2)) (by kernel_rfl) (⟨bg6.drew, bg7.drew⟩) (fun hHeld => ?_)
  refine wpAnyH_take (i := 0) (oi := ⟨_, _, _, _, _, _⟩) (v := .agg (kC x2).toArray) rfl (by kernel_rfl) (by kernel_rfl) (by kernel_rfl) (fun _ _ _ h => h) (yieldsIf_load_mid (by rfl) 29 (.tmp 6) rfl g6 0 rfl (kC x2) _ (fun W hSw => rangeAt_of_blk (hSw.1)) Tryd.underlying29 rfl (infoN6.trans (by rw [kC_length]))) hHeld ?_
  try simp only [Act.put, List.setIfInBounds_toArray, List.set_cons_zero, List.set_cons_succ]
  refine wpAnyH_take (i := 1) (oi := ⟨_, _, _, _, _, _⟩) (v := .agg (kC y2).toArray) rfl (by kernel_rfl) (by kernel_rfl) (by kernel_rfl) (fun _ _ _ h => h) (yieldsIf_load_mid (by rfl) 29 (.tmp 7) rfl g7 0 rfl (kC y2) _ (fun W hSw => rangeAt_of_blk (hSw.2)) Tryd.underlying29 rfl (infoN6.trans (by rw [kC_length]))) hHeld ?_
  try simp only [Act.put, List.setIfInBounds_toArray, List.set_cons_zero, List.set_cons_succ]
  refine wpAnyH_ready (rs := [2]) (by kernel_rfl) (by simp) ?_
  refine AllReadyH.cons (o := ⟨_, _, _, _, _, _⟩) rfl (fun K hK => ?_) AllReadyH.nil
  rw [if_pos (by rfl)]
  refine wp_store_blk 29 (.tmp 8) (.tmp 27) rfl g8 (kC x2) rfl rfl _ _ bg8.drew (infoN6.trans (by rw [kC_length])) (by first | with_reducible rfl | rw [kC_length, kC_length] | rw [kC_length]) (oneK4 _) ?_
  intro w14 bn hgs
  have hgs := grown_from_drew hgs
  replace bg4 := bg4.grown hgs (fun e => Nat.ne_of_lt og8.out.2.1 (Option.some.inj e))
  replace bg5 := bg5.grown hgs (fun e => Nat.ne_of_lt og8.out.2.2.1 (Option.some.inj e))
  replace bg6 := bg6.grown hgs (fun e => Nat.ne_of_lt og8.out.2.2.2.1 (Option.some.inj e))
  replace bg7 := bg7.grown hgs (fun e => Nat.ne_of_lt og8.out.2.2.2.2 (Option.some.inj e))
  replace bg9 := bg9.grown hgs (fun e => Nat.ne_of_gt og9.out.2.2.2.2.2 (Option.some.inj e))
  replace bg10 := bg10.grown hgs (fun e => Nat.ne_of_gt og10.out.2.2.2.2.2.1 (Option.some.inj e))
  replace bg11 := bg11.grown hgs (fun e => Nat.ne_of_gt og11.out.2.2.2.2.2.1 (Option.some.inj e))
  replace hb0 := below_new hb0 hgs og8.out.1 hb0.size
  clear hgs bg8
  have bg8 := bn
  clear bn
  replace lg4 := bg4.lt
  replace lg5 := bg5.lt
  replace lg6 := bg6.lt
  replace lg7 := bg7.lt
  replace lg8 := bg8.lt
  replace lg9 := bg9.lt
  replace lg10 := bg10.lt
  replace lg11 := bg11.lt
  refine hK.out _ _ ⟨bg6, bg7⟩ (fun hHeld => ?_)
  clear hK K
  try simp only [Act.put]
  refine wpAnyH_ready (rs := [3]) (by kernel_rfl) (by simp) ?_
  refine AllReadyH.cons (o := ⟨_, _, _, _, _, _⟩) rfl (fun K hK => ?_) AllReadyH.nil
  rw [if_pos (by rfl)]
  refine wp_store_blk 29 (.tmp 9) (.tmp 28) rfl g9 (kC y2) rfl rfl _ _ bg9 (infoN6.trans (by rw [kC_length])) (by first | with_reducible rfl | rw [kC_length, kC_length] | rw [kC_length]) (oneK4 _) ?_
  intro w15 bn hgs
  replace bg4 := bg4.grown hgs (fun e => Nat.ne_of_lt og9.out.2.1 (Option.some.inj e))
  replace bg5 := bg5.grown hgs (fun e => Nat.ne_of_lt og9.out.2.2.1 (Option.some.inj e))
  replace bg6 := bg6.grown hgs (fun e => Nat.ne_of_lt og9.out.2.2.2.1 (Option.some.inj e))
  replace bg7 := bg7.grown hgs (fun e => Nat.ne_of_lt og9.out.2.2.2.2.1 (Option.some.inj e))
  replace bg8 := bg8.grown hgs (fun e => Nat.ne_of_lt og9.out.2.2.2.2.2 (Option.some.inj e))
  replace bg10 := bg10.grown hgs (fun e => Nat.ne_of_gt og10.out.2.2.2.2.2.2 (Option.some.inj e))
  replace bg11 := bg11.grown hgs (fun e => Nat.ne_of_gt og11.out.2.2.2.2.2.2.1 (Option.some.inj e))
  replace hb0 := below_new hb0 hgs og9.out.1 hb0.size
  clear hgs bg9
  have bg9 := bn
  clear bn
  replace lg4 := bg4.lt
  replace lg5 := bg5.lt
  replace lg6 := bg6.lt
  replace lg7 := bg7.lt
  replace lg8 := bg8.lt
  replace lg9 := bg9.lt
  replace lg10 := bg10.lt
  replace lg11 := bg11.lt
  refine hK.out _ _ ⟨bg6, bg7⟩ (fun hHeld => ?_)
  clear hK K
  try simp only [Act.put]
  refine wpAnyH_done (by kernel_rfl) ?_ _
  refine NoPanic.normal ?_
  clear hHeld
  go_wp2_with (fail)
  refine bodyPost_ret (v := .tuple _) ?_ rfl ⟨rfl, hb0⟩
  exact results_two6 rfl _ _ g8 g9 _ _ rfl rfl bg8 bg9
set_option maxRecDepth 100000 in
set_option maxHeartbeats 2000000 in
theorem rAdd_2 (x1 y1 : K) (ba bb : Bool) (hba : Hid (decide (x1 = 0) = ba)) (hbb : Hid (decide (y1 = 0) = bb)) (hF : Hid ((ba && bb) = false)) (w : World) : Calls Tryd.prog 25 #[.agg (kC x1).toArray, .agg (kC y1).toArray, .agg (kC 0).toArray, .agg (kC 0).toArray] w fun e w' => e = .returned (.tuple #[.agg (kC x1).toArray, .agg (kC y1).toArray]) ∧ Below w.heap.size w w' := by
  go_enter Tryd.func25, Tryd.ntmps25
  have hb0 : Below w.heap.size w w := Below.refl _ _
  go_upto_region 0 with (fail)
  refine wp_region_lit ?_
  refine wpList_box_blk rfl 29 (.tmp 0) rfl (kC x1) rfl ?_
  intro g4 w1 hg bg4 hb
  have og4 := Lib.hid (show w.heap.size ≤ g4 from Nat.le_trans hb0.size (Nat.le_of_eq hg.symm))
  clear hg
  replace hb0 := hb0.trans (hb.mono hb0.size)
  clear hb
  have lg4 := bg4.lt
  try simp only [Act.put, List.setIfInBounds_toArray, List.set_cons_zero, List.set_cons_succ]
  refine wpList_box_blk rfl 29 (.tmp 1) rfl (kC y1) rfl ?_
  intro g5 w2 hg bg5 hb
  have og5 := Lib.hid (show w.heap.size ≤ g5 ∧ g4 < g5 from ⟨Nat.le_trans hb0.size (Nat.le_of_eq hg.symm), Nat.lt_of_lt_of_le lg4 (Nat.le_of_eq hg.symm)⟩)
  clear hg
  replace bg4 := bg4.below hb lg4
  replace hb0 := hb0.trans (hb.mono hb0.size)
  replace lg4 := bg4.lt
  clear hb
  have lg5 := bg5.lt
  try simp only [Act.put, List.setIfInBounds_toArray, List.set_cons_zero, List.set_cons_succ]
  refine wpList_box_blk rfl 29 (.tmp 2) rfl (kC 0) rfl ?_
  intro g6 w3 hg bg6 hb
  have og6 := Lib.hid (show w.heap.size ≤ g6 ∧ g4 < g6 ∧ g5 < g6 from ⟨Nat.le_trans hb0.size (Nat.le_of_eq hg.symm), Nat.lt_of_lt_of_le lg4 (Nat.le_of_eq hg.symm), Nat.lt_of_lt_of_le lg5 (Nat.le_of_eq hg.symm)⟩)
  clear hg
  replace bg4 := bg4.below hb lg4
  replace bg5 := bg5.below hb lg5
  replace hb0 := hb0.trans (hb.mono hb0.size)
  replace lg4 := bg4.lt
  replace lg5 := bg5.lt
  clear hb
  have lg6 := bg6.lt
  try simp only [Act.put, List.setIfInBounds_toArray, List.set_cons_zero, List.set_cons_succ]
  refine wpList_box_blk rfl 29 (.tmp 3) rfl (kC 0) rfl ?_
  intro g7 w4 hg bg7 hb
  have og7 := Lib.hid (show w.heap.size ≤ g7 ∧ g4 < g7 ∧ g5 < g7 ∧ g6 < g7 from ⟨Nat.le_trans hb0.size (Nat.le_of_eq hg.symm), Nat.lt_of_lt_of_le lg4 (Nat.le_of_eq hg.symm), Nat.lt_of_lt_of_le lg5 (Nat.le_of_eq hg.symm), Nat.lt_of_lt_of_le lg6 (Nat.le_of_eq hg.symm)⟩)
  clear hg
  replace bg4 := bg4.below hb lg4
  replace bg5 := bg5.below hb lg5
  replace bg6 := bg6.below hb lg6
  replace hb0 := hb0.trans (hb.mono hb0.size)
  replace lg4 := bg4.lt
  replace lg5 := bg5.lt
  replace lg6 := bg6.lt
  clear hb
  have lg7 := bg7.lt
  try simp only [Act.put, List.setIfInBounds_toArray, List.set_cons_zero, List.set_cons_succ]
  refine wpList_new_blk rfl 29 rfl (kC 0) zeroN6k ?_
  intro g8 w5 hg bg8 hb
  have og8 := Lib.hid (show w.heap.size ≤ g8 ∧ g4 < g8 ∧ g5 < g8 ∧ g6 < g8 ∧ g7 < g8 from ⟨Nat.le_trans hb0.size (Nat.le_of_eq hg.symm), Nat.lt_of_lt_of_le lg4 (Nat.le_of_eq hg.symm), Nat.lt_of_lt_of_le lg5 (Nat.le_of_eq hg.symm), Nat.lt_of_lt_of_le lg6 (Nat.le_of_eq hg.symm), Nat.lt_of_lt_of_le lg7 (Nat.le_of_eq hg.symm)⟩)
  clear hg
  replace bg4 := bg4.below hb lg4
  replace bg5 := bg5.below hb lg5
  replace bg6 := bg6.below hb lg6
  replace bg7 := bg7.below hb lg7
  replace hb0 := hb0.trans (hb.mono hb0.size)
  replace lg4 := bg4.lt
  replace lg5 := bg5.lt
  replace lg6 := bg6.lt
  replace lg7 := bg7.lt
  clear hb
  have lg8 := bg8.lt
  try simp only [Act.put, List.setIfInBounds_toArray, List.set_cons_zero, List.set_cons_succ]
  refine wpList_new_blk rfl 29 rfl (kC 0) zeroN6k ?_
  intro g9 w6 hg bg9 hb
  have og9 := Lib.hid (show w.heap.size ≤ g9 ∧ g4 < g9 ∧ g5 < g9 ∧ g6 < g9 ∧ g7 < g9 ∧ g8 < g9 from ⟨Nat.le_trans hb0.size (Nat.le_of_eq hg.symm), Nat.lt_of_lt_of_le lg4 (Nat.le_of_eq hg.symm), Nat.lt_of_lt_of_le lg5 (Nat.le_of_eq hg.symm), Nat.lt_of_lt_of_le lg6 (Nat.le_of_eq hg.symm), Nat.lt_of_lt_of_le lg7 (Nat.le_of_eq hg.symm), Nat.lt_of_lt_of_le lg8 (Nat.le_of_eq hg.symm)⟩)
  clear hg
  replace bg4 := bg4.below hb lg4
  replace bg5 := bg5.below hb lg5
  replace bg6 := bg6.below hb lg6
  replace bg7 := bg7.below hb lg7
  replace bg8 := bg8.below hb lg8
  replace hb0 := hb0.trans (hb.mono hb0.size)
  replace lg4 := bg4.lt
  replace lg5 := bg5.lt
  replace lg6 := bg6.lt
  replace lg7 := bg7.lt
  replace lg8 := bg8.lt
  clear hb
  have lg9 := bg9.lt
  try simp only [Act.put, List.setIfInBounds_toArray, List.set_cons_zero, List.set_cons_succ]
  go_upto_region 1 with (fail)
  apply wp_plain_once (m := 1) (J := [[]]) (Je := [0]) (Rs := [Is _])
  · kernel_rfl
  · kernel_rfl
  · intro u
    simp only [List.take_succ_cons, List.take_zero, List.map_cons, List.map_nil, fillU, List.setIfInBounds_toArray, List.set_cons_zero, List.set_cons_succ]
    exact rfl
  · simp only [List.take_succ_cons, List.take_zero]
    refine ⟨fun u W hb hd K hK => ?_, ?_⟩
    · clear hd
      go_simp
      refine (rP _).mono ?_
      rintro e wy ⟨rfl, hby⟩
      exact hK _ _ _ rfl hby IsOut
    exact trivial
  · exact (.is .nil)
  intro u w7 hb hd
  simp only [List.drop_succ_cons, List.drop_zero]
  simp only [Facts, nthR, Is, and_true] at hd
  have h0 := hd
  clear hd
  simp only [h0]
  clear h0
  replace bg4 := bg4.below hb lg4
  replace bg5 := bg5.below hb lg5
  replace bg6 := bg6.below hb lg6
  replace bg7 := bg7.below hb lg7
  replace bg8 := bg8.below hb lg8
  replace bg9 := bg9.below hb lg9
  replace hb0 := hb0.trans (hb.mono hb0.size)
  replace lg4 := bg4.lt
  replace lg5 := bg5.lt
  replace lg6 := bg6.lt
  replace lg7 := bg7.lt
  replace lg8 := bg8.lt
  replace lg9 := bg9.lt
  clear hb
  refine wpList_new_blk rfl 29 rfl (kC 0) zeroN6k ?_
  intro g10 w8 hg bg10 hb
  have og10 := Lib.hid (show w.heap.size ≤ g10 ∧ g4 < g10 ∧ g5 < g10 ∧ g6 < g10 ∧ g7 < g10 ∧ g8 < g10 ∧ g9 < g10 from ⟨Nat.le_trans hb0.size (Nat.le_of_eq hg.symm), Nat.lt_of_lt_of_le lg4 (Nat.le_of_eq hg.symm), Nat.lt_of_lt_of_le lg5 (Nat.le_of_eq hg.symm), Nat.lt_of_lt_of_le lg6 (Nat.le_of_eq hg.symm), Nat.lt_of_lt_of_le lg7 (Nat.le_of_eq hg.symm), Nat.lt_of_lt_of_le lg8 (Nat.le_of_eq hg.symm), Nat.lt_of_lt_of_le lg9 (Nat.le_of_eq hg.symm)⟩)
  clear hg
  replace bg4 := bg4.below hb lg4
  replace bg5 := bg5.below hb lg5
  replace bg6 := bg6.below hb lg6
  replace bg7 := bg7.below hb lg7
  replace bg8 := bg8.below hb lg8
  replace bg9 := bg9.below hb lg9
  replace hb0 := hb0.trans (hb.mono hb0.size)
  replace lg4 := bg4.lt
  replace lg5 := bg5.lt
  replace lg6 := bg6.lt
  replace lg7 := bg7.lt
  replace lg8 := bg8.lt
  replace lg9 := bg9.lt
  clear hb
  have lg10 := bg10.lt
  try simp only [Act.put, List.setIfInBounds_toArray, List.set_cons_zero, List.set_cons_succ]
  refine wpList_store_blk rfl 29 (.tmp 10) (.tmp 17) rfl rfl g10 (nC primeP) rfl rfl _ _ bg10 (infoN6.trans (by rw [nC_length])) (by first | with_reducible rfl | rw [kC_length, nC_length] | rw [kC_length]) (one4 _) ?_
  intro w9 bn hgs
  replace bg4 := bg4.grown hgs (fun e => Nat.ne_of_lt og10.out.2.1 (Option.some.inj e))
  replace bg5 := bg5.grown hgs (fun e => Nat.ne_of_lt og10.out.2.2.1 (Option.some.inj e))
  replace bg6 := bg6.grown hgs (fun e => Nat.ne_of_lt og10.out.2.2.2.1 (Option.some.inj e))
  replace bg7 := bg7.grown hgs (fun e => Nat.ne_of_lt og10.out.2.2.2.2.1 (Option.some.inj e))
  replace bg8 := bg8.grown hgs (fun e => Nat.ne_of_lt og10.out.2.2.2.2.2.1 (Option.some.inj e))
  replace bg9 := bg9.grown hgs (fun e => Nat.ne_of_lt og10.out.2.2.2.2.2.2 (Option.some.inj e))
  replace hb0 := below_new hb0 hgs og10.out.1 hb0.size
  clear hgs bg10
  have bg10 := bn
  clear bn
  replace lg4 := bg4.lt
  replace lg5 := bg5.lt
  replace lg6 := bg6.lt
  replace lg7 := bg7.lt
  replace lg8 := bg8.lt
  replace lg9 := bg9.lt
  replace lg10 := bg10.lt
  try simp only [Act.put]
  go_upto_region 2 with (fail)
  apply wp_plain_once (m := 1) (J := [[]]) (Je := [0]) (Rs := [Is _])
  · kernel_rfl
  · kernel_rfl
  · intro u
    simp only [List.take_succ_cons, List.take_zero, List.map_cons, List.map_nil, fillU, List.setIfInBounds_toArray, List.set_cons_zero, List.set_cons_succ]
    exact rfl
  · simp only [List.take_succ_cons, List.take_zero]
    refine ⟨fun u W hb hd K hK => ?_, ?_⟩
    · clear hd
      rw [if_pos (by rfl)]
      refine wp_builtV 29 _ rfl [] rfl (kC 0).toArray built6_0k ?_
      exact hK _ _ _ rfl (Below.refl _ _) IsOut
    exact trivial
  · exact (.is .nil)
  intro u w10 hb hd
  simp only [List.drop_succ_cons, List.drop_zero]
  simp only [Facts, nthR, Is, and_true] at hd
  have h0 := hd
  clear hd
  simp only [h0]
  clear h0
  replace bg4 := bg4.below hb lg4
  replace bg5 := bg5.below hb lg5
  replace bg6 := bg6.below hb lg6
  replace bg7 := bg7.below hb lg7
  replace bg8 := bg8.below hb lg8
  replace bg9 := bg9.below hb lg9
  replace bg10 := bg10.below hb lg10
  replace hb0 := hb0.trans (hb.mono hb0.size)
  replace lg4 := bg4.lt
  replace lg5 := bg5.lt
  replace lg6 := bg6.lt
  replace lg7 := bg7.lt
  replace lg8 := bg8.lt
  replace lg9 := bg9.lt
  replace lg10 := bg10.lt
  clear hb
  refine wpList_new_blk rfl 29 rfl (kC 0) zeroN6k ?_
  intro g11 w11 hg bg11 hb
  have og11 := Lib.hid (show w.heap.size ≤ g11 ∧ g4 < g11 ∧ g5 < g11 ∧ g6 < g11 ∧ g7 < g11 ∧ g8 < g11 ∧ g9 < g11 ∧ g10 < g11 from ⟨Nat.le_trans hb0.size (Nat.le_of_eq hg.symm), Nat.lt_of_lt_of_le lg4 (Nat.le_of_eq hg.symm), Nat.lt_of_lt_of_le lg5 (Nat.le_of_eq hg.symm), Nat.lt_of_lt_of_le lg6 (Nat.le_of_eq hg.symm), Nat.lt_of_lt_of_le lg7 (Nat.le_of_eq hg.symm), Nat.lt_of_lt_of_le lg8 (Nat.le_of_eq hg.symm), Nat.lt_of_lt_of_le lg9 (Nat.le_of_eq hg.symm), Nat.lt_of_lt_of_le lg10 (Nat.le_of_eq hg.symm)⟩)
  clear hg
  replace bg4 := bg4.below hb lg4
  replace bg5 := bg5.below hb lg5
  replace bg6 := bg6.below hb lg6
  replace bg7 := bg7.below hb lg7
  replace bg8 := bg8.below hb lg8
  replace bg9 := bg9.below hb lg9
  replace bg10 := bg10.below hb lg10
  replace hb0 := hb0.trans (hb.mono hb0.size)
  replace lg4 := bg4.lt
  replace lg5 := bg5.lt
  replace lg6 := bg6.lt
  replace lg7 := bg7.lt
  replace lg8 := bg8.lt
  replace lg9 := bg9.lt
  replace lg10 := bg10.lt
  clear hb
  have lg11 := bg11.lt
  try simp only [Act.put, List.setIfInBounds_toArray, List.set_cons_zero, List.set_cons_succ]
  refine wpList_store_blk rfl 29 (.tmp 11) (.tmp 18) rfl rfl g11 (kC 0) rfl rfl _ _ bg11 (infoN6.trans (by rw [kC_length])) (by first | with_reducible rfl | rw [kC_length, kC_length] | rw [kC_length]) (oneK4 _) ?_
  intro w12 bn hgs
  replace bg4 := bg4.grown hgs (fun e => Nat.ne_of_lt og11.out.2.1 (Option.some.inj e))
  replace bg5 := bg5.grown hgs (fun e => Nat.ne_of_lt og11.out.2.2.1 (Option.some.inj e))
  replace bg6 := bg6.grown hgs (fun e => Nat.ne_of_lt og11.out.2.2.2.1 (Option.some.inj e))
  replace bg7 := bg7.grown hgs (fun e => Nat.ne_of_lt og11.out.2.2.2.2.1 (Option.some.inj e))
  replace bg8 := bg8.grown hgs (fun e => Nat.ne_of_lt og11.out.2.2.2.2.2.1 (Option.some.inj e))
  replace bg9 := bg9.grown hgs (fun e => Nat.ne_of_lt og11.out.2.2.2.2.2.2.1 (Option.some.inj e))
  replace bg10 := bg10.grown hgs (fun e => Nat.ne_of_lt og11.out.2.2.2.2.2.2.2 (Option.some.inj e))
  replace hb0 := below_new hb0 hgs og11.out.1 hb0.size
  clear hgs bg11
  have bg11 := bn
  clear bn
  replace lg4 := bg4.lt
  replace lg5 := bg5.lt
  replace lg6 := bg6.lt
  replace lg7 := bg7.lt
  replace lg8 := bg8.lt
  replace lg9 := bg9.lt
  replace lg10 := bg10.lt
  replace lg11 := bg11.lt
  try simp only [Act.put]
  go_upto_region 3 with (fail)
  apply wp_plain_once (m := 8) (J := [[], [], [0, 1], [2], [3], [3], [3, 4, 5], [3, 6]]) (Je := [7]) (Rs := [Is _, Is _, Is _, Is _, Maybe ba true _, Maybe ba true _, Maybe ba true _, Is (.bool false)])
  · kernel_rfl
  · kernel_rfl
  · intro u
    simp only [List.take_succ_cons, List.take_zero, List.map_cons, List.map_nil, fillU, List.setIfInBounds_toArray, List.set_cons_zero, List.set_cons_succ, Nat.reduceAdd]
    exact rfl
  · simp only [List.take_succ_cons, List.take_zero]
    refine ⟨fun u W hb hd K hK => ?_, ?_⟩
    · clear hd
      rw [if_pos (by rfl)]
      refine wp_load_mid 29 (.tmp 4) rfl g4 0 rfl (kC x1) _ (rangeAt_of_blk (bg4.below hb lg4)) Tryd.underlying29 rfl (infoN6.trans (by rw [kC_length])) ?_
      exact hK _ _ _ rfl (Below.refl _ _) IsOut
    refine ⟨fun u W hb hd K hK => ?_, ?_⟩
    · clear hd
      rw [if_pos (by rfl)]
      refine wp_load_mid 29 (.tmp 11) rfl g11 0 rfl (kC 0) _ (rangeAt_of_blk (bg11.below hb lg11)) Tryd.underlying29 rfl (infoN6.trans (by rw [kC_length])) ?_
      exact hK _ _ _ rfl (Below.refl _ _) IsOut
    refine ⟨fun u W hb hd K hK => ?_, ?_⟩
    · simp only [Facts, nthR, Is, and_true] at hd
      simp only [hd] at hK ⊢
      clear hd
      have he : (Op.equalIn 10000 29 (.agg (kC x1).toArray) (.agg (kC 0).toArray)).run Tryd.prog W = .ok ba W := EqK6 hba W
      go_simp
      apply hK
      · simp only [Act.put, List.setIfInBounds_toArray, List.set_cons_zero, List.set_cons_succ]
        exact rfl
      · exact Below.refl _ _
      · exact IsOut
    refine ⟨fun u W hb hd K hK => ?_, ?_⟩
    · simp only [Facts, nthR, Is, and_true] at hd
      simp only [hd] at hK ⊢
      clear hd
      go_simp
      apply hK
      · simp only [Act.put, List.setIfInBounds_toArray, List.set_cons_zero, List.set_cons_succ]
        exact rfl
      · exact Below.refl _ _
      · exact IsOut
    refine ⟨fun u W hb hd K hK => ?_, ?_⟩
    · simp only [Facts, nthR, Is, and_true] at hd
      have h3 := hd
      by_cases hc : ba = true
      · simp only [h3, hc] at hK ⊢
        rw [if_pos (by rfl)]
        refine wp_load_mid 29 (.tmp 5) rfl g5 0 rfl (kC y1) _ (rangeAt_of_blk (bg5.below hb lg5)) Tryd.underlying29 rfl (infoN6.trans (by rw [kC_length])) ?_
        exact hK _ _ _ rfl (Below.refl _ _) fun _ => IsOut (w := W)
      · have hc' : ba = false := by cases ba <;> simp_all
        simp only [h3, hc'] at hK ⊢
        go_simp
        apply hK
        · simp only [Act.put, List.setIfInBounds_toArray, List.set_cons_zero, List.set_cons_succ]
          exact rfl
        · exact Below.refl _ _
        · exact fun h => by cases h
    refine ⟨fun u W hb hd K hK => ?_, ?_⟩
    · simp only [Facts, nthR, Is, and_true] at hd
      have h3 := hd
      by_cases hc : ba = true
      · simp only [h3, hc] at hK ⊢
        rw [if_pos (by rfl)]
        refine wp_load_mid 29 (.tmp 11) rfl g11 0 rfl (kC 0) _ (rangeAt_of_blk (bg11.below hb lg11)) Tryd.underlying29 rfl (infoN6.trans (by rw [kC_length])) ?_
        exact hK _ _ _ rfl (Below.refl _ _) fun _ => IsOut (w := W)
      · have hc' : ba = false := by cases ba <;> simp_all
        simp only [h3, hc'] at hK ⊢
        go_simp
        apply hK
        · simp only [Act.put, List.setIfInBounds_toArray, List.set_cons_zero, List.set_cons_succ]
          exact rfl
        · exact Below.refl _ _
        · exact fun h => by cases h
    refine ⟨fun u W hb hd K hK => ?_, ?_⟩
    · simp only [Facts, nthR, Is, and_true] at hd
      obtain ⟨h3, h4, h5⟩ := hd
      by_cases hc : ba = true
      · replace h4 := h4 hc
        replace h5 := h5 hc
        simp only [h3, h4, h5, hc] at hK ⊢
        have he : (Op.equalIn 10000 29 (.agg (kC y1).toArray) (.agg (kC 0).toArray)).run Tryd.prog W = .ok bb W := EqK6 hbb W
        go_simp
        apply hK
        · simp only [Act.put, List.setIfInBounds_toArray, List.set_cons_zero, List.set_cons_succ]
          exact rfl
        · exact Below.refl _ _
        · exact fun _ => IsOut (w := W)
      · have hc' : ba = false := by cases ba <;> simp_all
        simp only [h3, hc'] at hK ⊢
        go_simp
        apply hK
        · simp only [Act.put, List.setIfInBounds_toArray, List.set_cons_zero, List.set_cons_succ]
          exact rfl
        · exact Below.refl _ _
        · exact fun h => by cases h
    refine ⟨fun u W hb hd K hK => ?_, ?_⟩
    · simp only [Facts, nthR, Is, and_true] at hd
      obtain ⟨h3, h6⟩ := hd
      by_cases hc : ba = true
      · replace h6 := h6 hc
        simp only [h3, h6, hc] at hK ⊢
        go_simp
        apply hK
        · simp only [Act.put, List.setIfInBounds_toArray, List.set_cons_zero, List.set_cons_succ]
          exact rfl
        · exact Below.refl _ _
        · exact (by have hz := hF.out; rw [hc, Bool.true_and] at hz; subst hz; exact IsOut)
      · have hc' : ba = false := by cases ba <;> simp_all
        simp only [h3, hc'] at hK ⊢
        go_simp
        apply hK
        · simp only [Act.put, List.setIfInBounds_toArray, List.set_cons_zero, List.set_cons_succ]
          exact rfl
        · exact Below.refl _ _
        · exact IsOut
    exact trivial
  · exact (.is (.is (.is (.is (.cons (fun _ _ _ h _ => h) (.cons (fun _ _ _ h _ => h) (.cons (fun _ _ _ h _ => h) (.cons (fun _ _ _ h _ => h) .nil))))))))
  intro u w13 hb hd
  simp only [List.drop_succ_cons, List.drop_zero]
  simp only [Facts, nthR, Is, and_true] at hd
  have h7 := hd
  clear hd
  simp only [h7]
  clear h7
  replace bg4 := bg4.below hb lg4
  replace bg5 := bg5.below hb lg5
  replace bg6 := bg6.below hb lg6
  replace bg7 := bg7.below hb lg7
  replace bg8 := bg8.below hb lg8
  replace bg9 := bg9.below hb lg9
  replace bg10 := bg10.below hb lg10
  replace bg11 := bg11.below hb lg11
  replace hb0 := hb0.trans (hb.mono hb0.size)
  replace lg4 := bg4.lt
  replace lg5 := bg5.lt
  replace lg6 := bg6.lt
  replace lg7 := bg7.lt
  replace lg8 := bg8.lt
  replace lg9 := bg9.lt
  replace lg10 := bg10.lt
  replace lg11 := bg11.lt
  clear hb
  go_upto_region 5 with (fail)
  apply wp_plain_once (m := 8) (J := [[], [], [0, 1], [2], [3], [3], [3, 4, 5], [3, 6]]) (Je := [7]) (Rs := [Is _, Is _, Is _, Is _, Is _, Is _, Is _, Is _])
  · kernel_rfl
  · kernel_rfl
  · intro u
    simp only [List.take_succ_cons, List.take_zero, List.map_cons, List.map_nil, fillU, List.setIfInBounds_toArray, List.set_cons_zero, List.set_cons_succ, Nat.reduceAdd]
    exact rfl
  · simp only [List.take_succ_cons, List.take_zero]
    refine ⟨fun u W hb hd K hK => ?_, ?_⟩
    · clear hd
      rw [if_pos (by rfl)]
      refine wp_load_mid 29 (.tmp 6) rfl g6 0 rfl (kC 0) _ (rangeAt_of_blk (bg6.below hb lg6)) Tryd.underlying29 rfl (infoN6.trans (by rw [kC_length])) ?_
      exact hK _ _ _ rfl (Below.refl _ _) IsOut
    refine ⟨fun u W hb hd K hK => ?_, ?_⟩
    · clear hd
      rw [if_pos (by rfl)]
      refine wp_load_mid 29 (.tmp 11) rfl g11 0 rfl (kC 0) _ (rangeAt_of_blk (bg11.below hb lg11)) Tryd.underlying29 rfl (infoN6.trans (by rw [kC_length])) ?_
      exact hK _ _ _ rfl (Below.refl _ _) IsOut
    refine ⟨fun u W hb hd K hK => ?_, ?_⟩
    · simp only [Facts, nthR, Is, and_true] at hd
      simp only [hd] at hK ⊢
      clear hd
      have he : (Op.equalIn 10000 29 (.agg (kC 0).toArray) (.agg (kC 0).toArray)).run Tryd.prog W = .ok true W := EqK6 (Lib.hid (decide_eq_true rfl)) W
      go_simp
      apply hK
      · simp only [Act.put, List.setIfInBounds_toArray, List.set_cons_zero, List.set_cons_succ]
        exact rfl
      · exact Below.refl _ _
      · exact IsOut
    refine ⟨fun u W hb hd K hK => ?_, ?_⟩
    · simp only [Facts, nthR, Is, and_true] at hd
      simp only [hd] at hK ⊢
      clear hd
      go_simp
      apply hK
      · simp only [Act.put, List.setIfInBounds_toArray, List.set_cons_zero, List.set_cons_succ]
        exact rfl
      · exact Below.refl _ _
      · exact IsOut
    refine ⟨fun u W hb hd K hK => ?_, ?_⟩
    · simp only [Facts, nthR, Is, and_true] at hd
      simp only [hd] at hK ⊢
      clear hd
      rw [if_pos (by rfl)]
      refine wp_load_mid 29 (.tmp 7) rfl g7 0 rfl (kC 0) _ (rangeAt_of_blk (bg7.below hb lg7)) Tryd.underlying29 rfl (infoN6.trans (by rw [kC_length])) ?_
      exact hK _ _ _ rfl (Below.refl _ _) IsOut
    refine ⟨fun u W hb hd K hK => ?_, ?_⟩
    · simp only [Facts, nthR, Is, and_true] at hd
      simp only [hd] at hK ⊢
      clear hd
      rw [if_pos (by rfl)]
      refine wp_load_mid 29 (.tmp 11) rfl g11 0 rfl (kC 0) _ (rangeAt_of_blk (bg11.below hb lg11)) Tryd.underlying29 rfl (infoN6.trans (by rw [kC_length])) ?_
      exact hK _ _ _ rfl (Below.refl _ _) IsOut
    refine ⟨fun u W hb hd K hK => ?_, ?_⟩
    · simp only [Facts, nthR, Is, and_true] at hd
      simp only [hd] at hK ⊢
      clear hd
      have he : (Op.equalIn 10000 29 (.agg (kC 0).toArray) (.agg (kC 0).toArray)).run Tryd.prog W = .ok true W := EqK6 (Lib.hid (decide_eq_true rfl)) W
      go_simp
      apply hK
      · simp only [Act.put, List.setIfInBounds_toArray, List.set_cons_zero, List.set_cons_succ]
        exact rfl
      · exact Below.refl _ _
      · exact IsOut
    refine ⟨fun u W hb hd K hK => ?_, ?_⟩
    · simp only [Facts, nthR, Is, and_true] at hd
      simp only [hd] at hK ⊢
      clear hd
      go_simp
      apply hK
      · simp only [Act.put, List.setIfInBounds_toArray, List.set_cons_zero, List.set_cons_succ]
        exact rfl
      · exact Below.refl _ _
      · exact IsOut
    exact trivial
  · exact (.is (.is (.is (.is (.is (.is (.is (.is .nil))))))))
  intro u w14 hb hd
  simp only [List.drop_succ_cons, List.drop_zero]
  simp only [Facts, nthR, Is, and_true] at hd
  have h7 := hd
  clear hd
  simp only [h7]
  clear h7
  replace bg4 := bg4.below hb lg4
  replace bg5 := bg5.below hb lg5
  replace bg6 := bg6.below hb lg6
  replace bg7 := bg7.below hb lg7
  replace bg8 := bg8.below hb lg8
  replace bg9 := bg9.below hb lg9
  replace bg10 := bg10.below hb lg10
  replace bg11 := bg11.below hb lg11
  replace hb0 := hb0.trans (hb.mono hb0.size)
  replace lg4 := bg4.lt
  replace lg5 := bg5.lt
  replace lg6 := bg6.lt
  replace lg7 := bg7.lt
  replace lg8 := bg8.lt
  replace lg9 := bg9.lt
  replace lg10 := bg10.lt
  replace lg11 := bg11.lt
  clear hb
  go_upto_region 6 with (fail)
  refine wp_region_noPanic ?_
  refine wp_region_held_drew (S := fun W => Blk W g4 29 (kC x1) ∧ Blk W g5 29 (kC y1)) (by kernel_rfl) (⟨bg4.drew, bg5.drew⟩) (fun hHeld => ?_)
  refine wpAnyH_take (i := 0) (oi := ⟨_, _, _, _, _, _⟩) (v := .agg (kC x1).toArray) rfl (by kernel_rfl) (by kernel_rfl) (by kernel_rfl) (fun _ _ _ h => h) (yieldsIf_load_mid (by rfl) 29 (.tmp 4) rfl g4 0 rfl (kC x1) _ (fun W hSw => rangeAt_of_blk (hSw.1)) Tryd.underlying29 rfl (infoN6.trans (by rw [kC_length]))) hHeld ?_
  try simp only [Act.put, List.setIfInBounds_toArray, List.set_cons_zero, List.set_cons_succ]
  refine wpAnyH_take (i := 1) (oi := ⟨_, _, _, _, _, _⟩) (v := .agg (kC y1).toArray) rfl (by kernel_rfl) (by kernel_rfl) (by kernel_rfl) (fun _ _ _ h => h) (yieldsIf_load_mid (by rfl) 29 (.tmp 5) rfl g5 0 rfl (kC y1) _ (fun W hSw => rangeAt_of_blk (hSw.2)) Tryd.underlying29 rfl (infoN6.trans (by rw [kC_length]))) hHeld ?_
  try simp only [Act.put, List.setIfInBounds_toArray, List.set_cons_zero, List.set_cons_succ]
  refine wpAnyH_ready (rs := [2]) (by kernel_rfl) (by simp) ?_
  refine AllReadyH.cons (o := ⟨_, _, _, _, _, _⟩) rfl (fun K hK => ?_) AllReadyH.nil
  rw [if_pos (by rfl)]
  refine wp_store_blk 29 (.tmp 8) (.tmp 37) rfl g8 (kC x1) rfl rfl _ _ bg8.drew (infoN6.trans (by rw [kC_length])) (by first | with_reducible rfl | rw [kC_length, kC_length] | rw [kC_length]) (oneK4 _) ?_
  intro w15 bn hgs
  have hgs := grown_from_drew hgs
  replace bg4 := bg4.grown hgs (fun e => Nat.ne_of_lt og8.out.2.1 (Option.some.inj e))
  replace bg5 := bg5.grown hgs (fun e => Nat.ne_of_lt og8.out.2.2.1 (Option.some.inj e))
  replace bg6 := bg6.grown hgs (fun e => Nat.ne_of_lt og8.out.2.2.2.1 (Option.some.inj e))
  replace bg7 := bg7.grown hgs (fun e => Nat.ne_of_lt og8.out.2.2.2.2 (Option.some.inj e))
  replace bg9 := bg9.grown hgs (fun e => Nat.ne_of_gt og9.out.2.2.2.2.2 (Option.some.inj e))
  replace bg10 := bg10.grown hgs (fun e => Nat.ne_of_gt og10.out.2.2.2.2.2.1 (Option.some.inj e))
  replace bg11 := bg11.grown hgs (fun e => Nat.ne_of_gt og11.out.2.2.2.2.2.1 (Option.some.inj e))
  replace hb0 := below_new hb0 hgs og8.out.1 hb0.size
  clear hgs bg8
  have bg8 := bn
  clear bn
  replace lg4 := bg4.lt
  replace lg5 := bg5.lt
  replace lg6 := bg6.lt
  replace lg7 := bg7.lt
  replace lg8 := bg8.lt
  replace lg9 := bg9.lt
  replace lg10 := bg10.lt
  replace lg11 := bg11.lt
  refine hK.out _ _ ⟨bg4, bg5⟩ (fun hHeld => ?_)
  clear hK K
  try simp only [Act.put]
  refine wpAnyH_ready (rs := [3]) (by kernel_rfl) (by simp) ?_
  refine AllReadyH.cons (o := ⟨_, _, _, _, _, _⟩) rfl (fun K hK => ?_) AllReadyH.nil
  rw [if_pos (by rfl)]
  refine wp_store_blk 29 (.tmp 9) (.tmp 38) rfl g9 (kC y1) rfl rfl _ _ bg9 (infoN6.trans (by rw [kC_length])) (by first | with_reducible rfl | rw [kC_length, kC_length] | rw [kC_length]) (oneK4 _) ?_
  intro w16 bn hgs
  replace bg4 := bg4.grown hgs (fun e => Nat.ne_of_lt og9.out.2.1 (Option.some.inj e))
  replace bg5 := bg5.grown hgs (fun e => Nat.ne_of_lt og9.out.2.2.1 (Option.some.inj e))
  replace bg6 := bg6.grown hgs (fun e => Nat.ne_of_lt og9.out.2.2.2.1 (Option.some.inj e))
  replace bg7 := bg7.grown hgs (fun e => Nat.ne_of_lt og9.out.2.2.2.2.1 (Option.some.inj e))
  replace bg8 := bg8.grown hgs (fun e => Nat.ne_of_lt og9.out.2.2.2.2.2 (Option.some.inj e))
  replace bg10 := bg10.grown hgs (fun e => Nat.ne_of_gt og10.out.2.2.2.2.2.2 (Option.some.inj e))
  replace bg11 := bg11.grown hgs (fun e => Nat.ne_of_gt og11.out.2.2.2.2.2.2.1 (Option.some.inj e))
  replace hb0 := below_new hb0 hgs og9.out.1 hb0.size
  clear hgs bg9
  have bg9 := bn
  clear bn
  replace lg4 := bg4.lt
  replace lg5 := bg5.lt
  replace lg6 := bg6.lt
  replace lg7 := bg7.lt
  replace lg8 := bg8.lt
  replace lg9 := bg9.lt
  replace lg10 := bg10.lt
  replace lg11 := bg11.lt
  refine hK.out _ _ ⟨bg4, bg5⟩ (fun hHeld => ?_)
  clear hK K
  try simp only [Act.put]
  refine wpAnyH_done (by kernel_rfl) ?_ _
  refine NoPanic.normal ?_
  clear hHeld
  go_wp2_with (fail)
  refine bodyPost_ret (v := .tuple _) ?_ rfl ⟨rfl, hb0⟩
  exact results_two6 rfl _ _ g8 g9 _ _ rfl rfl bg8 bg9
set_option maxRecDepth 100000 in
set_option maxHeartbeats 2000000 in
theorem rAdd_3 (x1 y1 x2 y2 : K) (ba bb bc bd : Bool) (hba : Hid (decide (x1 = 0) = ba)) (hbb : Hid (decide (y1 = 0) = bb)) (hF : Hid ((ba && bb) = false)) (hbc : Hid (decide (x2 = 0) = bc)) (hbd : Hid (decide (y2 = 0) = bd)) (hG : Hid ((bc && bd) = false)) (hx : Hid (x1 ≠ x2)) (s : K) (hs : Hid (s = (y2 - y1) * invK (x2 - x1))) (xr yr : K) (hu : Hid (xr = s * s - x1 - x2)) (hv : Hid (yr = s * (x1 - xr) - y1)) (w : World) : Calls Tryd.prog 25 #[.agg (kC x1).toArray, .agg (kC y1).toArray, .agg (kC x2).toArray, .agg (kC y2).toArray] w fun e w' => e = .returned (.tuple #[.agg (kC xr).toArray, .agg (kC yr).toArray]) ∧ Below w.heap.size w w' := by
  go_enter Tryd.func25, Tryd.ntmps25
  have hb0 : Below w.heap.size w w := Below.refl _ _
  go_upto_region 0 with (fail)
  refine wp_region_lit ?_
  refine wpList_box_blk rfl 29 (.tmp 0) rfl (kC x1) rfl ?_
  intro g4 w1 hg bg4 hb
  have og4 := Lib.hid (show w.heap.size ≤ g4 from Nat.le_trans hb0.size (Nat.le_of_eq hg.symm))
  clear hg
  replace hb0 := hb0.trans (hb.mono hb0.size)
  clear hb
  have lg4 := bg4.lt
  try simp only [Act.put, List.setIfInBounds_toArray, List.set_cons_zero, List.set_cons_succ]
  refine wpList_box_blk rfl 29 (.tmp 1) rfl (kC y1) rfl ?_
  intro g5 w2 hg bg5 hb
  have og5 := Lib.hid (show w.heap.size ≤ g5 ∧ g4 < g5 from ⟨Nat.le_trans hb0.size (Nat.le_of_eq hg.symm), Nat.lt_of_lt_of_le lg4 (Nat.le_of_eq hg.symm)⟩)
  clear hg
  replace bg4 := bg4.below hb lg4
  replace hb0 := hb0.trans (hb.mono hb0.size)
  replace lg4 := bg4.lt
  clear hb
  have lg5 := bg5.lt
  try simp only [Act.put, List.setIfInBounds_toArray, List.set_cons_zero, List.set_cons_succ]
  refine wpList_box_blk rfl 29 (.tmp 2) rfl (kC x2) rfl ?_
  intro g6 w3 hg bg6 hb
  have og6 := Lib.hid (show w.heap.size ≤ g6 ∧ g4 < g6 ∧ g5 < g6 from ⟨Nat.le_trans hb0.size (Nat.le_of_eq hg.symm), Nat.lt_of_lt_of_le lg4 (Nat.le_of_eq hg.symm), Nat.lt_of_lt_of_le lg5 (Nat.le_of_eq hg.symm)⟩)
  clear hg
  replace bg4 := bg4.below hb lg4
  replace bg5 := bg5.below hb lg5
  replace hb0 := hb0.trans (hb.mono hb0.size)
  replace lg4 := bg4.lt
  replace lg5 := bg5.lt
  clear hb
  have lg6 := bg6.lt
  try simp only [Act.put, List.setIfInBounds_toArray, List.set_cons_zero, List.set_cons_succ]
  refine wpList_box_blk rfl 29 (.tmp 3) rfl (kC y2) rfl ?_
  intro g7 w4 hg bg7 hb
  have og7 := Lib.hid (show w.heap.size ≤ g7 ∧ g4 < g7 ∧ g5 < g7 ∧ g6 < g7 from ⟨Nat.le_trans hb0.size (Nat.le_of_eq hg.symm), Nat.lt_of_lt_of_le lg4 (Nat.le_of_eq hg.symm), Nat.lt_of_lt_of_le lg5 (Nat.le_of_eq hg.symm), Nat.lt_of_lt_of_le lg6 (Nat.le_of_eq hg.symm)⟩)
  clear hg
  replace bg4 := bg4.below hb lg4
  replace bg5 := bg5.below hb lg5
  replace bg6 := bg6.below hb lg6
  replace hb0 := hb0.trans (hb.mono hb0.size)
  replace lg4 := bg4.lt
  replace lg5 := bg5.lt
  replace lg6 := bg6.lt
  clear hb
  have lg7 := bg7.lt
  try simp only [Act.put, List.setIfInBounds_toArray, List.set_cons_zero, List.set_cons_succ]
  refine wpList_new_blk rfl 29 rfl (kC 0) zeroN6k ?_
  intro g8 w5 hg bg8 hb
  have og8 := Lib.hid (show w.heap.size ≤ g8 ∧ g4 < g8 ∧ g5 < g8 ∧ g6 < g8 ∧ g7 < g8 from ⟨Nat.le_trans hb0.size (Nat.le_of_eq hg.symm), Nat.lt_of_lt_of_le lg4 (Nat.le_of_eq hg.symm), Nat.lt_of_lt_of_le lg5 (Nat.le_of_eq hg.symm), Nat.lt_of_lt_of_le lg6 (Nat.le_of_eq hg.symm), Nat.lt_of_lt_of_le lg7 (Nat.le_of_eq hg.symm)⟩)
  clear hg
  replace bg4 := bg4.below hb lg4
  replace bg5 := bg5.below hb lg5
  replace bg6 := bg6.below hb lg6
  replace bg7 := bg7.below hb lg7
  replace hb0 := hb0.trans (hb.mono hb0.size)
  replace lg4 := bg4.lt
  replace lg5 := bg5.lt
  replace lg6 := bg6.lt
  replace lg7 := bg7.lt
  clear hb
  have lg8 := bg8.lt
  try simp only [Act.put, List.setIfInBounds_toArray, List.set_cons_zero, List.set_cons_succ]
  refine wpList_new_blk rfl 29 rfl (kC 0) zeroN6k ?_
  intro g9 w6 hg bg9 hb
  have og9 := Lib.hid (show w.heap.size ≤ g9 ∧ g4 < g9 ∧ g5 < g9 ∧ g6 < g9 ∧ g7 < g9 ∧ g8 < g9 from ⟨Nat.le_trans hb0.size (Nat.le_of_eq hg.symm), Nat.lt_of_lt_of_le lg4 (Nat.le_of_eq hg.symm), Nat.lt_of_lt_of_le lg5 (Nat.le_of_eq hg.symm), Nat.lt_of_lt_of_le lg6 (Nat.le_of_eq hg.symm), Nat.lt_of_lt_of_le lg7 (Nat.le_of_eq hg.symm), Nat.lt_of_lt_of_le lg8 (Nat.le_of_eq hg.symm)⟩)
  clear hg
  replace bg4 := bg4.below hb lg4
  replace bg5 := bg5.below hb lg5
  replace bg6 := bg6.below hb lg6
  replace bg7 := bg7.below hb lg7
  replace bg8 := bg8.below hb lg8
  replace hb0 := hb0.trans (hb.mono hb0.size)
  replace lg4 := bg4.lt
  replace lg5 := bg5.lt
  replace lg6 := bg6.lt
  replace lg7 := bg7.lt
  replace lg8 := bg8.lt
  clear hb
  have lg9 := bg9.lt
  try simp only [Act.put, List.setIfInBounds_toArray, List.set_cons_zero, List.set_cons_succ]
  go_upto_region 1 with (fail)
  apply wp_plain_once (m := 1) (J := [[]]) (Je := [0]) (Rs := [Is _])
  · kernel_rfl
  · kernel_rfl
  · intro u
    simp only [List.take_succ_cons, List.take_zero, List.map_cons, List.map_nil, fillU, List.setIfInBounds_toArray, List.set_cons_zero, List.set_cons_succ]
    exact rfl
  · simp only [List.take_succ_cons, List.take_zero]
    refine ⟨fun u W hb hd K hK => ?_, ?_⟩
    · clear hd
      go_simp
      refine (rP _).mono ?_
      rintro e wy ⟨rfl, hby⟩
      exact hK _ _ _ rfl hby IsOut
    exact trivial
  · exact (.is .nil)
  intro u w7 hb hd
  simp only [List.drop_succ_cons, List.drop_zero]
  simp only [Facts, nthR, Is, and_true] at hd
  have h0 := hd
  clear hd
  simp only [h0]
  clear h0
  replace bg4 := bg4.below hb lg4
  replace bg5 := bg5.below hb lg5
  replace bg6 := bg6.below hb lg6
  replace bg7 := bg7.below hb lg7
  replace bg8 := bg8.below hb lg8
  replace bg9 := bg9.below hb lg9
  replace hb0 := hb0.trans (hb.mono hb0.size)
  replace lg4 := bg4.lt
  replace lg5 := bg5.lt
  replace lg6 := bg6.lt
  replace lg7 := bg7.lt
  replace lg8 := bg8.lt
  replace lg9 := bg9.lt
  clear hb
  refine wpList_new_blk rfl 29 rfl (kC 0) zeroN6k ?_
  intro g10 w8 hg bg10 hb
  have og10 := Lib.hid (show w.heap.size ≤ g10 ∧ g4 < g10 ∧ g5 < g10 ∧ g6 < g10 ∧ g7 < g10 ∧ g8 < g10 ∧ g9 < g10 from ⟨Nat.le_trans hb0.size (Nat.le_of_eq hg.symm), Nat.lt_of_lt_of_le lg4 (Nat.le_of_eq hg.symm), Nat.lt_of_lt_of_le lg5 (Nat.le_of_eq hg.symm), Nat.lt_of_lt_of_le lg6 (Nat.le_of_eq hg.symm), Nat.lt_of_lt_of_le lg7 (Nat.le_of_eq hg.symm), Nat.lt_of_lt_of_le lg8 (Nat.le_of_eq hg.symm), Nat.lt_of_lt_of_le lg9 (Nat.le_of_eq hg.symm)⟩)
  clear hg
  replace bg4 := bg4.below hb lg4
  replace bg5 := bg5.below hb lg5
  replace bg6 := bg6.below hb lg6
  replace bg7 := bg7.below hb lg7
  replace bg8 := bg8.below hb lg8
  replace bg9 := bg9.below hb lg9
  replace hb0 := hb0.trans (hb.mono hb0.size)
  replace lg4 := bg4.lt
  replace lg5 := bg5.lt
  replace lg6 := bg6.lt
  replace lg7 := bg7.lt
  replace lg8 := bg8.lt
  replace lg9 := bg9.lt
  clear hb
  have lg10 := bg10.lt
  try simp only [Act.put, List.setIfInBounds_toArray, List.set_cons_zero, List.set_cons_succ]
  refine wpList_store_blk rfl 29 (.tmp 10) (.tmp 17) rfl rfl g10 (nC primeP) rfl rfl _ _ bg10 (infoN6.trans (by rw [nC_length])) (by first | with_reducible rfl | rw [kC_length, nC_length] | rw [kC_length]) (one4 _) ?_
  intro w9 bn hgs
  replace bg4 := bg4.grown hgs (fun e => Nat.ne_of_lt og10.out.2.1 (Option.some.inj e))
  replace bg5 := bg5.grown hgs (fun e => Nat.ne_of_lt og10.out.2.2.1 (Option.some.inj e))
  replace bg6 := bg6.grown hgs (fun e => Nat.ne_of_lt og10.out.2.2.2.1 (Option.some.inj e))
  replace bg7 := bg7.grown hgs (fun e => Nat.ne_of_lt og10.out.2.2.2.2.1 (Option.some.inj e))
  replace bg8 := bg8.grown hgs (fun e => Nat.ne_of_lt og10.out.2.2.2.2.2.1 (Option.some.inj e))
  replace bg9 := bg9.grown hgs (fun e => Nat.ne_of_lt og10.out.2.2.2.2.2.2 (Option.some.inj e))
  replace hb0 := below_new hb0 hgs og10.out.1 hb0.size
  clear hgs bg10
  have bg10 := bn
  clear bn
  replace lg4 := bg4.lt
  replace lg5 := bg5.lt
  replace lg6 := bg6.lt
  replace lg7 := bg7.lt
  replace lg8 := bg8.lt
  replace lg9 := bg9.lt
  replace lg10 := bg10.lt
  try simp only [Act.put]
  go_upto_region 2 with (fail)
  apply wp_plain_once (m := 1) (J := [[]]) (Je := [0]) (Rs := [Is _])
  · kernel_rfl
  · kernel_rfl
  · intro u
    simp only [List.take_succ_cons, List.take_zero, List.map_cons, List.map_nil, fillU, List.setIfInBounds_toArray, List.set_cons_zero, List.set_cons_succ]
    exact rfl
  · simp only [List.take_succ_cons, List.take_zero]
    refine ⟨fun u W hb hd K hK => ?_, ?_⟩
    · clear hd
      rw [if_pos (by rfl)]
      refine wp_builtV 29 _ rfl [] rfl (kC 0).toArray built6_0k ?_
      exact hK _ _ _ rfl (Below.refl _ _) IsOut
    exact trivial
  · exact (.is .nil)
  intro u w10 hb hd
  simp only [List.drop_succ_cons, List.drop_zero]
  simp only [Facts, nthR, Is, and_true] at hd
  have h0 := hd
  clear hd
  simp only [h0]
  clear h0
  replace bg4 := bg4.below hb lg4
  replace bg5 := bg5.below hb lg5
  replace bg6 := bg6.below hb lg6
  replace bg7 := bg7.below hb lg7
  replace bg8 := bg8.below hb lg8
  replace bg9 := bg9.below hb lg9
  replace bg10 := bg10.below hb lg10
  replace hb0 := hb0.trans (hb.mono hb0.size)
  replace lg4 := bg4.lt
  replace lg5 := bg5.lt
  replace lg6 := bg6.lt
  replace lg7 := bg7.lt
  replace lg8 := bg8.lt
  replace lg9 := bg9.lt
  replace lg10 := bg10.lt
  clear hb
  refine wpList_new_blk rfl 29 rfl (kC 0) zeroN6k ?_
  intro g11 w11 hg bg11 hb
  have og11 := Lib.hid (show w.heap.size ≤ g11 ∧ g4 < g11 ∧ g5 < g11 ∧ g6 < g11 ∧ g7 < g11 ∧ g8 < g11 ∧ g9 < g11 ∧ g10 < g11 from ⟨Nat.le_trans hb0.size (Nat.le_of_eq hg.symm), Nat.lt_of_lt_of_le lg4 (Nat.le_of_eq hg.symm), Nat.lt_of_lt_of_le lg5 (Nat.le_of_eq hg.symm), Nat.lt_of_lt_of_le lg6 (Nat.le_of_eq hg.symm), Nat.lt_of_lt_of_le lg7 (Nat.le_of_eq hg.symm), Nat.lt_of_lt_of_le lg8 (Nat.le_of_eq hg.symm), Nat.lt_of_lt_of_le lg9 (Nat.le_of_eq hg.symm), Nat.lt_of_lt_of_le lg10 (Nat.le_of_eq hg.symm)⟩)
  clear hg
  replace bg4 := bg4.below hb lg4
  replace bg5 := bg5.below hb lg5
  replace bg6 := bg6.below hb lg6
  replace bg7 := bg7.below hb lg7
  replace bg8 := bg8.below hb lg8
  replace bg9 := bg9.below hb lg9
  replace bg10 := bg10.below hb lg10
  replace hb0 := hb0.trans (hb.mono hb0.size)
  replace lg4 := bg4.lt
  replace lg5 := bg5.lt
  replace lg6 := bg6.lt
  replace lg7 := bg7.lt
  replace lg8 := bg8.lt
  replace lg9 := bg9.lt
  replace lg10 := bg10.lt
  clear hb
  have lg11 := bg11.lt
  try simp only [Act.put, List.setIfInBounds_toArray, List.set_cons_zero, List.set_cons_succ]
  refine wpList_store_blk rfl 29 (.tmp 11) (.tmp 18) rfl rfl g11 (kC 0) rfl rfl _ _ bg11 (infoN6.trans (by rw [kC_length])) (by first | with_reducible rfl | rw [kC_length, kC_length] | rw [kC_length]) (oneK4 _) ?_
  intro w12 bn hgs
  replace bg4 := bg4.grown hgs (fun e => Nat.ne_of_lt og11.out.2.1 (Option.some.inj e))
  replace bg5 := bg5.grown hgs (fun e => Nat.ne_of_lt og11.out.2.2.1 (Option.some.inj e))
  replace bg6 := bg6.grown hgs (fun e => Nat.ne_of_lt og11.out.2.2.2.1 (Option.some.inj e))
  replace bg7 := bg7.grown hgs (fun e => Nat.ne_of_lt og11.out.2.2.2.2.1 (Option.some.inj e))
  replace bg8 := bg8.grown hgs (fun e => Nat.ne_of_lt og11.out.2.2.2.2.2.1 (Option.some.inj e))
  replace bg9 := bg9.grown hgs (fun e => Nat.ne_of_lt og11.out.2.2.2.2.2.2.1 (Option.some.inj e))
  replace bg10 := bg10.grown hgs (fun e => Nat.ne_of_lt og11.out.2.2.2.2.2.2.2 (Option.some.inj e))
  replace hb0 := below_new hb0 hgs og11.out.1 hb0.size
  clear hgs bg11
  have bg11 := bn
  clear bn
  replace lg4 := bg4.lt
  replace lg5 := bg5.lt
  replace lg6 := bg6.lt
  replace lg7 := bg7.lt
  replace lg8 := bg8.lt
  replace lg9 := bg9.lt
  replace lg10 := bg10.lt
  replace lg11 := bg11.lt
  try simp only [Act.put]
  go_upto_region 3 with (fail)
  apply wp_plain_once (m := 8) (J := [[], [], [0, 1], [2], [3], [3], [3, 4, 5], [3, 6]]) (Je := [7]) (Rs := [Is _, Is _, Is _, Is _, Maybe ba true _, Maybe ba true _, Maybe ba true _, Is (.bool false)])
  · kernel_rfl
  · kernel_rfl
  · intro u
    simp only [List.take_succ_cons, List.take_zero, List.map_cons, List.map_nil, fillU, List.setIfInBounds_toArray, List.set_cons_zero, List.set_cons_succ, Nat.reduceAdd]
    exact rfl
  · simp only [List.take_succ_cons, List.take_zero]
    refine ⟨fun u W hb hd K hK => ?_, ?_⟩
    · clear hd
      rw [if_pos (by rfl)]
      refine wp_load_mid 29 (.tmp 4) rfl g4 0 rfl (kC x1) _ (rangeAt_of_blk (bg4.below hb lg4)) Tryd.underlying29 rfl (infoN6.trans (by rw [kC_length])) ?_
      exact hK _ _ _ rfl (Below.refl _ _) IsOut
    refine ⟨fun u W hb hd K hK => ?_, ?_⟩
    · clear hd
      rw [if_pos (by rfl)]
      refine wp_load_mid 29 (.tmp 11) rfl g11 0 rfl (kC 0) _ (rangeAt_of_blk (bg11.below hb lg11)) Tryd.underlying29 rfl (infoN6.trans (by rw [kC_length])) ?_
      exact hK _ _ _ rfl (Below.refl _ _) IsOut
    refine ⟨fun u W hb hd K hK => ?_, ?_⟩
    · simp only [Facts, nthR, Is, and_true] at hd
      simp only [hd] at hK ⊢
      clear hd
      have he : (Op.equalIn 10000 29 (.agg (kC x1).toArray) (.agg (kC 0).toArray)).run Tryd.prog W = .ok ba W := EqK6 hba W
      go_simp
      apply hK
      · simp only [Act.put, List.setIfInBounds_toArray, List.set_cons_zero, List.set_cons_succ]
        exact rfl
      · exact Below.refl _ _
      · exact IsOut
    refine ⟨fun u W hb hd K hK => ?_, ?_⟩
    · simp only [Facts, nthR, Is, and_true] at hd
      simp only [hd] at hK ⊢
      clear hd
      go_simp
      apply hK
      · simp only [Act.put, List.setIfInBounds_toArray, List.set_cons_zero, List.set_cons_succ]
        exact rfl
      · exact Below.refl _ _
      · exact IsOut
    refine ⟨fun u W hb hd K hK => ?_, ?_⟩
    · simp only [Facts, nthR, Is, and_true] at hd
      have h3 := hd
      by_cases hc : ba = true
      · simp only [h3, hc] at hK ⊢
        rw [if_pos (by rfl)]
        refine wp_load_mid 29 (.tmp 5) rfl g5 0 rfl (kC y1) _ (rangeAt_of_blk (bg5.below hb lg5)) Tryd.underlying29 rfl (infoN6.trans (by rw [kC_length])) ?_
        exact hK _ _ _ rfl (Below.refl _ _) fun _ => IsOut (w := W)
      · have hc' : ba = false := by cases ba <;> simp_all
        simp only [h3, hc'] at hK ⊢
        go_simp
        apply hK
        · simp only [Act.put, List.setIfInBounds_toArray, List.set_cons_zero, List.set_cons_succ]
          exact rfl
        · exact Below.refl _ _
        · exact fun h => by cases h
    refine ⟨fun u W hb hd K hK => ?_, ?_⟩
    · simp only [Facts, nthR, Is, and_true] at hd
      have h3 := hd
      by_cases hc : ba = true
      · simp only [h3, hc] at hK ⊢
        rw [if_pos (by rfl)]
        refine wp_load_mid 29 (.tmp 11) rfl g11 0 rfl (kC 0) _ (rangeAt_of_blk (bg11.below hb lg11)) Tryd.underlying29 rfl (infoN6.trans (by rw [kC_length])) ?_
        exact hK _ _ _ rfl (Below.refl _ _) fun _ => IsOut (w := W)
      · have hc' : ba = false := by cases ba <;> simp_all
        simp only [h3, hc'] at hK ⊢
        go_simp
        apply hK
        · simp only [Act.put, List.setIfInBounds_toArray, List.set_cons_zero, List.set_cons_succ]
          exact rfl
        · exact Below.refl _ _
        · exact fun h => by cases h
    refine ⟨fun u W hb hd K hK => ?_, ?_⟩
    · simp only [Facts, nthR, Is, and_true] at hd
      obtain ⟨h3, h4, h5⟩ := hd
      by_cases hc : ba = true
      · replace h4 := h4 hc
        replace h5 := h5 hc
        simp only [h3, h4, h5, hc] at hK ⊢
        have he : (Op.equalIn 10000 29 (.agg (kC y1).toArray) (.agg (kC 0).toArray)).run Tryd.prog W = .ok bb W := EqK6 hbb W
        go_simp
        apply hK
        · simp only [Act.put, List.setIfInBounds_toArray, List.set_cons_zero, List.set_cons_succ]
          exact rfl
        · exact Below.refl _ _
        · exact fun _ => IsOut (w := W)
      · have hc' : ba = false := by cases ba <;> simp_all
        simp only [h3, hc'] at hK ⊢
        go_simp
        apply hK
        · simp only [Act.put, List.setIfInBounds_toArray, List.set_cons_zero, List.set_cons_succ]
          exact rfl
        · exact Below.refl _ _
        · exact fun h => by cases h
    refine ⟨fun u W hb hd K hK => ?_, ?_⟩
    · simp only [Facts, nthR, Is, and_true] at hd
      obtain ⟨h3, h6⟩ := hd
      by_cases hc : ba = true
      · replace h6 := h6 hc
        simp only [h3, h6, hc] at hK ⊢
        go_simp
        apply hK
        · simp only [Act.put, List.setIfInBounds_toArray, List.set_cons_zero, List.set_cons_succ]
          exact rfl
        · exact Below.refl _ _
        · exact (by have hz := hF.out; rw [hc, Bool.true_and] at hz; subst hz; exact IsOut)
      · have hc' : ba = false := by cases ba <;> simp_all
        simp only [h3, hc'] at hK ⊢
        go_simp
        apply hK
        · simp only [Act.put, List.setIfInBounds_toArray, List.set_cons_zero, List.set_cons_succ]
          exact rfl
        · exact Below.refl _ _
        · exact IsOut
    exact trivial
  · exact (.is (.is (.is (.is (.cons (fun _ _ _ h _ => h) (.cons (fun _ _ _ h _ => h) (.cons (fun _ _ _ h _ => h) (.cons (fun _ _ _ h _ => h) .nil))))))))
  intro u w13 hb hd
  simp only [List.drop_succ_cons, List.drop_zero]
  simp only [Facts, nthR, Is, and_true] at hd
  have h7 := hd
  clear hd
  simp only [h7]
  clear h7
  replace bg4 := bg4.below hb lg4
  replace bg5 := bg5.below hb lg5
  replace bg6 := bg6.below hb lg6
  replace bg7 := bg7.below hb lg7
  replace bg8 := bg8.below hb lg8
  replace bg9 := bg9.below hb lg9
  replace bg10 := bg10.below hb lg10
  replace bg11 := bg11.below hb lg11
  replace hb0 := hb0.trans (hb.mono hb0.size)
  replace lg4 := bg4.lt
  replace lg5 := bg5.lt
  replace lg6 := bg6.lt
  replace lg7 := bg7.lt
  replace lg8 := bg8.lt
  replace lg9 := bg9.lt
  replace lg10 := bg10.lt
  replace lg11 := bg11.lt
  clear hb
  go_upto_region 5 with (fail)
  apply wp_plain_once (m := 8) (J := [[], [], [0, 1], [2], [3], [3], [3, 4, 5], [3, 6]]) (Je := [7]) (Rs := [Is _, Is _, Is _, Is _, Maybe bc true _, Maybe bc true _, Maybe bc true _, Is (.bool false)])
  · kernel_rfl
  · kernel_rfl
  · intro u
    simp only [List.take_succ_cons, List.take_zero, List.map_cons, List.map_nil, fillU, List.setIfInBounds_toArray, List.set_cons_zero, List.set_cons_succ, Nat.reduceAdd]
    exact rfl
  · simp only [List.take_succ_cons, List.take_zero]
    refine ⟨fun u W hb hd K hK => ?_, ?_⟩
    · clear hd
      rw [if_pos (by rfl)]
      refine wp_load_mid 29 (.tmp 6) rfl g6 0 rfl (kC x2) _ (rangeAt_of_blk (bg6.below hb lg6)) Tryd.underlying29 rfl (infoN6.trans (by rw [kC_length])) ?_
      exact hK _ _ _ rfl (Below.refl _ _) IsOut
    refine ⟨fun u W hb hd K hK => ?_, ?_⟩
    · clear hd
      rw [if_pos (by rfl)]
      refine wp_load_mid 29 (.tmp 11) rfl g11 0 rfl (kC 0) _ (rangeAt_of_blk (bg11.below hb lg11)) Tryd.underlying29 rfl (infoN6.trans (by rw [kC_length])) ?_
      exact hK _ _ _ rfl (Below.refl _ _) IsOut
    refine ⟨fun u W hb hd K hK => ?_, ?_⟩
    · simp only [Facts, nthR, Is, and_true] at hd
      simp only [hd] at hK ⊢
      clear hd
      have he : (Op.equalIn 10000 29 (.agg (kC x2).toArray) (.agg (kC 0).toArray)).run Tryd.prog W = .ok bc W := EqK6 hbc W
      go_simp
      apply hK
      · simp only [Act.put, List.setIfInBounds_toArray, List.set_cons_zero, List.set_cons_succ]
        exact rfl
      · exact Below.refl _ _
      · exact IsOut
    refine ⟨fun u W hb hd K hK => ?_, ?_⟩
    · simp only [Facts, nthR, Is, and_true] at hd
      simp only [hd] at hK ⊢
      clear hd
      go_simp
      apply hK
      · simp only [Act.put, List.setIfInBounds_toArray, List.set_cons_zero, List.set_cons_succ]
        exact rfl
      · exact Below.refl _ _
      · exact IsOut
    refine ⟨fun u W hb hd K hK => ?_, ?_⟩
    · simp only [Facts, nthR, Is, and_true] at hd
      have h3 := hd
      by_cases hc : bc = true
      · simp only [h3, hc] at hK ⊢
        rw [if_pos (by rfl)]
        refine wp_load_mid 29 (.tmp 7) rfl g7 0 rfl (kC y2) _ (rangeAt_of_blk (bg7.below hb lg7)) Tryd.underlying29 rfl (infoN6.trans (by rw [kC_length])) ?_
        exact hK _ _ _ rfl (Below.refl _ _) fun _ => IsOut (w := W)
      · have hc' : bc = false := by cases bc <;> simp_all
        simp only [h3, hc'] at hK ⊢
        go_simp
        apply hK
        · simp only [Act.put, List.setIfInBounds_toArray, List.set_cons_zero, List.set_cons_succ]
          exact rfl
        · exact Below.refl _ _
        · exact fun h => by cases h
    refine ⟨fun u W hb hd K hK => ?_, ?_⟩
    · simp only [Facts, nthR, Is, and_true] at hd
      have h3 := hd
      by_cases hc : bc = true
      · simp only [h3, hc] at hK ⊢
        rw [if_pos (by rfl)]
        refine wp_load_mid 29 (.tmp 11) rfl g11 0 rfl (kC 0) _ (rangeAt_of_blk (bg11.below hb lg11)) Tryd.underlying29 rfl (infoN6.trans (by rw [kC_length])) ?_
        exact hK _ _ _ rfl (Below.refl _ _) fun _ => IsOut (w := W)
      · have hc' : bc = false := by cases bc <;> simp_all
        simp only [h3, hc'] at hK ⊢
        go_simp
        apply hK
        · simp only [Act.put, List.setIfInBounds_toArray, List.set_cons_zero, List.set_cons_succ]
          exact rfl
        · exact Below.refl _ _
        · exact fun h => by cases h
    refine ⟨fun u W hb hd K hK => ?_, ?_⟩
    · simp only [Facts, nthR, Is, and_true] at hd
      obtain ⟨h3, h4, h5⟩ := hd
      by_cases hc : bc = true
      · replace h4 := h4 hc
        replace h5 := h5 hc
        simp only [h3, h4, h5, hc] at hK ⊢
        have he : (Op.equalIn 10000 29 (.agg (kC y2).toArray) (.agg (kC 0).toArray)).run Tryd.prog W = .ok bd W := EqK6 hbd W
        go_simp
        apply hK
        · simp only [Act.put, List.setIfInBounds_toArray, List.set_cons_zero, List.set_cons_succ]
          exact rfl
        · exact Below.refl _ _
        · exact fun _ => IsOut (w := W)
      · have hc' : bc = false := by cases bc <;> simp_all
        simp only [h3, hc'] at hK ⊢
        go_simp
        apply hK
        · simp only [Act.put, List.setIfInBounds_toArray, List.set_cons_zero, List.set_cons_succ]
          exact rfl
        · exact Below.refl _ _
        · exact fun h => by cases h
    refine ⟨fun u W hb hd K hK => ?_, ?_⟩
    · simp only [Facts, nthR, Is, and_true] at hd
      obtain ⟨h3, h6⟩ := hd
      by_cases hc : bc = true
      · replace h6 := h6 hc
        simp only [h3, h6, hc] at hK ⊢
        go_simp
        apply hK
        · simp only [Act.put, List.setIfInBounds_toArray, List.set_cons_zero, List.set_cons_succ]
          exact rfl
        · exact Below.refl _ _
        · exact (by have hz := hG.out; rw [hc, Bool.true_and] at hz; subst hz; exact IsOut)
      · have hc' : bc = false := by cases bc <;> simp_all
        simp only [h3, hc'] at hK ⊢
        go_simp
        apply hK
        · simp only [Act.put, List.setIfInBounds_toArray, List.set_cons_zero, List.set_cons_succ]
          exact rfl
        · exact Below.refl _ _
        · exact IsOut
    exact trivial
  · exact (.is (.is (.is (.is (.cons (fun _ _ _ h _ => h) (.cons (fun _ _ _ h _ => h) (.cons (fun _ _ _ h _ => h) (.cons (fun _ _ _ h _ => h) .nil))))))))
  intro u w14 hb hd
  simp only [List.drop_succ_cons, List.drop_zero]
  simp only [Facts, nthR, Is, and_true] at hd
  have h7 := hd
  clear hd
  simp only [h7]
  clear h7
  replace bg4 := bg4.below hb lg4
  replace bg5 := bg5.below hb lg5
  replace bg6 := bg6.below hb lg6
  replace bg7 := bg7.below hb lg7
  replace bg8 := bg8.below hb lg8
  replace bg9 := bg9.below hb lg9
  replace bg10 := bg10.below hb lg10
  replace bg11 := bg11.below hb lg11
  replace hb0 := hb0.trans (hb.mono hb0.size)
  replace lg4 := bg4.lt
  replace lg5 := bg5.lt
  replace lg6 := bg6.lt
  replace lg7 := bg7.lt
  replace lg8 := bg8.lt
  replace lg9 := bg9.lt
  replace lg10 := bg10.lt
  replace lg11 := bg11.lt
  clear hb
  go_upto_region 7 with (fail)
  obtain ⟨r42, hr42⟩ : ∃ s : K, Hid (s = y2 - y1) := ⟨_, Lib.hid rfl⟩
  obtain ⟨r46, hr46⟩ : ∃ s : K, Hid (s = x2 - x1) := ⟨_, Lib.hid rfl⟩
  apply wp_region_fresh (m := 10) (Z := []) (Fl := [false, false, false, false, false, false, false, false, true, true]) (D := [[], [], [], [0, 1, 2], [], [], [], [0, 1, 2, 3, 4, 5, 6], [], [], [0, 1, 2, 3, 4, 5, 6, 7, 8, 9], [0, 1, 2, 3, 4, 5, 6, 7, 8, 9, 10]]) (J := [[], [], [], [0, 1, 2], [], [], [], [4, 5, 6], [], []]) (Je := [3, 7, 8, 9]) (Rs := [Is _, Is _, Is _, Is _, Is _, Is _, Is _, Is _, fun v V => ∃ g', v = .pointer (some ⟨g', 0, none⟩) ∧ w14.heap.size ≤ g' ∧ Blk V g' 29 (kC 0), fun v V => ∃ g', v = .pointer (some ⟨g', 0, none⟩) ∧ w14.heap.size ≤ g' ∧ Blk V g' 29 (kC 0)])
  · kernel_rfl
  · kernel_rfl
  · kernel_rfl
  · kernel_rfl
  · kernel_rfl
  · kernel_rfl
  · kernel_rfl
  · kernel_rfl
  · exact fun h => absurd rfl h
  · intro u
    simp only [List.take_succ_cons, List.take_zero, List.map_cons, List.map_nil, fillU, List.setIfInBounds_toArray, List.set_cons_zero, List.set_cons_succ, Nat.reduceAdd]
    exact rfl
  · simp only [List.take_succ_cons, List.take_zero]
    refine ⟨fun u W hb hd K hK => ?_, ?_⟩
    · clear hd
      rw [if_pos (by rfl)]
      refine wp_load_mid 29 (.tmp 7) rfl g7 0 rfl (kC y2) _ (rangeAt_of_blk (bg7.below hb lg7)) Tryd.underlying29 rfl (infoN6.trans (by rw [kC_length])) ?_
      exact hK _ _ _ rfl (Below.refl _ _) IsOut
    refine ⟨fun u W hb hd K hK => ?_, ?_⟩
    · clear hd
      rw [if_pos (by rfl)]
      refine wp_load_mid 29 (.tmp 5) rfl g5 0 rfl (kC y1) _ (rangeAt_of_blk (bg5.below hb lg5)) Tryd.underlying29 rfl (infoN6.trans (by rw [kC_length])) ?_
      exact hK _ _ _ rfl (Below.refl _ _) IsOut
    refine ⟨fun u W hb hd K hK => ?_, ?_⟩
    · clear hd
      rw [if_pos (by rfl)]
      refine wp_load_mid 29 (.tmp 10) rfl g10 0 rfl (nC primeP) _ (rangeAt_of_blk (bg10.below hb lg10)) Tryd.underlying29 rfl (infoN6.trans (by rw [nC_length])) ?_
      exact hK _ _ _ rfl (Below.refl _ _) IsOut
    refine ⟨fun u W hb hd K hK => ?_, ?_⟩
    · simp only [Facts, nthR, Is, and_true] at hd
      simp only [hd] at hK ⊢
      clear hd
      go_simp
      refine (RSubK hr42 _).mono ?_
      rintro e wy ⟨rfl, hby⟩
      exact hK _ _ _ rfl hby IsOut
    refine ⟨fun u W hb hd K hK => ?_, ?_⟩
    · clear hd
      rw [if_pos (by rfl)]
      refine wp_load_mid 29 (.tmp 6) rfl g6 0 rfl (kC x2) _ (rangeAt_of_blk (bg6.below hb lg6)) Tryd.underlying29 rfl (infoN6.trans (by rw [kC_length])) ?_
      exact hK _ _ _ rfl (Below.refl _ _) IsOut
    refine ⟨fun u W hb hd K hK => ?_, ?_⟩
    · clear hd
      rw [if_pos (by rfl)]
      refine wp_load_mid 29 (.tmp 4) rfl g4 0 rfl (kC x1) _ (rangeAt_of_blk (bg4.below hb lg4)) Tryd.underlying29 rfl (infoN6.trans (by rw [kC_length])) ?_
      exact hK _ _ _ rfl (Below.refl _ _) IsOut
    refine ⟨fun u W hb hd K hK => ?_, ?_⟩
    · clear hd
      rw [if_pos (by rfl)]
      refine wp_load_mid 29 (.tmp 10) rfl g10 0 rfl (nC primeP) _ (rangeAt_of_blk (bg10.below hb lg10)) Tryd.underlying29 rfl (infoN6.trans (by rw [nC_length])) ?_
      exact hK _ _ _ rfl (Below.refl _ _) IsOut
    refine ⟨fun u W hb hd K hK => ?_, ?_⟩
    · simp only [Facts, nthR, Is, and_true] at hd
      simp only [hd] at hK ⊢
      clear hd
      go_simp
      refine (RSubK hr46 _).mono ?_
      rintro e wy ⟨rfl, hby⟩
      exact hK _ _ _ rfl hby IsOut
    refine ⟨fun u W hb hd K hK => ?_, ?_⟩
    · clear hd
      go_simp
      apply hK
      · simp only [Act.put, List.setIfInBounds_toArray, List.set_cons_zero, List.set_cons_succ]
        exact rfl
      · exact (Below.refl _ _).alloc (Nat.le_refl _) _
      · exact ⟨_, rfl, hb.size, Blk.new_of _ _ _ _ rfl⟩
      · exact ⟨_, rfl, Nat.le_refl _, by simp⟩
    refine ⟨fun u W hb hd K hK => ?_, ?_⟩
    · clear hd
      go_simp
      apply hK
      · simp only [Act.put, List.setIfInBounds_toArray, List.set_cons_zero, List.set_cons_succ]
        exact rfl
      · exact (Below.refl _ _).alloc (Nat.le_refl _) _
      · exact ⟨_, rfl, hb.size, Blk.new_of _ _ _ _ rfl⟩
      · exact ⟨_, rfl, Nat.le_refl _, by simp⟩
    exact trivial
  · skip
    exact trivial
  · exact (.is (.is (.is (.is (.is (.is (.is (.is (.cons (fun v V V' ⟨g', h1, h2, h3⟩ hb => ⟨g', h1, h2, h3.below hb h3.lt⟩) (.cons (fun v V V' ⟨g', h1, h2, h3⟩ hb => ⟨g', h1, h2, h3.below hb h3.lt⟩) .nil))))))))))
  intro u w15 hb hd hne
  simp only [List.drop_succ_cons, List.drop_zero]
  simp only [Facts, nthR, Is, and_true] at hd
  obtain ⟨h3, h7, ⟨g12, h8, hng12, bg12⟩, ⟨g13, h9, hng13, bg13⟩⟩ := hd
  have og12 := Lib.hid (show w.heap.size ≤ g12 ∧ g4 < g12 ∧ g5 < g12 ∧ g6 < g12 ∧ g7 < g12 ∧ g8 < g12 ∧ g9 < g12 ∧ g10 < g12 ∧ g11 < g12 from ⟨Nat.le_trans hb0.size hng12, Nat.lt_of_lt_of_le lg4 hng12, Nat.lt_of_lt_of_le lg5 hng12, Nat.lt_of_lt_of_le lg6 hng12, Nat.lt_of_lt_of_le lg7 hng12, Nat.lt_of_lt_of_le lg8 hng12, Nat.lt_of_lt_of_le lg9 hng12, Nat.lt_of_lt_of_le lg10 hng12, Nat.lt_of_lt_of_le lg11 hng12⟩)
  have og13 := Lib.hid (show w.heap.size ≤ g13 ∧ g4 < g13 ∧ g5 < g13 ∧ g6 < g13 ∧ g7 < g13 ∧ g8 < g13 ∧ g9 < g13 ∧ g10 < g13 ∧ g11 < g13 ∧ g12 ≠ g13 from ⟨Nat.le_trans hb0.size hng13, Nat.lt_of_lt_of_le lg4 hng13, Nat.lt_of_lt_of_le lg5 hng13, Nat.lt_of_lt_of_le lg6 hng13, Nat.lt_of_lt_of_le lg7 hng13, Nat.lt_of_lt_of_le lg8 hng13, Nat.lt_of_lt_of_le lg9 hng13, Nat.lt_of_lt_of_le lg10 hng13, Nat.lt_of_lt_of_le lg11 hng13, (fun e => hne 8 9 rfl rfl (by decide) (by decide) (by decide) (by rw [h8, h9, e]))⟩)
  simp only [h3, h7, h8, h9]
  clear h3 h7 h8 h9 hne
  replace bg4 := bg4.below hb lg4
  replace bg5 := bg5.below hb lg5
  replace bg6 := bg6.below hb lg6
  replace bg7 := bg7.below hb lg7
  replace bg8 := bg8.below hb lg8
  replace bg9 := bg9.below hb lg9
  replace bg10 := bg10.below hb lg10
  replace bg11 := bg11.below hb lg11
  replace hb0 := hb0.trans (hb.mono hb0.size)
  replace lg4 := bg4.lt
  replace lg5 := bg5.lt
  replace lg6 := bg6.lt
  replace lg7 := bg7.lt
  replace lg8 := bg8.lt
  replace lg9 := bg9.lt
  replace lg10 := bg10.lt
  replace lg11 := bg11.lt
  clear hb
  have lg12 := bg12.lt
  clear hng12
  have lg13 := bg13.lt
  clear hng13
  refine wpList_store_blk rfl 29 (.tmp 12) (.tmp 42) rfl rfl g12 (kC r42) rfl rfl _ _ bg12 (infoN6.trans (by rw [kC_length])) (by first | with_reducible rfl | rw [kC_length, kC_length] | rw [kC_length]) (oneK4 _) ?_
  intro w16 bn hgs
  replace bg4 := bg4.grown hgs (fun e => Nat.ne_of_lt og12.out.2.1 (Option.some.inj e))
  replace bg5 := bg5.grown hgs (fun e => Nat.ne_of_lt og12.out.2.2.1 (Option.some.inj e))
  replace bg6 := bg6.grown hgs (fun e => Nat.ne_of_lt og12.out.2.2.2.1 (Option.some.inj e))
  replace bg7 := bg7.grown hgs (fun e => Nat.ne_of_lt og12.out.2.2.2.2.1 (Option.some.inj e))
  replace bg8 := bg8.grown hgs (fun e => Nat.ne_of_lt og12.out.2.2.2.2.2.1 (Option.some.inj e))
  replace bg9 := bg9.grown hgs (fun e => Nat.ne_of_lt og12.out.2.2.2.2.2.2.1 (Option.some.inj e))
  replace bg10 := bg10.grown hgs (fun e => Nat.ne_of_lt og12.out.2.2.2.2.2.2.2.1 (Option.some.inj e))
  replace bg11 := bg11.grown hgs (fun e => Nat.ne_of_lt og12.out.2.2.2.2.2.2.2.2 (Option.some.inj e))
  replace bg13 := bg13.grown hgs (fun e => og13.out.2.2.2.2.2.2.2.2.2 (Option.some.inj e).symm)
  replace hb0 := below_new hb0 hgs og12.out.1 hb0.size
  clear hgs bg12
  have bg12 := bn
  clear bn
  replace lg4 := bg4.lt
  replace lg5 := bg5.lt
  replace lg6 := bg6.lt
  replace lg7 := bg7.lt
  replace lg8 := bg8.lt
  replace lg9 := bg9.lt
  replace lg10 := bg10.lt
  replace lg11 := bg11.lt
  replace lg12 := bg12.lt
  replace lg13 := bg13.lt
  try simp only [Act.put]
  refine wpList_store_blk rfl 29 (.tmp 13) (.tmp 46) rfl rfl g13 (kC r46) rfl rfl _ _ bg13 (infoN6.trans (by rw [kC_length])) (by first | with_reducible rfl | rw [kC_length, kC_length] | rw [kC_length]) (oneK4 _) ?_
  intro w17 bn hgs
  replace bg4 := bg4.grown hgs (fun e => Nat.ne_of_lt og13.out.2.1 (Option.some.inj e))
  replace bg5 := bg5.grown hgs (fun e => Nat.ne_of_lt og13.out.2.2.1 (Option.some.inj e))
  replace bg6 := bg6.grown hgs (fun e => Nat.ne_of_lt og13.out.2.2.2.1 (Option.some.inj e))
  replace bg7 := bg7.grown hgs (fun e => Nat.ne_of_lt og13.out.2.2.2.2.1 (Option.some.inj e))
  replace bg8 := bg8.grown hgs (fun e => Nat.ne_of_lt og13.out.2.2.2.2.2.1 (Option.some.inj e))
  replace bg9 := bg9.grown hgs (fun e => Nat.ne_of_lt og13.out.2.2.2.2.2.2.1 (Option.some.inj e))
  replace bg10 := bg10.grown hgs (fun e => Nat.ne_of_lt og13.out.2.2.2.2.2.2.2.1 (Option.some.inj e))
  replace bg11 := bg11.grown hgs (fun e => Nat.ne_of_lt og13.out.2.2.2.2.2.2.2.2.1 (Option.some.inj e))
  replace bg12 := bg12.grown hgs (fun e => og13.out.2.2.2.2.2.2.2.2.2 (Option.some.inj e))
  replace hb0 := below_new hb0 hgs og13.out.1 hb0.size
  clear hgs bg13
  have bg13 := bn
  clear bn
  replace lg4 := bg4.lt
  replace lg5 := bg5.lt
  replace lg6 := bg6.lt
  replace lg7 := bg7.lt
  replace lg8 := bg8.lt
  replace lg9 := bg9.lt
  replace lg10 := bg10.lt
  replace lg11 := bg11.lt
  replace lg12 := bg12.lt
  replace lg13 := bg13.lt
  try simp only [Act.put]
  go_upto_region 8 with (fail)
  apply wp_plain_once (m := 3) (J := [[], [], [0, 1]]) (Je := [2]) (Rs := [Is _, Is _, Is _])
  · kernel_rfl
  · kernel_rfl
  · intro u
    simp only [List.take_succ_cons, List.take_zero, List.map_cons, List.map_nil, fillU, List.setIfInBounds_toArray, List.set_cons_zero, List.set_cons_succ, Nat.reduceAdd]
    exact rfl
  · simp only [List.take_succ_cons, List.take_zero]
    refine ⟨fun u W hb hd K hK => ?_, ?_⟩
    · clear hd
      rw [if_pos (by rfl)]
      refine wp_load_mid 29 (.tmp 4) rfl g4 0 rfl (kC x1) _ (rangeAt_of_blk (bg4.below hb lg4)) Tryd.underlying29 rfl (infoN6.trans (by rw [kC_length])) ?_
      exact hK _ _ _ rfl (Below.refl _ _) IsOut
    refine ⟨fun u W hb hd K hK => ?_, ?_⟩
    · clear hd
      rw [if_pos (by rfl)]
      refine wp_load_mid 29 (.tmp 6) rfl g6 0 rfl (kC x2) _ (rangeAt_of_blk (bg6.below hb lg6)) Tryd.underlying29 rfl (infoN6.trans (by rw [kC_length])) ?_
      exact hK _ _ _ rfl (Below.refl _ _) IsOut
    refine ⟨fun u W hb hd K hK => ?_, ?_⟩
    · simp only [Facts, nthR, Is, and_true] at hd
      simp only [hd] at hK ⊢
      clear hd
      have he : (Op.equalIn 10000 29 (.agg (kC x1).toArray) (.agg (kC x2).toArray)).run Tryd.prog W = .ok false W := EqK6 (Lib.hid (decide_eq_false hx.out)) W
      go_simp
      apply hK
      · simp only [Act.put, List.setIfInBounds_toArray, List.set_cons_zero, List.set_cons_succ]
        exact rfl
      · exact Below.refl _ _
      · exact IsOut
    exact trivial
  · exact (.is (.is (.is .nil)))
  intro u w18 hb hd
  simp only [List.drop_succ_cons, List.drop_zero]
  simp only [Facts, nthR, Is, and_true] at hd
  have h2 := hd
  clear hd
  simp only [h2]
  clear h2
  replace bg4 := bg4.below hb lg4
  replace bg5 := bg5.below hb lg5
  replace bg6 := bg6.below hb lg6
  replace bg7 := bg7.below hb lg7
  replace bg8 := bg8.below hb lg8
  replace bg9 := bg9.below hb lg9
  replace bg10 := bg10.below hb lg10
  replace bg11 := bg11.below hb lg11
  replace bg12 := bg12.below hb lg12
  replace bg13 := bg13.below hb lg13
  replace hb0 := hb0.trans (hb.mono hb0.size)
  replace lg4 := bg4.lt
  replace lg5 := bg5.lt
  replace lg6 := bg6.lt
  replace lg7 := bg7.lt
  replace lg8 := bg8.lt
  replace lg9 := bg9.lt
  replace lg10 := bg10.lt
  replace lg11 := bg11.lt
  replace lg12 := bg12.lt
  replace lg13 := bg13.lt
  clear hb
  go_upto_region 13 with (fail)
  obtain ⟨r75, hr75⟩ : ∃ s : K, Hid (s = 0 - 2) := ⟨_, Lib.hid rfl⟩
  apply wp_plain_once (m := 4) (J := [[], [], [], [0, 1, 2]]) (Je := [3]) (Rs := [Is _, Is _, Is _, Is _])
  · kernel_rfl
  · kernel_rfl
  · intro u
    simp only [List.take_succ_cons, List.take_zero, List.map_cons, List.map_nil, fillU, List.setIfInBounds_toArray, List.set_cons_zero, List.set_cons_succ, Nat.reduceAdd]
    exact rfl
  · simp only [List.take_succ_cons, List.take_zero]
    refine ⟨fun u W hb hd K hK => ?_, ?_⟩
    · clear hd
      rw [if_pos (by rfl)]
      refine wp_load_mid 29 (.tmp 11) rfl g11 0 rfl (kC 0) _ (rangeAt_of_blk (bg11.below hb lg11)) Tryd.underlying29 rfl (infoN6.trans (by rw [kC_length])) ?_
      exact hK _ _ _ rfl (Below.refl _ _) IsOut
    refine ⟨fun u W hb hd K hK => ?_, ?_⟩
    · clear hd
      rw [if_pos (by rfl)]
      refine wp_builtV 29 _ rfl [(0, .int .u64 2)] rfl (kC 2).toArray built6_2 ?_
      exact hK _ _ _ rfl (Below.refl _ _) IsOut
    refine ⟨fun u W hb hd K hK => ?_, ?_⟩
    · clear hd
      rw [if_pos (by rfl)]
      refine wp_load_mid 29 (.tmp 10) rfl g10 0 rfl (nC primeP) _ (rangeAt_of_blk (bg10.below hb lg10)) Tryd.underlying29 rfl (infoN6.trans (by rw [nC_length])) ?_
      exact hK _ _ _ rfl (Below.refl _ _) IsOut
    refine ⟨fun u W hb hd K hK => ?_, ?_⟩
    · simp only [Facts, nthR, Is, and_true] at hd
      simp only [hd] at hK ⊢
      clear hd
      go_simp
      refine (RSubK hr75 _).mono ?_
      rintro e wy ⟨rfl, hby⟩
      exact hK _ _ _ rfl hby IsOut
    exact trivial
  · exact (.is (.is (.is (.is .nil))))
  intro u w19 hb hd
  simp only [List.drop_succ_cons, List.drop_zero]
  simp only [Facts, nthR, Is, and_true] at hd
  have h3 := hd
  clear hd
  simp only [h3]
  clear h3
  replace bg4 := bg4.below hb lg4
  replace bg5 := bg5.below hb lg5
  replace bg6 := bg6.below hb lg6
  replace bg7 := bg7.below hb lg7
  replace bg8 := bg8.below hb lg8
  replace bg9 := bg9.below hb lg9
  replace bg10 := bg10.below hb lg10
  replace bg11 := bg11.below hb lg11
  replace bg12 := bg12.below hb lg12
  replace bg13 := bg13.below hb lg13
  replace hb0 := hb0.trans (hb.mono hb0.size)
  replace lg4 := bg4.lt
  replace lg5 := bg5.lt
  replace lg6 := bg6.lt
  replace lg7 := bg7.lt
  replace lg8 := bg8.lt
  replace lg9 := bg9.lt
  replace lg10 := bg10.lt
  replace lg11 := bg11.lt
  replace lg12 := bg12.lt
  replace lg13 := bg13.lt
  clear hb
  refine wpList_new_blk rfl 29 rfl (kC 0) zeroN6k ?_
  intro g14 w20 hg bg14 hb
  have og14 := Lib.hid (show w.heap.size ≤ g14 ∧ g4 < g14 ∧ g5 < g14 ∧ g6 < g14 ∧ g7 < g14 ∧ g8 < g14 ∧ g9 < g14 ∧ g10 < g14 ∧ g11 < g14 ∧ g12 < g14 ∧ g13 < g14 from ⟨Nat.le_trans hb0.size (Nat.le_of_eq hg.symm), Nat.lt_of_lt_of_le lg4 (Nat.le_of_eq hg.symm), Nat.lt_of_lt_of_le lg5 (Nat.le_of_eq hg.symm), Nat.lt_of_lt_of_le lg6 (Nat.le_of_eq hg.symm), Nat.lt_of_lt_of_le lg7 (Nat.le_of_eq hg.symm), Nat.lt_of_lt_of_le lg8 (Nat.le_of_eq hg.symm), Nat.lt_of_lt_of_le lg9 (Nat.le_of_eq hg.symm), Nat.lt_of_lt_of_le lg10 (Nat.le_of_eq hg.symm), Nat.lt_of_lt_of_le lg11 (Nat.le_of_eq hg.symm), Nat.lt_of_lt_of_le lg12 (Nat.le_of_eq hg.symm), Nat.lt_of_lt_of_le lg13 (Nat.le_of_eq hg.symm)⟩)
  clear hg
  replace bg4 := bg4.below hb lg4
  replace bg5 := bg5.below hb lg5
  replace bg6 := bg6.below hb lg6
  replace bg7 := bg7.below hb lg7
  replace bg8 := bg8.below hb lg8
  replace bg9 := bg9.below hb lg9
  replace bg10 := bg10.below hb lg10
  replace bg11 := bg11.below hb lg11
  replace bg12 := bg12.below hb lg12
  replace bg13 := bg13.below hb lg13
  replace hb0 := hb0.trans (hb.mono hb0.size)
  replace lg4 := bg4.lt
  replace lg5 := bg5.lt
  replace lg6 := bg6.lt
  replace lg7 := bg7.lt
  replace lg8 := bg8.lt
  replace lg9 := bg9.lt
  replace lg10 := bg10.lt
  replace lg11 := bg11.lt
  replace lg12 := bg12.lt
  replace lg13 := bg13.lt
  clear hb
  have lg14 := bg14.lt
  try simp only [Act.put, List.setIfInBounds_toArray, List.set_cons_zero, List.set_cons_succ]
  refine wpList_store_blk rfl 29 (.tmp 14) (.tmp 75) rfl rfl g14 (kC r75) rfl rfl _ _ bg14 (infoN6.trans (by rw [kC_length])) (by first | with_reducible rfl | rw [kC_length, kC_length] | rw [kC_length]) (oneK4 _) ?_
  intro w21 bn hgs
  replace bg4 := bg4.grown hgs (fun e => Nat.ne_of_lt og14.out.2.1 (Option.some.inj e))
  replace bg5 := bg5.grown hgs (fun e => Nat.ne_of_lt og14.out.2.2.1 (Option.some.inj e))
  replace bg6 := bg6.grown hgs (fun e => Nat.ne_of_lt og14.out.2.2.2.1 (Option.some.inj e))
  replace bg7 := bg7.grown hgs (fun e => Nat.ne_of_lt og14.out.2.2.2.2.1 (Option.some.inj e))
  replace bg8 := bg8.grown hgs (fun e => Nat.ne_of_lt og14.out.2.2.2.2.2.1 (Option.some.inj e))
  replace bg9 := bg9.grown hgs (fun e => Nat.ne_of_lt og14.out.2.2.2.2.2.2.1 (Option.some.inj e))
  replace bg10 := bg10.grown hgs (fun e => Nat.ne_of_lt og14.out.2.2.2.2.2.2.2.1 (Option.some.inj e))
  replace bg11 := bg11.grown hgs (fun e => Nat.ne_of_lt og14.out.2.2.2.2.2.2.2.2.1 (Option.some.inj e))
  replace bg12 := bg12.grown hgs (fun e => Nat.ne_of_lt og14.out.2.2.2.2.2.2.2.2.2.1 (Option.some.inj e))
  replace bg13 := bg13.grown hgs (fun e => Nat.ne_of_lt og14.out.2.2.2.2.2.2.2.2.2.2 (Option.some.inj e))
  replace hb0 := below_new hb0 hgs og14.out.1 hb0.size
  clear hgs bg14
  have bg14 := bn
  clear bn
  replace lg4 := bg4.lt
  replace lg5 := bg5.lt
  replace lg6 := bg6.lt
  replace lg7 := bg7.lt
  replace lg8 := bg8.lt
  replace lg9 := bg9.lt
  replace lg10 := bg10.lt
  replace lg11 := bg11.lt
  replace lg12 := bg12.lt
  replace lg13 := bg13.lt
  replace lg14 := bg14.lt
  try simp only [Act.put]
  go_upto_region 14 with (fail)
  obtain ⟨r80, hr80⟩ : ∃ s : K, Hid (s = invK r46) := ⟨_, Lib.hid rfl⟩
  obtain ⟨r82, hr82⟩ : ∃ s : K, Hid (s = r42 * r80) := ⟨_, Lib.hid rfl⟩
  apply wp_region_once_tail (m := 8) (Z := []) (D := [[], [], [], [], [1, 2, 3], [], [0, 1, 2, 3, 4, 5], [], [0, 1, 2, 3, 4, 5, 6, 7]]) (J := [[], [], [], [], [1, 2, 3], [], [0, 4, 5], []]) (Je := [6, 7]) (Rs := [Is _, Is _, Is _, Is _, Is _, Is _, Is _, fun v V => ∃ g', v = .pointer (some ⟨g', 0, none⟩) ∧ w21.heap.size ≤ g' ∧ Blk V g' 29 (kC 0)])
  · kernel_rfl
  · kernel_rfl
  · kernel_rfl
  · kernel_rfl
  · kernel_rfl
  · kernel_rfl
  · kernel_rfl
  · exact fun h => absurd rfl h
  · intro u
    simp only [List.take_succ_cons, List.take_zero, List.map_cons, List.map_nil, fillU, List.setIfInBounds_toArray, List.set_cons_zero, List.set_cons_succ, Nat.reduceAdd]
    exact rfl
  · simp only [List.take_succ_cons, List.take_zero]
    refine ⟨fun u W hb hd K hK => ?_, ?_⟩
    · clear hd
      rw [if_pos (by rfl)]
      refine wp_load_mid 29 (.tmp 12) rfl g12 0 rfl (kC r42) _ (rangeAt_of_blk (bg12.below hb lg12)) Tryd.underlying29 rfl (infoN6.trans (by rw [kC_length])) ?_
      exact hK _ _ _ rfl (Below.refl _ _) IsOut
    refine ⟨fun u W hb hd K hK => ?_, ?_⟩
    · clear hd
      rw [if_pos (by rfl)]
      refine wp_load_mid 29 (.tmp 13) rfl g13 0 rfl (kC r46) _ (rangeAt_of_blk (bg13.below hb lg13)) Tryd.underlying29 rfl (infoN6.trans (by rw [kC_length])) ?_
      exact hK _ _ _ rfl (Below.refl _ _) IsOut
    refine ⟨fun u W hb hd K hK => ?_, ?_⟩
    · clear hd
      rw [if_pos (by rfl)]
      refine wp_load_mid 29 (.tmp 14) rfl g14 0 rfl (kC r75) _ (rangeAt_of_blk (bg14.below hb lg14)) Tryd.underlying29 rfl (infoN6.trans (by rw [kC_length])) ?_
      exact hK _ _ _ rfl (Below.refl _ _) IsOut
    refine ⟨fun u W hb hd K hK => ?_, ?_⟩
    · clear hd
      rw [if_pos (by rfl)]
      refine wp_load_mid 29 (.tmp 10) rfl g10 0 rfl (nC primeP) _ (rangeAt_of_blk (bg10.below hb lg10)) Tryd.underlying29 rfl (infoN6.trans (by rw [nC_length])) ?_
      exact hK _ _ _ rfl (Below.refl _ _) IsOut
    refine ⟨fun u W hb hd K hK => ?_, ?_⟩
    · simp only [Facts, nthR, Is, and_true] at hd
      simp only [hd] at hK ⊢
      clear hd
      go_simp
      refine (RInvK hr75 hr80 _).mono ?_
      rintro e wy ⟨rfl, hby⟩
      exact hK _ _ _ rfl hby IsOut
    refine ⟨fun u W hb hd K hK => ?_, ?_⟩
    · clear hd
      rw [if_pos (by rfl)]
      refine wp_load_mid 29 (.tmp 10) rfl g10 0 rfl (nC primeP) _ (rangeAt_of_blk (bg10.below hb lg10)) Tryd.underlying29 rfl (infoN6.trans (by rw [nC_length])) ?_
      exact hK _ _ _ rfl (Below.refl _ _) IsOut
    refine ⟨fun u W hb hd K hK => ?_, ?_⟩
    · simp only [Facts, nthR, Is, and_true] at hd
      simp only [hd] at hK ⊢
      clear hd
      go_simp
      refine (RMulK hr82 _).mono ?_
      rintro e wy ⟨rfl, hby⟩
      exact hK _ _ _ rfl hby IsOut
    refine ⟨fun u W hb hd K hK => ?_, ?_⟩
    · clear hd
      go_simp
      apply hK
      · simp only [Act.put, List.setIfInBounds_toArray, List.set_cons_zero, List.set_cons_succ]
        exact rfl
      · exact (Below.refl _ _).alloc (Nat.le_refl _) _
      · exact ⟨_, rfl, hb.size, Blk.new_of _ _ _ _ rfl⟩
    exact trivial
  · skip
    exact trivial
  · exact (.is (.is (.is (.is (.is (.is (.is (.cons (fun v V V' ⟨g', h1, h2, h3⟩ hb => ⟨g', h1, h2, h3.below hb h3.lt⟩) .nil))))))))
  intro u w22 hb hd
  simp only [List.drop_succ_cons, List.drop_zero]
  simp only [Facts, nthR, Is, and_true] at hd
  obtain ⟨h6, ⟨g15, h7, hng15, bg15⟩⟩ := hd
  have og15 := Lib.hid (show w.heap.size ≤ g15 ∧ g4 < g15 ∧ g5 < g15 ∧ g6 < g15 ∧ g7 < g15 ∧ g8 < g15 ∧ g9 < g15 ∧ g10 < g15 ∧ g11 < g15 ∧ g12 < g15 ∧ g13 < g15 ∧ g14 < g15 from ⟨Nat.le_trans hb0.size hng15, Nat.lt_of_lt_of_le lg4 hng15, Nat.lt_of_lt_of_le lg5 hng15, Nat.lt_of_lt_of_le lg6 hng15, Nat.lt_of_lt_of_le lg7 hng15, Nat.lt_of_lt_of_le lg8 hng15, Nat.lt_of_lt_of_le lg9 hng15, Nat.lt_of_lt_of_le lg10 hng15, Nat.lt_of_lt_of_le lg11 hng15, Nat.lt_of_lt_of_le lg12 hng15, Nat.lt_of_lt_of_le lg13 hng15, Nat.lt_of_lt_of_le lg14 hng15⟩)
  simp only [h6, h7]
  clear h6 h7
  replace bg4 := bg4.below hb lg4
  replace bg5 := bg5.below hb lg5
  replace bg6 := bg6.below hb lg6
  replace bg7 := bg7.below hb lg7
  replace bg8 := bg8.below hb lg8
  replace bg9 := bg9.below hb lg9
  replace bg10 := bg10.below hb lg10
  replace bg11 := bg11.below hb lg11
  replace bg12 := bg12.below hb lg12
  replace bg13 := bg13.below hb lg13
  replace bg14 := bg14.below hb lg14
  replace hb0 := hb0.trans (hb.mono hb0.size)
  replace lg4 := bg4.lt
  replace lg5 := bg5.lt
  replace lg6 := bg6.lt
  replace lg7 := bg7.lt
  replace lg8 := bg8.lt
  replace lg9 := bg9.lt
  replace lg10 := bg10.lt
  replace lg11 := bg11.lt
  replace lg12 := bg12.lt
  replace lg13 := bg13.lt
  replace lg14 := bg14.lt
  clear hb
  have lg15 := bg15.lt
  clear hng15
  refine wpList_store_blk rfl 29 (.tmp 15) (.tmp 82) rfl rfl g15 (kC r82) rfl rfl _ _ bg15 (infoN6.trans (by rw [kC_length])) (by first | with_reducible rfl | rw [kC_length, kC_length] | rw [kC_length]) (oneK4 _) ?_
  intro w23 bn hgs
  replace bg4 := bg4.grown hgs (fun e => Nat.ne_of_lt og15.out.2.1 (Option.some.inj e))
  replace bg5 := bg5.grown hgs (fun e => Nat.ne_of_lt og15.out.2.2.1 (Option.some.inj e))
  replace bg6 := bg6.grown hgs (fun e => Nat.ne_of_lt og15.out.2.2.2.1 (Option.some.inj e))
  replace bg7 := bg7.grown hgs (fun e => Nat.ne_of_lt og15.out.2.2.2.2.1 (Option.some.inj e))
  replace bg8 := bg8.grown hgs (fun e => Nat.ne_of_lt og15.out.2.2.2.2.2.1 (Option.some.inj e))
  replace bg9 := bg9.grown hgs (fun e => Nat.ne_of_lt og15.out.2.2.2.2.2.2.1 (Option.some.inj e))
  replace bg10 := bg10.grown hgs (fun e => Nat.ne_of_lt og15.out.2.2.2.2.2.2.2.1 (Option.some.inj e))
  replace bg11 := bg11.grown hgs (fun e => Nat.ne_of_lt og15.out.2.2.2.2.2.2.2.2.1 (Option.some.inj e))
  replace bg12 := bg12.grown hgs (fun e => Nat.ne_of_lt og15.out.2.2.2.2.2.2.2.2.2.1 (Option.some.inj e))
  replace bg13 := bg13.grown hgs (fun e => Nat.ne_of_lt og15.out.2.2.2.2.2.2.2.2.2.2.1 (Option.some.inj e))
  replace bg14 := bg14.grown hgs (fun e => Nat.ne_of_lt og15.out.2.2.2.2.2.2.2.2.2.2.2 (Option.some.inj e))
  replace hb0 := below_new hb0 hgs og15.out.1 hb0.size
  clear hgs bg15
  have bg15 := bn
  clear bn
  replace lg4 := bg4.lt
  replace lg5 := bg5.lt
  replace lg6 := bg6.lt
  replace lg7 := bg7.lt
  replace lg8 := bg8.lt
  replace lg9 := bg9.lt
  replace lg10 := bg10.lt
  replace lg11 := bg11.lt
  replace lg12 := bg12.lt
  replace lg13 := bg13.lt
  replace lg14 := bg14.lt
  replace lg15 := bg15.lt
  try simp only [Act.put]
  go_upto_region 15 with (fail)
  obtain ⟨r86, hr86⟩ : ∃ s : K, Hid (s = r82 * r82) := ⟨_, Lib.hid rfl⟩
  obtain ⟨r89, hr89⟩ : ∃ s : K, Hid (s = r86 - x1) := ⟨_, Lib.hid rfl⟩
  obtain ⟨r92, hr92⟩ : ∃ s : K, Hid (s = r89 - x2) := ⟨_, Lib.hid rfl⟩
  apply wp_region_once_tail (m := 11) (Z := []) (D := [[], [], [], [0, 1, 2], [], [], [0, 1, 2, 3, 4, 5], [], [], [0, 1, 2, 3, 4, 5, 6, 7, 8], [], [0, 1, 2, 3, 4, 5, 6, 7, 8, 9, 10]]) (J := [[], [], [], [0, 1, 2], [], [], [3, 4, 5], [], [], [6, 7, 8], []]) (Je := [9, 10]) (Rs := [Is _, Is _, Is _, Is _, Is _, Is _, Is _, Is _, Is _, Is _, fun v V => ∃ g', v = .pointer (some ⟨g', 0, none⟩) ∧ w23.heap.size ≤ g' ∧ Blk V g' 29 (kC 0)])
  · kernel_rfl
  · kernel_rfl
  · kernel_rfl
  · kernel_rfl
  · kernel_rfl
  · kernel_rfl
  · kernel_rfl
  · exact fun h => absurd rfl h
  · intro u
    simp only [List.take_succ_cons, List.take_zero, List.map_cons, List.map_nil, fillU, List.setIfInBounds_toArray, List.set_cons_zero, List.set_cons_succ, Nat.reduceAdd]
    exact rfl
  · simp only [List.take_succ_cons, List.take_zero]
    refine ⟨fun u W hb hd K hK => ?_, ?_⟩
    · clear hd
      rw [if_pos (by rfl)]
      refine wp_load_mid 29 (.tmp 15) rfl g15 0 rfl (kC r82) _ (rangeAt_of_blk (bg15.below hb lg15)) Tryd.underlying29 rfl (infoN6.trans (by rw [kC_length])) ?_
      exact hK _ _ _ rfl (Below.refl _ _) IsOut
    refine ⟨fun u W hb hd K hK => ?_, ?_⟩
    · clear hd
      rw [if_pos (by rfl)]
      refine wp_load_mid 29 (.tmp 15) rfl g15 0 rfl (kC r82) _ (rangeAt_of_blk (bg15.below hb lg15)) Tryd.underlying29 rfl (infoN6.trans (by rw [kC_length])) ?_
      exact hK _ _ _ rfl (Below.refl _ _) IsOut
    refine ⟨fun u W hb hd K hK => ?_, ?_⟩
    · clear hd
      rw [if_pos (by rfl)]
      refine wp_load_mid 29 (.tmp 10) rfl g10 0 rfl (nC primeP) _ (rangeAt_of_blk (bg10.below hb lg10)) Tryd.underlying29 rfl (infoN6.trans (by rw [nC_length])) ?_
      exact hK _ _ _ rfl (Below.refl _ _) IsOut
    refine ⟨fun u W hb hd K hK => ?_, ?_⟩
    · simp only [Facts, nthR, Is, and_true] at hd
      simp only [hd] at hK ⊢
      clear hd
      go_simp
      refine (RMulK hr86 _).mono ?_
      rintro e wy ⟨rfl, hby⟩
      exact hK _ _ _ rfl hby IsOut
    refine ⟨fun u W hb hd K hK => ?_, ?_⟩
    · clear hd
      rw [if_pos (by rfl)]
      refine wp_load_mid 29 (.tmp 4) rfl g4 0 rfl (kC x1) _ (rangeAt_of_blk (bg4.below hb lg4)) Tryd.underlying29 rfl (infoN6.trans (by rw [kC_length])) ?_
      exact hK _ _ _ rfl (Below.refl _ _) IsOut
    refine ⟨fun u W hb hd K hK => ?_, ?_⟩
    · clear hd
      rw [if_pos (by rfl)]
      refine wp_load_mid 29 (.tmp 10) rfl g10 0 rfl (nC primeP) _ (rangeAt_of_blk (bg10.below hb lg10)) Tryd.underlying29 rfl (infoN6.trans (by rw [nC_length])) ?_
      exact hK _ _ _ rfl (Below.refl _ _) IsOut
    refine ⟨fun u W hb hd K hK => ?_, ?_⟩
    · simp only [Facts, nthR, Is, and_true] at hd
      simp only [hd] at hK ⊢
      clear hd
      go_simp
      refine (RSubK hr89 _).mono ?_
      rintro e wy ⟨rfl, hby⟩
      exact hK _ _ _ rfl hby IsOut
    refine ⟨fun u W hb hd K hK => ?_, ?_⟩
    · clear hd
      rw [if_pos (by rfl)]
      refine wp_load_mid 29 (.tmp 6) rfl g6 0 rfl (kC x2) _ (rangeAt_of_blk (bg6.below hb lg6)) Tryd.underlying29 rfl (infoN6.trans (by rw [kC_length])) ?_
      exact hK _ _ _ rfl (Below.refl _ _) IsOut
    refine ⟨fun u W hb hd K hK => ?_, ?_⟩
    · clear hd
      rw [if_pos (by rfl)]
      refine wp_load_mid 29 (.tmp 10) rfl g10 0 rfl (nC primeP) _ (rangeAt_of_blk (bg10.below hb lg10)) Tryd.underlying29 rfl (infoN6.trans (by rw [nC_length])) ?_
      exact hK _ _ _ rfl (Below.refl _ _) IsOut
    refine ⟨fun u W hb hd K hK => ?_, ?_⟩
    · simp only [Facts, nthR, Is, and_true] at hd
      simp only [hd] at hK ⊢
      clear hd
      go_simp
      refine (RSubK hr92 _).mono ?_
      rintro e wy ⟨rfl, hby⟩
      exact hK _ _ _ rfl hby IsOut
    refine ⟨fun u W hb hd K hK => ?_, ?_⟩
    · clear hd
      go_simp
      apply hK
      · simp only [Act.put, List.setIfInBounds_toArray, List.set_cons_zero, List.set_cons_succ]
        exact rfl
      · exact (Below.refl _ _).alloc (Nat.le_refl _) _
      · exact ⟨_, rfl, hb.size, Blk.new_of _ _ _ _ rfl⟩
    exact trivial
  · skip
    exact trivial
  · exact (.is (.is (.is (.is (.is (.is (.is (.is (.is (.is (.cons (fun v V V' ⟨g', h1, h2, h3⟩ hb => ⟨g', h1, h2, h3.below hb h3.lt⟩) .nil)))))))))))
  intro u w24 hb hd
  simp only [List.drop_succ_cons, List.drop_zero]
  simp only [Facts, nthR, Is, and_true] at hd
  obtain ⟨h9, ⟨g16, h10, hng16, bg16⟩⟩ := hd
  have og16 := Lib.hid (show w.heap.size ≤ g16 ∧ g4 < g16 ∧ g5 < g16 ∧ g6 < g16 ∧ g7 < g16 ∧ g8 < g16 ∧ g9 < g16 ∧ g10 < g16 ∧ g11 < g16 ∧ g12 < g16 ∧ g13 < g16 ∧ g14 < g16 ∧ g15 < g16 from ⟨Nat.le_trans hb0.size hng16, Nat.lt_of_lt_of_le lg4 hng16, Nat.lt_of_lt_of_le lg5 hng16, Nat.lt_of_lt_of_le lg6 hng16, Nat.lt_of_lt_of_le lg7 hng16, Nat.lt_of_lt_of_le lg8 hng16, Nat.lt_of_lt_of_le lg9 hng16, Nat.lt_of_lt_of_le lg10 hng16, Nat.lt_of_lt_of_le lg11 hng16, Nat.lt_of_lt_of_le lg12 hng16, Nat.lt_of_lt_of_le lg13 hng16, Nat.lt_of_lt_of_le lg14 hng16, Nat.lt_of_lt_of_le lg15 hng16⟩)
  simp only [h9, h10]
  clear h9 h10
  replace bg4 := bg4.below hb lg4
  replace bg5 := bg5.below hb lg5
  replace bg6 := bg6.below hb lg6
  replace bg7 := bg7.below hb lg7
  replace bg8 := bg8.below hb lg8
  replace bg9 := bg9.below hb lg9
  replace bg10 := bg10.below hb lg10
  replace bg11 := bg11.below hb lg11
  replace bg12 := bg12.below hb lg12
  replace bg13 := bg13.below hb lg13
  replace bg14 := bg14.below hb lg14
  replace bg15 := bg15.below hb lg15
  replace hb0 := hb0.trans (hb.mono hb0.size)
  replace lg4 := bg4.lt
  replace lg5 := bg5.lt
  replace lg6 := bg6.lt
  replace lg7 := bg7.lt
  replace lg8 := bg8.lt
  replace lg9 := bg9.lt
  replace lg10 := bg10.lt
  replace lg11 := bg11.lt
  replace lg12 := bg12.lt
  replace lg13 := bg13.lt
  replace lg14 := bg14.lt
  replace lg15 := bg15.lt
  clear hb
  have lg16 := bg16.lt
  clear hng16
  refine wpList_store_blk rfl 29 (.tmp 16) (.tmp 92) rfl rfl g16 (kC r92) rfl rfl _ _ bg16 (infoN6.trans (by rw [kC_length])) (by first | with_reducible rfl | rw [kC_length, kC_length] | rw [kC_length]) (oneK4 _) ?_
  intro w25 bn hgs
  replace bg4 := bg4.grown hgs (fun e => Nat.ne_of_lt og16.out.2.1 (Option.some.inj e))
  replace bg5 := bg5.grown hgs (fun e => Nat.ne_of_lt og16.out.2.2.1 (Option.some.inj e))
  replace bg6 := bg6.grown hgs (fun e => Nat.ne_of_lt og16.out.2.2.2.1 (Option.some.inj e))
  replace bg7 := bg7.grown hgs (fun e => Nat.ne_of_lt og16.out.2.2.2.2.1 (Option.some.inj e))
  replace bg8 := bg8.grown hgs (fun e => Nat.ne_of_lt og16.out.2.2.2.2.2.1 (Option.some.inj e))
  replace bg9 := bg9.grown hgs (fun e => Nat.ne_of_lt og16.out.2.2.2.2.2.2.1 (Option.some.inj e))
  replace bg10 := bg10.grown hgs (fun e => Nat.ne_of_lt og16.out.2.2.2.2.2.2.2.1 (Option.some.inj e))
  replace bg11 := bg11.grown hgs (fun e => Nat.ne_of_lt og16.out.2.2.2.2.2.2.2.2.1 (Option.some.inj e))
  replace bg12 := bg12.grown hgs (fun e => Nat.ne_of_lt og16.out.2.2.2.2.2.2.2.2.2.1 (Option.some.inj e))
  replace bg13 := bg13.grown hgs (fun e => Nat.ne_of_lt og16.out.2.2.2.2.2.2.2.2.2.2.1 (Option.some.inj e))
  replace bg14 := bg14.grown hgs (fun e => Nat.ne_of_lt og16.out.2.2.2.2.2.2.2.2.2.2.2.1 (Option.some.inj e))
  replace bg15 := bg15.grown hgs (fun e => Nat.ne_of_lt og16.out.2.2.2.2.2.2.2.2.2.2.2.2 (Option.some.inj e))
  replace hb0 := below_new hb0 hgs og16.out.1 hb0.size
  clear hgs bg16
  have bg16 := bn
  clear bn
  replace lg4 := bg4.lt
  replace lg5 := bg5.lt
  replace lg6 := bg6.lt
  replace lg7 := bg7.lt
  replace lg8 := bg8.lt
  replace lg9 := bg9.lt
  replace lg10 := bg10.lt
  replace lg11 := bg11.lt
  replace lg12 := bg12.lt
  replace lg13 := bg13.lt
  replace lg14 := bg14.lt
  replace lg15 := bg15.lt
  replace lg16 := bg16.lt
  try simp only [Act.put]
  go_upto_region 16 with (fail)
  obtain ⟨r98, hr98⟩ : ∃ s : K, Hid (s = x1 - r92) := ⟨_, Lib.hid rfl⟩
  obtain ⟨r100, hr100⟩ : ∃ s : K, Hid (s = r82 * r98) := ⟨_, Lib.hid rfl⟩
  obtain ⟨r103, hr103⟩ : ∃ s : K, Hid (s = r100 - y1) := ⟨_, Lib.hid rfl⟩
  apply wp_region_once_tail (m := 11) (Z := []) (D := [[], [], [], [], [], [2, 3, 4], [], [1, 2, 3, 4, 5, 6], [], [], [1, 2, 3, 4, 5, 6, 7, 8, 9], [0, 1, 2, 3, 4, 5, 6, 7, 8, 9, 10], [0, 1, 2, 3, 4, 5, 6, 7, 8, 9, 10, 11]]) (J := [[], [], [], [], [], [2, 3, 4], [], [1, 5, 6], [], [], [7, 8, 9]]) (Je := [0, 10]) (Rs := [Is _, Is _, Is _, Is _, Is _, Is _, Is _, Is _, Is _, Is _, Is _])
  · kernel_rfl
  · kernel_rfl
  · kernel_rfl
  · kernel_rfl
  · kernel_rfl
  · kernel_rfl
  · kernel_rfl
  · exact fun h => absurd rfl h
  · intro u
    simp only [List.take_succ_cons, List.take_zero, List.map_cons, List.map_nil, fillU, List.setIfInBounds_toArray, List.set_cons_zero, List.set_cons_succ, Nat.reduceAdd]
    exact rfl
  · simp only [List.take_succ_cons, List.take_zero]
    refine ⟨fun u W hb hd K hK => ?_, ?_⟩
    · clear hd
      rw [if_pos (by rfl)]
      refine wp_load_mid 29 (.tmp 16) rfl g16 0 rfl (kC r92) _ (rangeAt_of_blk (bg16.below hb lg16)) Tryd.underlying29 rfl (infoN6.trans (by rw [kC_length])) ?_
      exact hK _ _ _ rfl (Below.refl _ _) IsOut
    refine ⟨fun u W hb hd K hK => ?_, ?_⟩
    · clear hd
      rw [if_pos (by rfl)]
      refine wp_load_mid 29 (.tmp 15) rfl g15 0 rfl (kC r82) _ (rangeAt_of_blk (bg15.below hb lg15)) Tryd.underlying29 rfl (infoN6.trans (by rw [kC_length])) ?_
      exact hK _ _ _ rfl (Below.refl _ _) IsOut
    refine ⟨fun u W hb hd K hK => ?_, ?_⟩
    · clear hd
      rw [if_pos (by rfl)]
      refine wp_load_mid 29 (.tmp 4) rfl g4 0 rfl (kC x1) _ (rangeAt_of_blk (bg4.below hb lg4)) Tryd.underlying29 rfl (infoN6.trans (by rw [kC_length])) ?_
      exact hK _ _ _ rfl (Below.refl _ _) IsOut
    refine ⟨fun u W hb hd K hK => ?_, ?_⟩
    · clear hd
      rw [if_pos (by rfl)]
      refine wp_load_mid 29 (.tmp 16) rfl g16 0 rfl (kC r92) _ (rangeAt_of_blk (bg16.below hb lg16)) Tryd.underlying29 rfl (infoN6.trans (by rw [kC_length])) ?_
      exact hK _ _ _ rfl (Below.refl _ _) IsOut
    refine ⟨fun u W hb hd K hK => ?_, ?_⟩
    · clear hd
      rw [if_pos (by rfl)]
      refine wp_load_mid 29 (.tmp 10) rfl g10 0 rfl (nC primeP) _ (rangeAt_of_blk (bg10.below hb lg10)) Tryd.underlying29 rfl (infoN6.trans (by rw [nC_length])) ?_
      exact hK _ _ _ rfl (Below.refl _ _) IsOut
    refine ⟨fun u W hb hd K hK => ?_, ?_⟩
    · simp only [Facts, nthR, Is, and_true] at hd
      simp only [hd] at hK ⊢
      clear hd
      go_simp
      refine (RSubK hr98 _).mono ?_
      rintro e wy ⟨rfl, hby⟩
      exact hK _ _ _ rfl hby IsOut
    refine ⟨fun u W hb hd K hK => ?_, ?_⟩
    · clear hd
      rw [if_pos (by rfl)]
      refine wp_load_mid 29 (.tmp 10) rfl g10 0 rfl (nC primeP) _ (rangeAt_of_blk (bg10.below hb lg10)) Tryd.underlying29 rfl (infoN6.trans (by rw [nC_length])) ?_
      exact hK _ _ _ rfl (Below.refl _ _) IsOut
    refine ⟨fun u W hb hd K hK => ?_, ?_⟩
    · simp only [Facts, nthR, Is, and_true] at hd
      simp only [hd] at hK ⊢
      clear hd
      go_simp
      refine (RMulK hr100 _).mono ?_
      rintro e wy ⟨rfl, hby⟩
      exact hK _ _ _ rfl hby IsOut
    refine ⟨fun u W hb hd K hK => ?_, ?_⟩
    · clear hd
      rw [if_pos (by rfl)]
      refine wp_load_mid 29 (.tmp 5) rfl g5 0 rfl (kC y1) _ (rangeAt_of_blk (bg5.below hb lg5)) Tryd.underlying29 rfl (infoN6.trans (by rw [kC_length])) ?_
      exact hK _ _ _ rfl (Below.refl _ _) IsOut
    refine ⟨fun u W hb hd K hK => ?_, ?_⟩
    · clear hd
      rw [if_pos (by rfl)]
      refine wp_load_mid 29 (.tmp 10) rfl g10 0 rfl (nC primeP) _ (rangeAt_of_blk (bg10.below hb lg10)) Tryd.underlying29 rfl (infoN6.trans (by rw [nC_length])) ?_
      exact hK _ _ _ rfl (Below.refl _ _) IsOut
    refine ⟨fun u W hb hd K hK => ?_, ?_⟩
    · simp only [Facts, nthR, Is, and_true] at hd
      simp only [hd] at hK ⊢
      clear hd
      go_simp
      refine (RSubK hr103 _).mono ?_
      rintro e wy ⟨rfl, hby⟩
      exact hK _ _ _ rfl hby IsOut
    exact trivial
  · skip
    exact trivial
  · exact (.is (.is (.is (.is (.is (.is (.is (.is (.is (.is (.is .nil)))))))))))
  intro u w26 hb hd
  simp only [List.drop_succ_cons, List.drop_zero]
  simp only [Facts, nthR, Is, and_true] at hd
  obtain ⟨h0, h10⟩ := hd
  simp only [h0, h10]
  clear h0 h10
  replace bg4 := bg4.below hb lg4
  replace bg5 := bg5.below hb lg5
  replace bg6 := bg6.below hb lg6
  replace bg7 := bg7.below hb lg7
  replace bg8 := bg8.below hb lg8
  replace bg9 := bg9.below hb lg9
  replace bg10 := bg10.below hb lg10
  replace bg11 := bg11.below hb lg11
  replace bg12 := bg12.below hb lg12
  replace bg13 := bg13.below hb lg13
  replace bg14 := bg14.below hb lg14
  replace bg15 := bg15.below hb lg15
  replace bg16 := bg16.below hb lg16
  replace hb0 := hb0.trans (hb.mono hb0.size)
  replace lg4 := bg4.lt
  replace lg5 := bg5.lt
  replace lg6 := bg6.lt
  replace lg7 := bg7.lt
  replace lg8 := bg8.lt
  replace lg9 := bg9.lt
  replace lg10 := bg10.lt
  replace lg11 := bg11.lt
  replace lg12 := bg12.lt
  replace lg13 := bg13.lt
  replace lg14 := bg14.lt
  replace lg15 := bg15.lt
  replace lg16 := bg16.lt
  clear hb
  refine wpList_store_blk rfl 29 (.tmp 8) (.tmp 93) rfl rfl g8 (kC r92) rfl rfl _ _ bg8 (infoN6.trans (by rw [kC_length])) (by first | with_reducible rfl | rw [kC_length, kC_length] | rw [kC_length]) (oneK4 _) ?_
  intro w27 bn hgs
  replace bg4 := bg4.grown hgs (fun e => Nat.ne_of_lt og8.out.2.1 (Option.some.inj e))
  replace bg5 := bg5.grown hgs (fun e => Nat.ne_of_lt og8.out.2.2.1 (Option.some.inj e))
  replace bg6 := bg6.grown hgs (fun e => Nat.ne_of_lt og8.out.2.2.2.1 (Option.some.inj e))
  replace bg7 := bg7.grown hgs (fun e => Nat.ne_of_lt og8.out.2.2.2.2 (Option.some.inj e))
  replace bg9 := bg9.grown hgs (fun e => Nat.ne_of_gt og9.out.2.2.2.2.2 (Option.some.inj e))
  replace bg10 := bg10.grown hgs (fun e => Nat.ne_of_gt og10.out.2.2.2.2.2.1 (Option.some.inj e))
  replace bg11 := bg11.grown hgs (fun e => Nat.ne_of_gt og11.out.2.2.2.2.2.1 (Option.some.inj e))
  replace bg12 := bg12.grown hgs (fun e => Nat.ne_of_gt og12.out.2.2.2.2.2.1 (Option.some.inj e))
  replace bg13 := bg13.grown hgs (fun e => Nat.ne_of_gt og13.out.2.2.2.2.2.1 (Option.some.inj e))
  replace bg14 := bg14.grown hgs (fun e => Nat.ne_of_gt og14.out.2.2.2.2.2.1 (Option.some.inj e))
  replace bg15 := bg15.grown hgs (fun e => Nat.ne_of_gt og15.out.2.2.2.2.2.1 (Option.some.inj e))
  replace bg16 := bg16.grown hgs (fun e => Nat.ne_of_gt og16.out.2.2.2.2.2.1 (Option.some.inj e))
  replace hb0 := below_new hb0 hgs og8.out.1 hb0.size
  clear hgs bg8
  have bg8 := bn
  clear bn
  replace lg4 := bg4.lt
  replace lg5 := bg5.lt
  replace lg6 := bg6.lt
  replace lg7 := bg7.lt
  replace lg8 := bg8.lt
  replace lg9 := bg9.lt
  replace lg10 := bg10.lt
  replace lg11 := bg11.lt
  replace lg12 := bg12.lt
  replace lg13 := bg13.lt
  replace lg14 := bg14.lt
  replace lg15 := bg15.lt
  replace lg16 := bg16.lt
  try simp only [Act.put]
  refine wpList_store_blk rfl 29 (.tmp 9) (.tmp 103) rfl rfl g9 (kC r103) rfl rfl _ _ bg9 (infoN6.trans (by rw [kC_length])) (by first | with_reducible rfl | rw [kC_length, kC_length] | rw [kC_length]) (oneK4 _) ?_
  intro w28 bn hgs
  replace bg4 := bg4.grown hgs (fun e => Nat.ne_of_lt og9.out.2.1 (Option.some.inj e))
  replace bg5 := bg5.grown hgs (fun e => Nat.ne_of_lt og9.out.2.2.1 (Option.some.inj e))
  replace bg6 := bg6.grown hgs (fun e => Nat.ne_of_lt og9.out.2.2.2.1 (Option.some.inj e))
  replace bg7 := bg7.grown hgs (fun e => Nat.ne_of_lt og9.out.2.2.2.2.1 (Option.some.inj e))
  replace bg8 := bg8.grown hgs (fun e => Nat.ne_of_lt og9.out.2.2.2.2.2 (Option.some.inj e))
  replace bg10 := bg10.grown hgs (fun e => Nat.ne_of_gt og10.out.2.2.2.2.2.2 (Option.some.inj e))
  replace bg11 := bg11.grown hgs (fun e => Nat.ne_of_gt og11.out.2.2.2.2.2.2.1 (Option.some.inj e))
  replace bg12 := bg12.grown hgs (fun e => Nat.ne_of_gt og12.out.2.2.2.2.2.2.1 (Option.some.inj e))
  replace bg13 := bg13.grown hgs (fun e => Nat.ne_of_gt og13.out.2.2.2.2.2.2.1 (Option.some.inj e))
  replace bg14 := bg14.grown hgs (fun e => Nat.ne_of_gt og14.out.2.2.2.2.2.2.1 (Option.some.inj e))
  replace bg15 := bg15.grown hgs (fun e => Nat.ne_of_gt og15.out.2.2.2.2.2.2.1 (Option.some.inj e))
  replace bg16 := bg16.grown hgs (fun e => Nat.ne_of_gt og16.out.2.2.2.2.2.2.1 (Option.some.inj e))
  replace hb0 := below_new hb0 hgs og9.out.1 hb0.size
  clear hgs bg9
  have bg9 := bn
  clear bn
  replace lg4 := bg4.lt
  replace lg5 := bg5.lt
  replace lg6 := bg6.lt
  replace lg7 := bg7.lt
  replace lg8 := bg8.lt
  replace lg9 := bg9.lt
  replace lg10 := bg10.lt
  replace lg11 := bg11.lt
  replace lg12 := bg12.lt
  replace lg13 := bg13.lt
  replace lg14 := bg14.lt
  replace lg15 := bg15.lt
  replace lg16 := bg16.lt
  try simp only [Act.put]
  go_wp2_with (fail)
  have es : r82 = s := by rw [hs.out, hr82.out, hr80.out, hr42.out, hr46.out]
  have eu : r92 = xr := by rw [hu.out, hr92.out, hr89.out, hr86.out, es]
  have ev : r103 = yr := by rw [hv.out, hr103.out, hr100.out, hr98.out, es, eu]
  rw [eu] at bg8
  rw [ev] at bg9
  refine bodyPost_ret (v := .tuple _) ?_ rfl ⟨rfl, hb0⟩
  exact results_two6 rfl _ _ g8 g9 _ _ rfl rfl bg8 bg9
set_option maxRecDepth 100000 in
set_option maxHeartbeats 2000000 in
theorem rAdd_4 (x1 y1 y2 : K) (ba bb bc bd : Bool) (hba : Hid (decide (x1 = 0) = ba)) (hbb : Hid (decide (y1 = 0) = bb)) (hF : Hid ((ba && bb) = false)) (hbc : Hid (decide (x1 = 0) = bc)) (hbd : Hid (decide (y2 = 0) = bd)) (hG : Hid ((bc && bd) = false)) (hz : Hid (y1 + y2 = 0)) (w : World) : Calls Tryd.prog 25 #[.agg (kC x1).toArray, .agg (kC y1).toArray, .agg (kC x1).toArray, .agg (kC y2).toArray] w fun e w' => e = .returned (.tuple #[.agg (kC 0).toArray, .agg (kC 0).toArray]) ∧ Below w.heap.size w w' := by
  go_enter Tryd.func25, Tryd.ntmps25
  have hb0 : Below w.heap.size w w := Below.refl _ _
  go_upto_region 0 with (fail)
  refine wp_region_lit ?_
  refine wpList_box_blk rfl 29 (.tmp 0) rfl (kC x1) rfl ?_
  intro g4 w1 hg bg4 hb
  have og4 := Lib.hid (show w.heap.size ≤ g4 from Nat.le_trans hb0.size (Nat.le_of_eq hg.symm))
  clear hg
  replace hb0 := hb0.trans (hb.mono hb0.size)
  clear hb
  have lg4 := bg4.lt
  try simp only [Act.put, List.setIfInBounds_toArray, List.set_cons_zero, List.set_cons_succ]
  refine wpList_box_blk rfl 29 (.tmp 1) rfl (kC y1) rfl ?_
  intro g5 w2 hg bg5 hb
  have og5 := Lib.hid (show w.heap.size ≤ g5 ∧ g4 < g5 from ⟨Nat.le_trans hb0.size (Nat.le_of_eq hg.symm), Nat.lt_of_lt_of_le lg4 (Nat.le_of_eq hg.symm)⟩)
  clear hg
  replace bg4 := bg4.below hb lg4
  replace hb0 := hb0.trans (hb.mono hb0.size)
  replace lg4 := bg4.lt
  clear hb
  have lg5 := bg5.lt
  try simp only [Act.put, List.setIfInBounds_toArray, List.set_cons_zero, List.set_cons_succ]
  refine wpList_box_blk rfl 29 (.tmp 2) rfl (kC x1) rfl ?_
  intro g6 w3 hg bg6 hb
  have og6 := Lib.hid (show w.heap.size ≤ g6 ∧ g4 < g6 ∧ g5 < g6 from ⟨Nat.le_trans hb0.size (Nat.le_of_eq hg.symm), Nat.lt_of_lt_of_le lg4 (Nat.le_of_eq hg.symm), Nat.lt_of_lt_of_le lg5 (Nat.le_of_eq hg.symm)⟩)
  clear hg
  replace bg4 := bg4.below hb lg4
  replace bg5 := bg5.below hb lg5
  replace hb0 := hb0.trans (hb.mono hb0.size)
  replace lg4 := bg4.lt
  replace lg5 := bg5.lt
  clear hb
  have lg6 := bg6.lt
  try simp only [Act.put, List.setIfInBounds_toArray, List.set_cons_zero, List.set_cons_succ]
  refine wpList_box_blk rfl 29 (.tmp 3) rfl (kC y2) rfl ?_
  intro g7 w4 hg bg7 hb
  have og7 := Lib.hid (show w.heap.size ≤ g7 ∧ g4 < g7 ∧ g5 < g7 ∧ g6 < g7 from ⟨Nat.le_trans hb0.size (Nat.le_of_eq hg.symm), Nat.lt_of_lt_of_le lg4 (Nat.le_of_eq hg.symm), Nat.lt_of_lt_of_le lg5 (Nat.le_of_eq hg.symm), Nat.lt_of_lt_of_le lg6 (Nat.le_of_eq hg.symm)⟩)
  clear hg
  replace bg4 := bg4.below hb lg4
  replace bg5 := bg5.below hb lg5
  replace bg6 := bg6.below hb lg6
  replace hb0 := hb0.trans (hb.mono hb0.size)
  replace lg4 := bg4.lt
  replace lg5 := bg5.lt
  replace lg6 := bg6.lt
  clear hb
  have lg7 := bg7.lt
  try simp only [Act.put, List.setIfInBounds_toArray, List.set_cons_zero, List.set_cons_succ]
  refine wpList_new_blk rfl 29 rfl (kC 0) zeroN6k ?_
  intro g8 w5 hg bg8 hb
  have og8 := Lib.hid (show w.heap.size ≤ g8 ∧ g4 < g8 ∧ g5 < g8 ∧ g6 < g8 ∧ g7 < g8 from ⟨Nat.le_trans hb0.size (Nat.le_of_eq hg.symm), Nat.lt_of_lt_of_le lg4 (Nat.le_of_eq hg.symm), Nat.lt_of_lt_of_le lg5 (Nat.le_of_eq hg.symm), Nat.lt_of_lt_of_le lg6 (Nat.le_of_eq hg.symm), Nat.lt_of_lt_of_le lg7 (Nat.le_of_eq hg.symm)⟩)
  clear hg
  replace bg4 := bg4.below hb lg4
  replace bg5 := bg5.below hb lg5
  replace bg6 := bg6.below hb lg6
  replace bg7 := bg7.below hb lg7
  replace hb0 := hb0.trans (hb.mono hb0.size)
  replace lg4 := bg4.lt
  replace lg5 := bg5.lt
  replace lg6 := bg6.lt
  replace lg7 := bg7.lt
  clear hb
  have lg8 := bg8.lt
  try simp only [Act.put, List.setIfInBounds_toArray, List.set_cons_zero, List.set_cons_succ]
  refine wpList_new_blk rfl 29 rfl (kC 0) zeroN6k ?_
  intro g9 w6 hg bg9 hb
  have og9 := Lib.hid (show w.heap.size ≤ g9 ∧ g4 < g9 ∧ g5 < g9 ∧ g6 < g9 ∧ g7 < g9 ∧ g8 < g9 from ⟨Nat.le_trans hb0.size (Nat.le_of_eq hg.symm), Nat.lt_of_lt_of_le lg4 (Nat.le_of_eq hg.symm), Nat.lt_of_lt_of_le lg5 (Nat.le_of_eq hg.symm), Nat.lt_of_lt_of_le lg6 (Nat.le_of_eq hg.symm), Nat.lt_of_lt_of_le lg7 (Nat.le_of_eq hg.symm), Nat.lt_of_lt_of_le lg8 (Nat.le_of_eq hg.symm)⟩)
  clear hg
  replace bg4 := bg4.below hb lg4
  replace bg5 := bg5.below hb lg5
  replace bg6 := bg6.below hb lg6
  replace bg7 := bg7.below hb lg7
  replace bg8 := bg8.below hb lg8
  replace hb0 := hb0.trans (hb.mono hb0.size)
  replace lg4 := bg4.lt
  replace lg5 := bg5.lt
  replace lg6 := bg6.lt
  replace lg7 := bg7.lt
  replace lg8 := bg8.lt
  clear hb
  have lg9 := bg9.lt
  try simp only [Act.put, List.setIfInBounds_toArray, List.set_cons_zero, List.set_cons_succ]
  go_upto_region 1 with (fail)
  apply wp_plain_once (m := 1) (J := [[]]) (Je := [0]) (Rs := [Is _])
  · kernel_rfl
  · kernel_rfl
  · intro u
    simp only [List.take_succ_cons, List.take_zero, List.map_cons, List.map_nil, fillU, List.setIfInBounds_toArray, List.set_cons_zero, List.set_cons_succ]
    exact rfl
  · simp only [List.take_succ_cons, List.take_zero]
    refine ⟨fun u W hb hd K hK => ?_, ?_⟩
    · clear hd
      go_simp
      refine (rP _).mono ?_
      rintro e wy ⟨rfl, hby⟩
      exact hK _ _ _ rfl hby IsOut
    exact trivial
  · exact (.is .nil)
  intro u w7 hb hd
  simp only [List.drop_succ_cons, List.drop_zero]
  simp only [Facts, nthR, Is, and_true] at hd
  have h0 := hd
  clear hd
  simp only [h0]
  clear h0
  replace bg4 := bg4.below hb lg4
  replace bg5 := bg5.below hb lg5
  replace bg6 := bg6.below hb lg6
  replace bg7 := bg7.below hb lg7
  replace bg8 := bg8.below hb lg8
  replace bg9 := bg9.below hb lg9
  replace hb0 := hb0.trans (hb.mono hb0.size)
  replace lg4 := bg4.lt
  replace lg5 := bg5.lt
  replace lg6 := bg6.lt
  replace lg7 := bg7.lt
  replace lg8 := bg8.lt
  replace lg9 := bg9.lt
  clear hb
  refine wpList_new_blk rfl 29 rfl (kC 0) zeroN6k ?_
  intro g10 w8 hg bg10 hb
  have og10 := Lib.hid (show w.heap.size ≤ g10 ∧ g4 < g10 ∧ g5 < g10 ∧ g6 < g10 ∧ g7 < g10 ∧ g8 < g10 ∧ g9 < g10 from ⟨Nat.le_trans hb0.size (Nat.le_of_eq hg.symm), Nat.lt_of_lt_of_le lg4 (Nat.le_of_eq hg.symm), Nat.lt_of_lt_of_le lg5 (Nat.le_of_eq hg.symm), Nat.lt_of_lt_of_le lg6 (Nat.le_of_eq hg.symm), Nat.lt_of_lt_of_le lg7 (Nat.le_of_eq hg.symm), Nat.lt_of_lt_of_le lg8 (Nat.le_of_eq hg.symm), Nat.lt_of_lt_of_le lg9 (Nat.le_of_eq hg.symm)⟩)
  clear hg
  replace bg4 := bg4.below hb lg4
  replace bg5 := bg5.below hb lg5
  replace bg6 := bg6.below hb lg6
  replace bg7 := bg7.below hb lg7
  replace bg8 := bg8.below hb lg8
  replace bg9 := bg9.below hb lg9
  replace hb0 := hb0.trans (hb.mono hb0.size)
  replace lg4 := bg4.lt
  replace lg5 := bg5.lt
  replace lg6 := bg6.lt
  replace lg7 := bg7.lt
  replace lg8 := bg8.lt
  replace lg9 := bg9.lt
  clear hb
  have lg10 := bg10.lt
  try simp only [Act.put, List.setIfInBounds_toArray, List.set_cons_zero, List.set_cons_succ]
  refine wpList_store_blk rfl 29 (.tmp 10) (.tmp 17) rfl rfl g10 (nC primeP) rfl rfl _ _ bg10 (infoN6.trans (by rw [nC_length])) (by first | with_reducible rfl | rw [kC_length, nC_length] | rw [kC_length]) (one4 _) ?_
  intro w9 bn hgs
  replace bg4 := bg4.grown hgs (fun e => Nat.ne_of_lt og10.out.2.1 (Option.some.inj e))
  replace bg5 := bg5.grown hgs (fun e => Nat.ne_of_lt og10.out.2.2.1 (Option.some.inj e))
  replace bg6 := bg6.grown hgs (fun e => Nat.ne_of_lt og10.out.2.2.2.1 (Option.some.inj e))
  replace bg7 := bg7.grown hgs (fun e => Nat.ne_of_lt og10.out.2.2.2.2.1 (Option.some.inj e))
  replace bg8 := bg8.grown hgs (fun e => Nat.ne_of_lt og10.out.2.2.2.2.2.1 (Option.some.inj e))
  replace bg9 := bg9.grown hgs (fun e => Nat.ne_of_lt og10.out.2.2.2.2.2.2 (Option.some.inj e))
  replace hb0 := below_new hb0 hgs og10.out.1 hb0.size
  clear hgs bg10
  have bg10 := bn
  clear bn
  replace lg4 := bg4.lt
  replace lg5 := bg5.lt
  replace lg6 := bg6.lt
  replace lg7 := bg7.lt
  replace lg8 := bg8.lt
  replace lg9 := bg9.lt
  replace lg10 := bg10.lt
  try simp only [Act.put]
  go_upto_region 2 with (fail)
  apply wp_plain_once (m := 1) (J := [[]]) (Je := [0]) (Rs := [Is _])
  · kernel_rfl
  · kernel_rfl
  · intro u
    simp only [List.take_succ_cons, List.take_zero, List.map_cons, List.map_nil, fillU, List.setIfInBounds_toArray, List.set_cons_zero, List.set_cons_succ]
    exact rfl
  · simp only [List.take_succ_cons, List.take_zero]
    refine ⟨fun u W hb hd K hK => ?_, ?_⟩
    · clear hd
      rw [if_pos (by rfl)]
      refine wp_builtV 29 _ rfl [] rfl (kC 0).toArray built6_0k ?_
      exact hK _ _ _ rfl (Below.refl _ _) IsOut
    exact trivial
  · exact (.is .nil)
  intro u w10 hb hd
  simp only [List.drop_succ_cons, List.drop_zero]
  simp only [Facts, nthR, Is, and_true] at hd
  have h0 := hd
  clear hd
  simp only [h0]
  clear h0
  replace bg4 := bg4.below hb lg4
  replace bg5 := bg5.below hb lg5
  replace bg6 := bg6.below hb lg6
  replace bg7 := bg7.below hb lg7
  replace bg8 := bg8.below hb lg8
  replace bg9 := bg9.below hb lg9
  replace bg10 := bg10.below hb lg10
  replace hb0 := hb0.trans (hb.mono hb0.size)
  replace lg4 := bg4.lt
  replace lg5 := bg5.lt
  replace lg6 := bg6.lt
  replace lg7 := bg7.lt
  replace lg8 := bg8.lt
  replace lg9 := bg9.lt
  replace lg10 := bg10.lt
  clear hb
  refine wpList_new_blk rfl 29 rfl (kC 0) zeroN6k ?_
  intro g11 w11 hg bg11 hb
  have og11 := Lib.hid (show w.heap.size ≤ g11 ∧ g4 < g11 ∧ g5 < g11 ∧ g6 < g11 ∧ g7 < g11 ∧ g8 < g11 ∧ g9 < g11 ∧ g10 < g11 from ⟨Nat.le_trans hb0.size (Nat.le_of_eq hg.symm), Nat.lt_of_lt_of_le lg4 (Nat.le_of_eq hg.symm), Nat.lt_of_lt_of_le lg5 (Nat.le_of_eq hg.symm), Nat.lt_of_lt_of_le lg6 (Nat.le_of_eq hg.symm), Nat.lt_of_lt_of_le lg7 (Nat.le_of_eq hg.symm), Nat.lt_of_lt_of_le lg8 (Nat.le_of_eq hg.symm), Nat.lt_of_lt_of_le lg9 (Nat.le_of_eq hg.symm), Nat.lt_of_lt_of_le lg10 (Nat.le_of_eq hg.symm)⟩)
  clear hg
  replace bg4 := bg4.below hb lg4
  replace bg5 := bg5.below hb lg5
  replace bg6 := bg6.below hb lg6
  replace bg7 := bg7.below hb lg7
  replace bg8 := bg8.below hb lg8
  replace bg9 := bg9.below hb lg9
  replace bg10 := bg10.below hb lg10
  replace hb0 := hb0.trans (hb.mono hb0.size)
  replace lg4 := bg4.lt
  replace lg5 := bg5.lt
  replace lg6 := bg6.lt
  replace lg7 := bg7.lt
  replace lg8 := bg8.lt
  replace lg9 := bg9.lt
  replace lg10 := bg10.lt
  clear hb
  have lg11 := bg11.lt
  try simp only [Act.put, List.setIfInBounds_toArray, List.set_cons_zero, List.set_cons_succ]
  refine wpList_store_blk rfl 29 (.tmp 11) (.tmp 18) rfl rfl g11 (kC 0) rfl rfl _ _ bg11 (infoN6.trans (by rw [kC_length])) (by first | with_reducible rfl | rw [kC_length, kC_length] | rw [kC_length]) (oneK4 _) ?_
  intro w12 bn hgs
  replace bg4 := bg4.grown hgs (fun e => Nat.ne_of_lt og11.out.2.1 (Option.some.inj e))
  replace bg5 := bg5.grown hgs (fun e => Nat.ne_of_lt og11.out.2.2.1 (Option.some.inj e))
  replace bg6 := bg6.grown hgs (fun e => Nat.ne_of_lt og11.out.2.2.2.1 (Option.some.inj e))
  replace bg7 := bg7.grown hgs (fun e => Nat.ne_of_lt og11.out.2.2.2.2.1 (Option.some.inj e))
  replace bg8 := bg8.grown hgs (fun e => Nat.ne_of_lt og11.out.2.2.2.2.2.1 (Option.some.inj e))
  replace bg9 := bg9.grown hgs (fun e => Nat.ne_of_lt og11.out.2.2.2.2.2.2.1 (Option.some.inj e))
  replace bg10 := bg10.grown hgs (fun e => Nat.ne_of_lt og11.out.2.2.2.2.2.2.2 (Option.some.inj e))
  replace hb0 := below_new hb0 hgs og11.out.1 hb0.size
  clear hgs bg11
  have bg11 := bn
  clear bn
  replace lg4 := bg4.lt
  replace lg5 := bg5.lt
  replace lg6 := bg6.lt
  replace lg7 := bg7.lt
  replace lg8 := bg8.lt
  replace lg9 := bg9.lt
  replace lg10 := bg10.lt
  replace lg11 := bg11.lt
  try simp only [Act.put]
  go_upto_region 3 with (fail)
  apply wp_plain_once (m := 8) (J := [[], [], [0, 1], [2], [3], [3], [3, 4, 5], [3, 6]]) (Je := [7]) (Rs := [Is _, Is _, Is _, Is _, Maybe ba true _, Maybe ba true _, Maybe ba true _, Is (.bool false)])
  · kernel_rfl
  · kernel_rfl
  · intro u
    simp only [List.take_succ_cons, List.take_zero, List.map_cons, List.map_nil, fillU, List.setIfInBounds_toArray, List.set_cons_zero, List.set_cons_succ, Nat.reduceAdd]
    exact rfl
  · simp only [List.take_succ_cons, List.take_zero]
    refine ⟨fun u W hb hd K hK => ?_, ?_⟩
    · clear hd
      rw [if_pos (by rfl)]
      refine wp_load_mid 29 (.tmp 4) rfl g4 0 rfl (kC x1) _ (rangeAt_of_blk (bg4.below hb lg4)) Tryd.underlying29 rfl (infoN6.trans (by rw [kC_length])) ?_
      exact hK _ _ _ rfl (Below.refl _ _) IsOut
    refine ⟨fun u W hb hd K hK => ?_, ?_⟩
    · clear hd
      rw [if_pos (by rfl)]
      refine wp_load_mid 29 (.tmp 11) rfl g11 0 rfl (kC 0) _ (rangeAt_of_blk (bg11.below hb lg11)) Tryd.underlying29 rfl (infoN6.trans (by rw [kC_length])) ?_
      exact hK _ _ _ rfl (Below.refl _ _) IsOut
    refine ⟨fun u W hb hd K hK => ?_, ?_⟩
    · simp only [Facts, nthR, Is, and_true] at hd
      simp only [hd] at hK ⊢
      clear hd
      have he : (Op.equalIn 10000 29 (.agg (kC x1).toArray) (.agg (kC 0).toArray)).run Tryd.prog W = .ok ba W := EqK6 hba W
      go_simp
      apply hK
      · simp only [Act.put, List.setIfInBounds_toArray, List.set_cons_zero, List.set_cons_succ]
        exact rfl
      · exact Below.refl _ _
      · exact IsOut
    refine ⟨fun u W hb hd K hK => ?_, ?_⟩
    · simp only [Facts, nthR, Is, and_true] at hd
      simp only [hd] at hK ⊢
      clear hd
      go_simp
      apply hK
      · simp only [Act.put, List.setIfInBounds_toArray, List.set_cons_zero, List.set_cons_succ]
        exact rfl
      · exact Below.refl _ _
      · exact IsOut
    refine ⟨fun u W hb hd K hK => ?_, ?_⟩
    · simp only [Facts, nthR, Is, and_true] at hd
      have h3 := hd
      by_cases hc : ba = true
      · simp only [h3, hc] at hK ⊢
        rw [if_pos (by rfl)]
        refine wp_load_mid 29 (.tmp 5) rfl g5 0 rfl (kC y1) _ (rangeAt_of_blk (bg5.below hb lg5)) Tryd.underlying29 rfl (infoN6.trans (by rw [kC_length])) ?_
        exact hK _ _ _ rfl (Below.refl _ _) fun _ => IsOut (w := W)
      · have hc' : ba = false := by cases ba <;> simp_all
        simp only [h3, hc'] at hK ⊢
        go_simp
        apply hK
        · simp only [Act.put, List.setIfInBounds_toArray, List.set_cons_zero, List.set_cons_succ]
          exact rfl
        · exact Below.refl _ _
        · exact fun h => by cases h
    refine ⟨fun u W hb hd K hK => ?_, ?_⟩
    · simp only [Facts, nthR, Is, and_true] at hd
      have h3 := hd
      by_cases hc : ba = true
      · simp only [h3, hc] at hK ⊢
        rw [if_pos (by rfl)]
        refine wp_load_mid 29 (.tmp 11) rfl g11 0 rfl (kC 0) _ (rangeAt_of_blk (bg11.below hb lg11)) Tryd.underlying29 rfl (infoN6.trans (by rw [kC_length])) ?_
        exact hK _ _ _ rfl (Below.refl _ _) fun _ => IsOut (w := W)
      · have hc' : ba = false := by cases ba <;> simp_all
        simp only [h3, hc'] at hK ⊢
        go_simp
        apply hK
        · simp only [Act.put, List.setIfInBounds_toArray, List.set_cons_zero, List.set_cons_succ]
          exact rfl
        · exact Below.refl _ _
        · exact fun h => by cases h
    refine ⟨fun u W hb hd K hK => ?_, ?_⟩
    · simp only [Facts, nthR, Is, and_true] at hd
      obtain ⟨h3, h4, h5⟩ := hd
      by_cases hc : ba = true
      · replace h4 := h4 hc
        replace h5 := h5 hc
        simp only [h3, h4, h5, hc] at hK ⊢
        have he : (Op.equalIn 10000 29 (.agg (kC y1).toArray) (.agg (kC 0).toArray)).run Tryd.prog W = .ok bb W := EqK6 hbb W
        go_simp
        apply hK
        · simp only [Act.put, List.setIfInBounds_toArray, List.set_cons_zero, List.set_cons_succ]
          exact rfl
        · exact Below.refl _ _
        · exact fun _ => IsOut (w := W)
      · have hc' : ba = false := by cases ba <;> simp_all
        simp only [h3, hc'] at hK ⊢
        go_simp
        apply hK
        · simp only [Act.put, List.setIfInBounds_toArray, List.set_cons_zero, List.set_cons_succ]
          exact rfl
        · exact Below.refl _ _
        · exact fun h => by cases h
    refine ⟨fun u W hb hd K hK => ?_, ?_⟩
    · simp only [Facts, nthR, Is, and_true] at hd
      obtain ⟨h3, h6⟩ := hd
      by_cases hc : ba = true
      · replace h6 := h6 hc
        simp only [h3, h6, hc] at hK ⊢
        go_simp
        apply hK
        · simp only [Act.put, List.setIfInBounds_toArray, List.set_cons_zero, List.set_cons_succ]
          exact rfl
        · exact Below.refl _ _
        · exact (by have hz := hF.out; rw [hc, Bool.true_and] at hz; subst hz; exact IsOut)
      · have hc' : ba = false := by cases ba <;> simp_all
        simp only [h3, hc'] at hK ⊢
        go_simp
        apply hK
        · simp only [Act.put, List.setIfInBounds_toArray, List.set_cons_zero, List.set_cons_succ]
          exact rfl
        · exact Below.refl _ _
        · exact IsOut
    exact trivial
  · exact (.is (.is (.is (.is (.cons (fun _ _ _ h _ => h) (.cons (fun _ _ _ h _ => h) (.cons (fun _ _ _ h _ => h) (.cons (fun _ _ _ h _ => h) .nil))))))))
  intro u w13 hb hd
  simp only [List.drop_succ_cons, List.drop_zero]
  simp only [Facts, nthR, Is, and_true] at hd
  have h7 := hd
  clear hd
  simp only [h7]
  clear h7
  replace bg4 := bg4.below hb lg4
  replace bg5 := bg5.below hb lg5
  replace bg6 := bg6.below hb lg6
  replace bg7 := bg7.below hb lg7
  replace bg8 := bg8.below hb lg8
  replace bg9 := bg9.below hb lg9
  replace bg10 := bg10.below hb lg10
  replace bg11 := bg11.below hb lg11
  replace hb0 := hb0.trans (hb.mono hb0.size)
  replace lg4 := bg4.lt
  replace lg5 := bg5.lt
  replace lg6 := bg6.lt
  replace lg7 := bg7.lt
  replace lg8 := bg8.lt
  replace lg9 := bg9.lt
  replace lg10 := bg10.lt
  replace lg11 := bg11.lt
  clear hb
  go_upto_region 5 with (fail)
  apply wp_plain_once (m := 8) (J := [[], [], [0, 1], [2], [3], [3], [3, 4, 5], [3, 6]]) (Je := [7]) (Rs := [Is _, Is _, Is _, Is _, Maybe bc true _, Maybe bc true _, Maybe bc true _, Is (.bool false)])
  · kernel_rfl
  · kernel_rfl
  · intro u
    simp only [List.take_succ_cons, List.take_zero, List.map_cons, List.map_nil, fillU, List.setIfInBounds_toArray, List.set_cons_zero, List.set_cons_succ, Nat.reduceAdd]
    exact rfl
  · simp only [List.take_succ_cons, List.take_zero]
    refine ⟨fun u W hb hd K hK => ?_, ?_⟩
    · clear hd
      rw [if_pos (by rfl)]
      refine wp_load_mid 29 (.tmp 6) rfl g6 0 rfl (kC x1) _ (rangeAt_of_blk (bg6.below hb lg6)) Tryd.underlying29 rfl (infoN6.trans (by rw [kC_length])) ?_
      exact hK _ _ _ rfl (Below.refl _ _) IsOut
    refine ⟨fun u W hb hd K hK => ?_, ?_⟩
    · clear hd
      rw [if_pos (by rfl)]
      refine wp_load_mid 29 (.tmp 11) rfl g11 0 rfl (kC 0) _ (rangeAt_of_blk (bg11.below hb lg11)) Tryd.underlying29 rfl (infoN6.trans (by rw [kC_length])) ?_
      exact hK _ _ _ rfl (Below.refl _ _) IsOut
    refine ⟨fun u W hb hd K hK => ?_, ?_⟩
    · simp only [Facts, nthR, Is, and_true] at hd
      simp only [hd] at hK ⊢
      clear hd
      have he : (Op.equalIn 10000 29 (.agg (kC x1).toArray) (.agg (kC 0).toArray)).run Tryd.prog W = .ok bc W := EqK6 hbc W
      go_simp
      apply hK
      · simp only [Act.put, List.setIfInBounds_toArray, List.set_cons_zero, List.set_cons_succ]
        exact rfl
      · exact Below.refl _ _
      · exact IsOut
    refine ⟨fun u W hb hd K hK => ?_, ?_⟩
    · simp only [Facts, nthR, Is, and_true] at hd
      simp only [hd] at hK ⊢
      clear hd
      go_simp
      apply hK
      · simp only [Act.put, List.setIfInBounds_toArray, List.set_cons_zero, List.set_cons_succ]
        exact rfl
      · exact Below.refl _ _
      · exact IsOut
    refine ⟨fun u W hb hd K hK => ?_, ?_⟩
    · simp only [Facts, nthR, Is, and_true] at hd
      have h3 := hd
      by_cases hc : bc = true
      · simp only [h3, hc] at hK ⊢
        rw [if_pos (by rfl)]
        refine wp_load_mid 29 (.tmp 7) rfl g7 0 rfl (kC y2) _ (rangeAt_of_blk (bg7.below hb lg7)) Tryd.underlying29 rfl (infoN6.trans (by rw [kC_length])) ?_
        exact hK _ _ _ rfl (Below.refl _ _) fun _ => IsOut (w := W)
      · have hc' : bc = false := by cases bc <;> simp_all
        simp only [h3, hc'] at hK ⊢
        go_simp
        apply hK
        · simp only [Act.put, List.setIfInBounds_toArray, List.set_cons_zero, List.set_cons_succ]
          exact rfl
        · exact Below.refl _ _
        · exact fun h => by cases h
    refine ⟨fun u W hb hd K hK => ?_, ?_⟩
    · simp only [Facts, nthR, Is, and_true] at hd
      have h3 := hd
      by_cases hc : bc = true
      · simp only [h3, hc] at hK ⊢
        rw [if_pos (by rfl)]
        refine wp_load_mid 29 (.tmp 11) rfl g11 0 rfl (kC 0) _ (rangeAt_of_blk (bg11.below hb lg11)) Tryd.underlying29 rfl (infoN6.trans (by rw [kC_length])) ?_
        exact hK _ _ _ rfl (Below.refl _ _) fun _ => IsOut (w := W)
      · have hc' : bc = false := by cases bc <;> simp_all
        simp only [h3, hc'] at hK ⊢
        go_simp
        apply hK
        · simp only [Act.put, List.setIfInBounds_toArray, List.set_cons_zero, List.set_cons_succ]
          exact rfl
        · exact Below.refl _ _
        · exact fun h => by cases h
    refine ⟨fun u W hb hd K hK => ?_, ?_⟩
    · simp only [Facts, nthR, Is, and_true] at hd
      obtain ⟨h3, h4, h5⟩ := hd
      by_cases hc : bc = true
      · replace h4 := h4 hc
        replace h5 := h5 hc
        simp only [h3, h4, h5, hc] at hK ⊢
        have he : (Op.equalIn 10000 29 (.agg (kC y2).toArray) (.agg (kC 0).toArray)).run Tryd.prog W = .ok bd W := EqK6 hbd W
        go_simp
        apply hK
        · simp only [Act.put, List.setIfInBounds_toArray, List.set_cons_zero, List.set_cons_succ]
          exact rfl
        · exact Below.refl _ _
        · exact fun _ => IsOut (w := W)
      · have hc' : bc = false := by cases bc <;> simp_all
        simp only [h3, hc'] at hK ⊢
        go_simp
        apply hK
        · simp only [Act.put, List.setIfInBounds_toArray, List.set_cons_zero, List.set_cons_succ]
          exact rfl
        · exact Below.refl _ _
        · exact fun h => by cases h
    refine ⟨fun u W hb hd K hK => ?_, ?_⟩
    · simp only [Facts, nthR, Is, and_true] at hd
      obtain ⟨h3, h6⟩ := hd
      by_cases hc : bc = true
      · replace h6 := h6 hc
        simp only [h3, h6, hc] at hK ⊢
        go_simp
        apply hK
        · simp only [Act.put, List.setIfInBounds_toArray, List.set_cons_zero, List.set_cons_succ]
          exact rfl
        · exact Below.refl _ _
        · exact (by have hz := hG.out; rw [hc, Bool.true_and] at hz; subst hz; exact IsOut)
      · have hc' : bc = false := by cases bc <;> simp_all
        simp only [h3, hc'] at hK ⊢
        go_simp
        apply hK
        · simp only [Act.put, List.setIfInBounds_toArray, List.set_cons_zero, List.set_cons_succ]
          exact rfl
        · exact Below.refl _ _
        · exact IsOut
    exact trivial
  · exact (.is (.is (.is (.is (.cons (fun _ _ _ h _ => h) (.cons (fun _ _ _ h _ => h) (.cons (fun _ _ _ h _ => h) (.cons (fun _ _ _ h _ => h) .nil))))))))
  intro u w14 hb hd
  simp only [List.drop_succ_cons, List.drop_zero]
  simp only [Facts, nthR, Is, and_true] at hd
  have h7 := hd
  clear hd
  simp only [h7]
  clear h7
  replace bg4 := bg4.below hb lg4
  replace bg5 := bg5.below hb lg5
  replace bg6 := bg6.below hb lg6
  replace bg7 := bg7.below hb lg7
  replace bg8 := bg8.below hb lg8
  replace bg9 := bg9.below hb lg9
  replace bg10 := bg10.below hb lg10
  replace bg11 := bg11.below hb lg11
  replace hb0 := hb0.trans (hb.mono hb0.size)
  replace lg4 := bg4.lt
  replace lg5 := bg5.lt
  replace lg6 := bg6.lt
  replace lg7 := bg7.lt
  replace lg8 := bg8.lt
  replace lg9 := bg9.lt
  replace lg10 := bg10.lt
  replace lg11 := bg11.lt
  clear hb
  go_upto_region 7 with (fail)
  obtain ⟨r42, hr42⟩ : ∃ s : K, Hid (s = y2 - y1) := ⟨_, Lib.hid rfl⟩
  obtain ⟨r46, hr46⟩ : ∃ s : K, Hid (s = x1 - x1) := ⟨_, Lib.hid rfl⟩
  apply wp_region_fresh (m := 10) (Z := []) (Fl := [false, false, false, false, false, false, false, false, true, true]) (D := [[], [], [], [0, 1, 2], [], [], [], [0, 1, 2, 3, 4, 5, 6], [], [], [0, 1, 2, 3, 4, 5, 6, 7, 8, 9], [0, 1, 2, 3, 4, 5, 6, 7, 8, 9, 10]]) (J := [[], [], [], [0, 1, 2], [], [], [], [4, 5, 6], [], []]) (Je := [3, 7, 8, 9]) (Rs := [Is _, Is _, Is _, Is _, Is _, Is _, Is _, Is _, fun v V => ∃ g', v = .pointer (some ⟨g', 0, none⟩) ∧ w14.heap.size ≤ g' ∧ Blk V g' 29 (kC 0), fun v V => ∃ g', v = .pointer (some ⟨g', 0, none⟩) ∧ w14.heap.size ≤ g' ∧ Blk V g' 29 (kC 0)])
  · kernel_rfl
  · kernel_rfl
  · kernel_rfl
  · kernel_rfl
  · kernel_rfl
  · kernel_rfl
  · kernel_rfl
  · kernel_rfl
  · exact fun h => absurd rfl h
  · intro u
    simp only [List.take_succ_cons, List.take_zero, List.map_cons, List.map_nil, fillU, List.setIfInBounds_toArray, List.set_cons_zero, List.set_cons_succ, Nat.reduceAdd]
    exact rfl
  · simp only [List.take_succ_cons, List.take_zero]
    refine ⟨fun u W hb hd K hK => ?_, ?_⟩
    · clear hd
      rw [if_pos (by rfl)]
      refine wp_load_mid 29 (.tmp 7) rfl g7 0 rfl (kC y2) _ (rangeAt_of_blk (bg7.below hb lg7)) Tryd.underlying29 rfl (infoN6.trans (by rw [kC_length])) ?_
      exact hK _ _ _ rfl (Below.refl _ _) IsOut
    refine ⟨fun u W hb hd K hK => ?_, ?_⟩
    · clear hd
      rw [if_pos (by rfl)]
      refine wp_load_mid 29 (.tmp 5) rfl g5 0 rfl (kC y1) _ (rangeAt_of_blk (bg5.below hb lg5)) Tryd.underlying29 rfl (infoN6.trans (by rw [kC_length])) ?_
      exact hK _ _ _ rfl (Below.refl _ _) IsOut
    refine ⟨fun u W hb hd K hK => ?_, ?_⟩
    · clear hd
      rw [if_pos (by rfl)]
      refine wp_load_mid 29 (.tmp 10) rfl g10 0 rfl (nC primeP) _ (rangeAt_of_blk (bg10.below hb lg10)) Tryd.underlying29 rfl (infoN6.trans (by rw [nC_length])) ?_
      exact hK _ _ _ rfl (Below.refl _ _) IsOut
    refine ⟨fun u W hb hd K hK => ?_, ?_⟩
    · simp only [Facts, nthR, Is, and_true] at hd
      simp only [hd] at hK ⊢
      clear hd
      go_simp
      refine (RSubK hr42 _).mono ?_
      rintro e wy ⟨rfl, hby⟩
      exact hK _ _ _ rfl hby IsOut
    refine ⟨fun u W hb hd K hK => ?_, ?_⟩
    · clear hd
      rw [if_pos (by rfl)]
      refine wp_load_mid 29 (.tmp 6) rfl g6 0 rfl (kC x1) _ (rangeAt_of_blk (bg6.below hb lg6)) Tryd.underlying29 rfl (infoN6.trans (by rw [kC_length])) ?_
      exact hK _ _ _ rfl (Below.refl _ _) IsOut
    refine ⟨fun u W hb hd K hK => ?_, ?_⟩
    · clear hd
      rw [if_pos (by rfl)]
      refine wp_load_mid 29 (.tmp 4) rfl g4 0 rfl (kC x1) _ (rangeAt_of_blk (bg4.below hb lg4)) Tryd.underlying29 rfl (infoN6.trans (by rw [kC_length])) ?_
      exact hK _ _ _ rfl (Below.refl _ _) IsOut
    refine ⟨fun u W hb hd K hK => ?_, ?_⟩
    · clear hd
      rw [if_pos (by rfl)]
      refine wp_load_mid 29 (.tmp 10) rfl g10 0 rfl (nC primeP) _ (rangeAt_of_blk (bg10.below hb lg10)) Tryd.underlying29 rfl (infoN6.trans (by rw [nC_length])) ?_
      exact hK _ _ _ rfl (Below.refl _ _) IsOut
    refine ⟨fun u W hb hd K hK => ?_, ?_⟩
    · simp only [Facts, nthR, Is, and_true] at hd
      simp only [hd] at hK ⊢
      clear hd
      go_simp
      refine (RSubK hr46 _).mono ?_
      rintro e wy ⟨rfl, hby⟩
      exact hK _ _ _ rfl hby IsOut
    refine ⟨fun u W hb hd K hK => ?_, ?_⟩
    · clear hd
      go_simp
      apply hK
      · simp only [Act.put, List.setIfInBounds_toArray, List.set_cons_zero, List.set_cons_succ]
        exact rfl
      · exact (Below.refl _ _).alloc (Nat.le_refl _) _
      · exact ⟨_, rfl, hb.size, Blk.new_of _ _ _ _ rfl⟩
      · exact ⟨_, rfl, Nat.le_refl _, by simp⟩
    refine ⟨fun u W hb hd K hK => ?_, ?_⟩
    · clear hd
      go_simp
      apply hK
      · simp only [Act.put, List.setIfInBounds_toArray, List.set_cons_zero, List.set_cons_succ]
        exact rfl
      · exact (Below.refl _ _).alloc (Nat.le_refl _) _
      · exact ⟨_, rfl, hb.size, Blk.new_of _ _ _ _ rfl⟩
      · exact ⟨_, rfl, Nat.le_refl _, by simp⟩
    exact trivial
  · skip
    exact trivial
  · exact (.is (.is (.is (.is (.is (.is (.is (.is (.cons (fun v V V' ⟨g', h1, h2, h3⟩ hb => ⟨g', h1, h2, h3.below hb h3.lt⟩) (.cons (fun v V V' ⟨g', h1, h2, h3⟩ hb => ⟨g', h1, h2, h3.below hb h3.lt⟩) .nil))))))))))
  intro u w15 hb hd hne
  simp only [List.drop_succ_cons, List.drop_zero]
  simp only [Facts, nthR, Is, and_true] at hd
  obtain ⟨h3, h7, ⟨g12, h8, hng12, bg12⟩, ⟨g13, h9, hng13, bg13⟩⟩ := hd
  have og12 := Lib.hid (show w.heap.size ≤ g12 ∧ g4 < g12 ∧ g5 < g12 ∧ g6 < g12 ∧ g7 < g12 ∧ g8 < g12 ∧ g9 < g12 ∧ g10 < g12 ∧ g11 < g12 from ⟨Nat.le_trans hb0.size hng12, Nat.lt_of_lt_of_le lg4 hng12, Nat.lt_of_lt_of_le lg5 hng12, Nat.lt_of_lt_of_le lg6 hng12, Nat.lt_of_lt_of_le lg7 hng12, Nat.lt_of_lt_of_le lg8 hng12, Nat.lt_of_lt_of_le lg9 hng12, Nat.lt_of_lt_of_le lg10 hng12, Nat.lt_of_lt_of_le lg11 hng12⟩)
  have og13 := Lib.hid (show w.heap.size ≤ g13 ∧ g4 < g13 ∧ g5 < g13 ∧ g6 < g13 ∧ g7 < g13 ∧ g8 < g13 ∧ g9 < g13 ∧ g10 < g13 ∧ g11 < g13 ∧ g12 ≠ g13 from ⟨Nat.le_trans hb0.size hng13, Nat.lt_of_lt_of_le lg4 hng13, Nat.lt_of_lt_of_le lg5 hng13, Nat.lt_of_lt_of_le lg6 hng13, Nat.lt_of_lt_of_le lg7 hng13, Nat.lt_of_lt_of_le lg8 hng13, Nat.lt_of_lt_of_le lg9 hng13, Nat.lt_of_lt_of_le lg10 hng13, Nat.lt_of_lt_of_le lg11 hng13, (fun e => hne 8 9 rfl rfl (by decide) (by decide) (by decide) (by rw [h8, h9, e]))⟩)
  simp only [h3, h7, h8, h9]
  clear h3 h7 h8 h9 hne
  replace bg4 := bg4.below hb lg4
  replace bg5 := bg5.below hb lg5
  replace bg6 := bg6.below hb lg6
  replace bg7 := bg7.below hb lg7
  replace bg8 := bg8.below hb lg8
  replace bg9 := bg9.below hb lg9
  replace bg10 := bg10.below hb lg10
  replace bg11 := bg11.below hb lg11
  replace hb0 := hb0.trans (hb.mono hb0.size)
  replace lg4 := bg4.lt
  replace lg5 := bg5.lt
  replace lg6 := bg6.lt
  replace lg7 := bg7.lt
  replace lg8 := bg8.lt
  replace lg9 := bg9.lt
  replace lg10 := bg10.lt
  replace lg11 := bg11.lt
  clear hb
  have lg12 := bg12.lt
  clear hng12
  have lg13 := bg13.lt
  clear hng13
  refine wpList_store_blk rfl 29 (.tmp 12) (.tmp 42) rfl rfl g12 (kC r42) rfl rfl _ _ bg12 (infoN6.trans (by rw [kC_length])) (by first | with_reducible rfl | rw [kC_length, kC_length] | rw [kC_length]) (oneK4 _) ?_
  intro w16 bn hgs
  replace bg4 := bg4.grown hgs (fun e => Nat.ne_of_lt og12.out.2.1 (Option.some.inj e))
  replace bg5 := bg5.grown hgs (fun e => Nat.ne_of_lt og12.out.2.2.1 (Option.some.inj e))
  replace bg6 := bg6.grown hgs (fun e => Nat.ne_of_lt og12.out.2.2.2.1 (Option.some.inj e))
  replace bg7 := bg7.grown hgs (fun e => Nat.ne_of_lt og12.out.2.2.2.2.1 (Option.some.inj e))
  replace bg8 := bg8.grown hgs (fun e => Nat.ne_of_lt og12.out.2.2.2.2.2.1 (Option.some.inj e))
  replace bg9 := bg9.grown hgs (fun e => Nat.ne_of_lt og12.out.2.2.2.2.2.2.1 (Option.some.inj e))
  replace bg10 := bg10.grown hgs (fun e => Nat.ne_of_lt og12.out.2.2.2.2.2.2.2.1 (Option.some.inj e))
  replace bg11 := bg11.grown hgs (fun e => Nat.ne_of_lt og12.out.2.2.2.2.2.2.2.2 (Option.some.inj e))
  replace bg13 := bg13.grown hgs (fun e => og13.out.2.2.2.2.2.2.2.2.2 (Option.some.inj e).symm)
  replace hb0 := below_new hb0 hgs og12.out.1 hb0.size
  clear hgs bg12
  have bg12 := bn
  clear bn
  replace lg4 := bg4.lt
  replace lg5 := bg5.lt
  replace lg6 := bg6.lt
  replace lg7 := bg7.lt
  replace lg8 := bg8.lt
  replace lg9 := bg9.lt
  replace lg10 := bg10.lt
  replace lg11 := bg11.lt
  replace lg12 := bg12.lt
  replace lg13 := bg13.lt
  try simp only [Act.put]
  refine wpList_store_blk rfl 29 (.tmp 13) (.tmp 46) rfl rfl g13 (kC r46) rfl rfl _ _ bg13 (infoN6.trans (by rw [kC_length])) (by first | with_reducible rfl | rw [kC_length, kC_length] | rw [kC_length]) (oneK4 _) ?_
  intro w17 bn hgs
  replace bg4 := bg4.grown hgs (fun e => Nat.ne_of_lt og13.out.2.1 (Option.some.inj e))
  replace bg5 := bg5.grown hgs (fun e => Nat.ne_of_lt og13.out.2.2.1 (Option.some.inj e))
  replace bg6 := bg6.grown hgs (fun e => Nat.ne_of_lt og13.out.2.2.2.1 (Option.some.inj e))
  replace bg7 := bg7.grown hgs (fun e => Nat.ne_of_lt og13.out.2.2.2.2.1 (Option.some.inj e))
  replace bg8 := bg8.grown hgs (fun e => Nat.ne_of_lt og13.out.2.2.2.2.2.1 (Option.some.inj e))
  replace bg9 := bg9.grown hgs (fun e => Nat.ne_of_lt og13.out.2.2.2.2.2.2.1 (Option.some.inj e))
  replace bg10 := bg10.grown hgs (fun e => Nat.ne_of_lt og13.out.2.2.2.2.2.2.2.1 (Option.some.inj e))
  replace bg11 := bg11.grown hgs (fun e => Nat.ne_of_lt og13.out.2.2.2.2.2.2.2.2.1 (Option.some.inj e))
  replace bg12 := bg12.grown hgs (fun e => og13.out.2.2.2.2.2.2.2.2.2 (Option.some.inj e))
  replace hb0 := below_new hb0 hgs og13.out.1 hb0.size
  clear hgs bg13
  have bg13 := bn
  clear bn
  replace lg4 := bg4.lt
  replace lg5 := bg5.lt
  replace lg6 := bg6.lt
  replace lg7 := bg7.lt
  replace lg8 := bg8.lt
  replace lg9 := bg9.lt
  replace lg10 := bg10.lt
  replace lg11 := bg11.lt
  replace lg12 := bg12.lt
  replace lg13 := bg13.lt
  try simp only [Act.put]
  go_upto_region 8 with (fail)
  apply wp_plain_once (m := 3) (J := [[], [], [0, 1]]) (Je := [2]) (Rs := [Is _, Is _, Is _])
  · kernel_rfl
  · kernel_rfl
  · intro u
    simp only [List.take_succ_cons, List.take_zero, List.map_cons, List.map_nil, fillU, List.setIfInBounds_toArray, List.set_cons_zero, List.set_cons_succ, Nat.reduceAdd]
    exact rfl
  · simp only [List.take_succ_cons, List.take_zero]
    refine ⟨fun u W hb hd K hK => ?_, ?_⟩
    · clear hd
      rw [if_pos (by rfl)]
      refine wp_load_mid 29 (.tmp 4) rfl g4 0 rfl (kC x1) _ (rangeAt_of_blk (bg4.below hb lg4)) Tryd.underlying29 rfl (infoN6.trans (by rw [kC_length])) ?_
      exact hK _ _ _ rfl (Below.refl _ _) IsOut
    refine ⟨fun u W hb hd K hK => ?_, ?_⟩
    · clear hd
      rw [if_pos (by rfl)]
      refine wp_load_mid 29 (.tmp 6) rfl g6 0 rfl (kC x1) _ (rangeAt_of_blk (bg6.below hb lg6)) Tryd.underlying29 rfl (infoN6.trans (by rw [kC_length])) ?_
      exact hK _ _ _ rfl (Below.refl _ _) IsOut
    refine ⟨fun u W hb hd K hK => ?_, ?_⟩
    · simp only [Facts, nthR, Is, and_true] at hd
      simp only [hd] at hK ⊢
      clear hd
      have he : (Op.equalIn 10000 29 (.agg (kC x1).toArray) (.agg (kC x1).toArray)).run Tryd.prog W = .ok true W := EqK6 (Lib.hid (decide_eq_true rfl)) W
      go_simp
      apply hK
      · simp only [Act.put, List.setIfInBounds_toArray, List.set_cons_zero, List.set_cons_succ]
        exact rfl
      · exact Below.refl _ _
      · exact IsOut
    exact trivial
  · exact (.is (.is (.is .nil)))
  intro u w18 hb hd
  simp only [List.drop_succ_cons, List.drop_zero]
  simp only [Facts, nthR, Is, and_true] at hd
  have h2 := hd
  clear hd
  simp only [h2]
  clear h2
  replace bg4 := bg4.below hb lg4
  replace bg5 := bg5.below hb lg5
  replace bg6 := bg6.below hb lg6
  replace bg7 := bg7.below hb lg7
  replace bg8 := bg8.below hb lg8
  replace bg9 := bg9.below hb lg9
  replace bg10 := bg10.below hb lg10
  replace bg11 := bg11.below hb lg11
  replace bg12 := bg12.below hb lg12
  replace bg13 := bg13.below hb lg13
  replace hb0 := hb0.trans (hb.mono hb0.size)
  replace lg4 := bg4.lt
  replace lg5 := bg5.lt
  replace lg6 := bg6.lt
  replace lg7 := bg7.lt
  replace lg8 := bg8.lt
  replace lg9 := bg9.lt
  replace lg10 := bg10.lt
  replace lg11 := bg11.lt
  replace lg12 := bg12.lt
  replace lg13 := bg13.lt
  clear hb
  go_upto_region 9 with (fail)
  obtain ⟨r53, hr53⟩ : ∃ s : K, Hid (s = y1 + y2) := ⟨_, Lib.hid rfl⟩
  apply wp_region_once_tail (m := 6) (Z := []) (D := [[], [], [], [0, 1, 2], [], [0, 1, 2, 3, 4]]) (J := [[], [], [], [0, 1, 2], [], [3, 4]]) (Je := [5]) (Rs := [Is _, Is _, Is _, Is _, Is _, Is _])
  · kernel_rfl
  · kernel_rfl
  · kernel_rfl
  · kernel_rfl
  · kernel_rfl
  · kernel_rfl
  · kernel_rfl
  · exact fun h => absurd rfl h
  · intro u
    simp only [List.take_succ_cons, List.take_zero, List.map_cons, List.map_nil, fillU, List.setIfInBounds_toArray, List.set_cons_zero, List.set_cons_succ, Nat.reduceAdd]
    exact rfl
  · simp only [List.take_succ_cons, List.take_zero]
    refine ⟨fun u W hb hd K hK => ?_, ?_⟩
    · clear hd
      rw [if_pos (by rfl)]
      refine wp_load_mid 29 (.tmp 5) rfl g5 0 rfl (kC y1) _ (rangeAt_of_blk (bg5.below hb lg5)) Tryd.underlying29 rfl (infoN6.trans (by rw [kC_length])) ?_
      exact hK _ _ _ rfl (Below.refl _ _) IsOut
    refine ⟨fun u W hb hd K hK => ?_, ?_⟩
    · clear hd
      rw [if_pos (by rfl)]
      refine wp_load_mid 29 (.tmp 7) rfl g7 0 rfl (kC y2) _ (rangeAt_of_blk (bg7.below hb lg7)) Tryd.underlying29 rfl (infoN6.trans (by rw [kC_length])) ?_
      exact hK _ _ _ rfl (Below.refl _ _) IsOut
    refine ⟨fun u W hb hd K hK => ?_, ?_⟩
    · clear hd
      rw [if_pos (by rfl)]
      refine wp_load_mid 29 (.tmp 10) rfl g10 0 rfl (nC primeP) _ (rangeAt_of_blk (bg10.below hb lg10)) Tryd.underlying29 rfl (infoN6.trans (by rw [nC_length])) ?_
      exact hK _ _ _ rfl (Below.refl _ _) IsOut
    refine ⟨fun u W hb hd K hK => ?_, ?_⟩
    · simp only [Facts, nthR, Is, and_true] at hd
      simp only [hd] at hK ⊢
      clear hd
      go_simp
      refine (RAddK hr53 _).mono ?_
      rintro e wy ⟨rfl, hby⟩
      exact hK _ _ _ rfl hby IsOut
    refine ⟨fun u W hb hd K hK => ?_, ?_⟩
    · clear hd
      rw [if_pos (by rfl)]
      refine wp_load_mid 29 (.tmp 11) rfl g11 0 rfl (kC 0) _ (rangeAt_of_blk (bg11.below hb lg11)) Tryd.underlying29 rfl (infoN6.trans (by rw [kC_length])) ?_
      exact hK _ _ _ rfl (Below.refl _ _) IsOut
    refine ⟨fun u W hb hd K hK => ?_, ?_⟩
    · simp only [Facts, nthR, Is, and_true] at hd
      simp only [hd] at hK ⊢
      clear hd
      have he : (Op.equalIn 10000 29 (.agg (kC r53).toArray) (.agg (kC 0).toArray)).run Tryd.prog W = .ok true W := EqK6 (Lib.hid (decide_eq_true (hr53.out.trans hz.out))) W
      go_simp
      apply hK
      · simp only [Act.put, List.setIfInBounds_toArray, List.set_cons_zero, List.set_cons_succ]
        exact rfl
      · exact Below.refl _ _
      · exact IsOut
    exact trivial
  · skip
    exact trivial
  · exact (.is (.is (.is (.is (.is (.is .nil))))))
  intro u w19 hb hd
  simp only [List.drop_succ_cons, List.drop_zero]
  simp only [Facts, nthR, Is, and_true] at hd
  have h5 := hd
  clear hd
  simp only [h5]
  clear h5
  replace bg4 := bg4.below hb lg4
  replace bg5 := bg5.below hb lg5
  replace bg6 := bg6.below hb lg6
  replace bg7 := bg7.below hb lg7
  replace bg8 := bg8.below hb lg8
  replace bg9 := bg9.below hb lg9
  replace bg10 := bg10.below hb lg10
  replace bg11 := bg11.below hb lg11
  replace bg12 := bg12.below hb lg12
  replace bg13 := bg13.below hb lg13
  replace hb0 := hb0.trans (hb.mono hb0.size)
  replace lg4 := bg4.lt
  replace lg5 := bg5.lt
  replace lg6 := bg6.lt
  replace lg7 := bg7.lt
  replace lg8 := bg8.lt
  replace lg9 := bg9.lt
  replace lg10 := bg10.lt
  replace lg11 := bg11.lt
  replace lg12 := bg12.lt
  replace lg13 := bg13.lt
  clear hb
  go_upto_region 10 with (fail)
  refine wp_region_noPanic ?_
  refine wp_region_held_drew (S := fun W => Blk W g11 29 (kC 0)) (by kernel_rfl) (bg11.drew) (fun hHeld => ?_)
  refine wpAnyH_take (i := 0) (oi := ⟨_, _, _, _, _, _⟩) (v := .agg (kC 0).toArray) rfl (by kernel_rfl) (by kernel_rfl) (by kernel_rfl) (fun _ _ _ h => h) (yieldsIf_load_mid (by rfl) 29 (.tmp 11) rfl g11 0 rfl (kC 0) _ (fun W hSw => rangeAt_of_blk (hSw)) Tryd.underlying29 rfl (infoN6.trans (by rw [kC_length]))) hHeld ?_
  try simp only [Act.put, List.setIfInBounds_toArray, List.set_cons_zero, List.set_cons_succ]
  refine wpAnyH_take (i := 1) (oi := ⟨_, _, _, _, _, _⟩) (v := .agg (kC 0).toArray) rfl (by kernel_rfl) (by kernel_rfl) (by kernel_rfl) (fun _ _ _ h => h) (yieldsIf_load_mid (by rfl) 29 (.tmp 11) rfl g11 0 rfl (kC 0) _ (fun W hSw => rangeAt_of_blk (hSw)) Tryd.underlying29 rfl (infoN6.trans (by rw [kC_length]))) hHeld ?_
  try simp only [Act.put, List.setIfInBounds_toArray, List.set_cons_zero, List.set_cons_succ]
  refine wpAnyH_ready (rs := [2]) (by kernel_rfl) (by simp) ?_
  refine AllReadyH.cons (o := ⟨_, _, _, _, _, _⟩) rfl (fun K hK => ?_) AllReadyH.nil
  rw [if_pos (by rfl)]
  refine wp_store_blk 29 (.tmp 8) (.tmp 56) rfl g8 (kC 0) rfl rfl _ _ bg8.drew (infoN6.trans (by rw [kC_length])) (by first | with_reducible rfl | rw [kC_length, kC_length] | rw [kC_length]) (oneK4 _) ?_
  intro w20 bn hgs
  have hgs := grown_from_drew hgs
  replace bg4 := bg4.grown hgs (fun e => Nat.ne_of_lt og8.out.2.1 (Option.some.inj e))
  replace bg5 := bg5.grown hgs (fun e => Nat.ne_of_lt og8.out.2.2.1 (Option.some.inj e))
  replace bg6 := bg6.grown hgs (fun e => Nat.ne_of_lt og8.out.2.2.2.1 (Option.some.inj e))
  replace bg7 := bg7.grown hgs (fun e => Nat.ne_of_lt og8.out.2.2.2.2 (Option.some.inj e))
  replace bg9 := bg9.grown hgs (fun e => Nat.ne_of_gt og9.out.2.2.2.2.2 (Option.some.inj e))
  replace bg10 := bg10.grown hgs (fun e => Nat.ne_of_gt og10.out.2.2.2.2.2.1 (Option.some.inj e))
  replace bg11 := bg11.grown hgs (fun e => Nat.ne_of_gt og11.out.2.2.2.2.2.1 (Option.some.inj e))
  replace bg12 := bg12.grown hgs (fun e => Nat.ne_of_gt og12.out.2.2.2.2.2.1 (Option.some.inj e))
  replace bg13 := bg13.grown hgs (fun e => Nat.ne_of_gt og13.out.2.2.2.2.2.1 (Option.some.inj e))
  replace hb0 := below_new hb0 hgs og8.out.1 hb0.size
  clear hgs bg8
  have bg8 := bn
  clear bn
  replace lg4 := bg4.lt
  replace lg5 := bg5.lt
  replace lg6 := bg6.lt
  replace lg7 := bg7.lt
  replace lg8 := bg8.lt
  replace lg9 := bg9.lt
  replace lg10 := bg10.lt
  replace lg11 := bg11.lt
  replace lg12 := bg12.lt
  replace lg13 := bg13.lt
  refine hK.out _ _ bg11 (fun hHeld => ?_)
  clear hK K
  try simp only [Act.put]
  refine wpAnyH_ready (rs := [3]) (by kernel_rfl) (by simp) ?_
  refine AllReadyH.cons (o := ⟨_, _, _, _, _, _⟩) rfl (fun K hK => ?_) AllReadyH.nil
  rw [if_pos (by rfl)]
  refine wp_store_blk 29 (.tmp 9) (.tmp 57) rfl g9 (kC 0) rfl rfl _ _ bg9 (infoN6.trans (by rw [kC_length])) (by first | with_reducible rfl | rw [kC_length, kC_length] | rw [kC_length]) (oneK4 _) ?_
  intro w21 bn hgs
  replace bg4 := bg4.grown hgs (fun e => Nat.ne_of_lt og9.out.2.1 (Option.some.inj e))
  replace bg5 := bg5.grown hgs (fun e => Nat.ne_of_lt og9.out.2.2.1 (Option.some.inj e))
  replace bg6 := bg6.grown hgs (fun e => Nat.ne_of_lt og9.out.2.2.2.1 (Option.some.inj e))
  replace bg7 := bg7.grown hgs (fun e => Nat.ne_of_lt og9.out.2.2.2.2.1 (Option.some.inj e))
  replace bg8 := bg8.grown hgs (fun e => Nat.ne_of_lt og9.out.2.2.2.2.2 (Option.some.inj e))
  replace bg10 := bg10.grown hgs (fun e => Nat.ne_of_gt og10.out.2.2.2.2.2.2 (Option.some.inj e))
  replace bg11 := bg11.grown hgs (fun e => Nat.ne_of_gt og11.out.2.2.2.2.2.2.1 (Option.some.inj e))
  replace bg12 := bg12.grown hgs (fun e => Nat.ne_of_gt og12.out.2.2.2.2.2.2.1 (Option.some.inj e))
  replace bg13 := bg13.grown hgs (fun e => Nat.ne_of_gt og13.out.2.2.2.2.2.2.1 (Option.some.inj e))
  replace hb0 := below_new hb0 hgs og9.out.1 hb0.size
  clear hgs bg9
  have bg9 := bn
  clear bn
  replace lg4 := bg4.lt
  replace lg5 := bg5.lt
  replace lg6 := bg6.lt
  replace lg7 := bg7.lt
  replace lg8 := bg8.lt
  replace lg9 := bg9.lt
  replace lg10 := bg10.lt
  replace lg11 := bg11.lt
  replace lg12 := bg12.lt
  replace lg13 := bg13.lt
  refine hK.out _ _ bg11 (fun hHeld => ?_)
  clear hK K
  try simp only [Act.put]
  refine wpAnyH_done (by kernel_rfl) ?_ _
  refine NoPanic.normal ?_
  clear hHeld
  go_wp2_with (fail)
  refine bodyPost_ret (v := .tuple _) ?_ rfl ⟨rfl, hb0⟩
  exact results_two6 rfl _ _ g8 g9 _ _ rfl rfl bg8 bg9
set_option maxRecDepth 100000 in
set_option maxHeartbeats 2000000 in
theorem rAdd_5 (x1 y1 y2 : K) (ba bb bc bd : Bool) (hba : Hid (decide (x1 = 0) = ba)) (hbb : Hid (decide (y1 = 0) = bb)) (hF : Hid ((ba && bb) = false)) (hbc : Hid (decide (x1 = 0) = bc)) (hbd : Hid (decide (y2 = 0) = bd)) (hG : Hid ((bc && bd) = false)) (hz : Hid (y1 + y2 ≠ 0)) (s : K) (hs : Hid (s = (3 * (x1 * x1 - 1)) * invK (y1 + y1))) (xr yr : K) (hu : Hid (xr = s * s - x1 - x1)) (hv : Hid (yr = s * (x1 - xr) - y1)) (w : World) : Calls Tryd.prog 25 #[.agg (kC x1).toArray, .agg (kC y1).toArray, .agg (kC x1).toArray, .agg (kC y2).toArray] w fun e w' => e = .returned (.tuple #[.agg (kC xr).toArray, .agg (kC yr).toArray]) ∧ Below w.heap.size w w' := by
  go_enter Tryd.func25, Tryd.ntmps25
  have hb0 : Below w.heap.size w w := Below.refl _ _
  go_upto_region 0 with (fail)
  refine wp_region_lit ?_
  refine wpList_box_blk rfl 29 (.tmp 0) rfl (kC x1) rfl ?_
  intro g4 w1 hg bg4 hb
  have og4 := Lib.hid (show w.heap.size ≤ g4 from Nat.le_trans hb0.size (Nat.le_of_eq hg.symm))
  clear hg
  replace hb0 := hb0.trans (hb.mono hb0.size)
  clear hb
  have lg4 := bg4.lt
  try simp only [Act.put, List.setIfInBounds_toArray, List.set_cons_zero, List.set_cons_succ]
  refine wpList_box_blk rfl 29 (.tmp 1) rfl (kC y1) rfl ?_
  intro g5 w2 hg bg5 hb
  have og5 := Lib.hid (show w.heap.size ≤ g5 ∧ g4 < g5 from ⟨Nat.le_trans hb0.size (Nat.le_of_eq hg.symm), Nat.lt_of_lt_of_le lg4 (Nat.le_of_eq hg.symm)⟩)
  clear hg
  replace bg4 := bg4.below hb lg4
  replace hb0 := hb0.trans (hb.mono hb0.size)
  replace lg4 := bg4.lt
  clear hb
  have lg5 := bg5.lt
  try simp only [Act.put, List.setIfInBounds_toArray, List.set_cons_zero, List.set_cons_succ]
  refine wpList_box_blk rfl 29 (.tmp 2) rfl (kC x1) rfl ?_
  intro g6 w3 hg bg6 hb
  have og6 := Lib.hid (show w.heap.size ≤ g6 ∧ g4 < g6 ∧ g5 < g6 from ⟨Nat.le_trans hb0.size (Nat.le_of_eq hg.symm), Nat.lt_of_lt_of_le lg4 (Nat.le_of_eq hg.symm), Nat.lt_of_lt_of_le lg5 (Nat.le_of_eq hg.symm)⟩)
  clear hg
  replace bg4 := bg4.below hb lg4
  replace bg5 := bg5.below hb lg5
  replace hb0 := hb0.trans (hb.mono hb0.size)
  replace lg4 := bg4.lt
  replace lg5 := bg5.lt
  clear hb
  have lg6 := bg6.lt
  try simp only [Act.put, List.setIfInBounds_toArray, List.set_cons_zero, List.set_cons_succ]
  refine wpList_box_blk rfl 29 (.tmp 3) rfl (kC y2) rfl ?_
  intro g7 w4 hg bg7 hb
  have og7 := Lib.hid (show w.heap.size ≤ g7 ∧ g4 < g7 ∧ g5 < g7 ∧ g6 < g7 from ⟨Nat.le_trans hb0.size (Nat.le_of_eq hg.symm), Nat.lt_of_lt_of_le lg4 (Nat.le_of_eq hg.symm), Nat.lt_of_lt_of_le lg5 (Nat.le_of_eq hg.symm), Nat.lt_of_lt_of_le lg6 (Nat.le_of_eq hg.symm)⟩)
  clear hg
  replace bg4 := bg4.below hb lg4
  replace bg5 := bg5.below hb lg5
  replace bg6 := bg6.below hb lg6
  replace hb0 := hb0.trans (hb.mono hb0.size)
  replace lg4 := bg4.lt
  replace lg5 := bg5.lt
  replace lg6 := bg6.lt
  clear hb
  have lg7 := bg7.lt
  try simp only [Act.put, List.setIfInBounds_toArray, List.set_cons_zero, List.set_cons_succ]
  refine wpList_new_blk rfl 29 rfl (kC 0) zeroN6k ?_
  intro g8 w5 hg bg8 hb
  have og8 := Lib.hid (show w.heap.size ≤ g8 ∧ g4 < g8 ∧ g5 < g8 ∧ g6 < g8 ∧ g7 < g8 from ⟨Nat.le_trans hb0.size (Nat.le_of_eq hg.symm), Nat.lt_of_lt_of_le lg4 (Nat.le_of_eq hg.symm), Nat.lt_of_lt_of_le lg5 (Nat.le_of_eq hg.symm), Nat.lt_of_lt_of_le lg6 (Nat.le_of_eq hg.symm), Nat.lt_of_lt_of_le lg7 (Nat.le_of_eq hg.symm)⟩)
  clear hg
  replace bg4 := bg4.below hb lg4
  replace bg5 := bg5.below hb lg5
  replace bg6 := bg6.below hb lg6
  replace bg7 := bg7.below hb lg7
  replace hb0 := hb0.trans (hb.mono hb0.size)
  replace lg4 := bg4.lt
  replace lg5 := bg5.lt
  replace lg6 := bg6.lt
  replace lg7 := bg7.lt
  clear hb
  have lg8 := bg8.lt
  try simp only [Act.put, List.setIfInBounds_toArray, List.set_cons_zero, List.set_cons_succ]
  refine wpList_new_blk rfl 29 rfl (kC 0) zeroN6k ?_
  intro g9 w6 hg bg9 hb
  have og9 := Lib.hid (show w.heap.size ≤ g9 ∧ g4 < g9 ∧ g5 < g9 ∧ g6 < g9 ∧ g7 < g9 ∧ g8 < g9 from ⟨Nat.le_trans hb0.size (Nat.le_of_eq hg.symm), Nat.lt_of_lt_of_le lg4 (Nat.le_of_eq hg.symm), Nat.lt_of_lt_of_le lg5 (Nat.le_of_eq hg.symm), Nat.lt_of_lt_of_le lg6 (Nat.le_of_eq hg.symm), Nat.lt_of_lt_of_le lg7 (Nat.le_of_eq hg.symm), Nat.lt_of_lt_of_le lg8 (Nat.le_of_eq hg.symm)⟩)
  clear hg
  replace bg4 := bg4.below hb lg4
  replace bg5 := bg5.below hb lg5
  replace bg6 := bg6.below hb lg6
  replace bg7 := bg7.below hb lg7
  replace bg8 := bg8.below hb lg8
  replace hb0 := hb0.trans (hb.mono hb0.size)
  replace lg4 := bg4.lt
  replace lg5 := bg5.lt
  replace lg6 := bg6.lt
  replace lg7 := bg7.lt
  replace lg8 := bg8.lt
  clear hb
  have lg9 := bg9.lt
  try simp only [Act.put, List.setIfInBounds_toArray, List.set_cons_zero, List.set_cons_succ]
  go_upto_region 1 with (fail)
  apply wp_plain_once (m := 1) (J := [[]]) (Je := [0]) (Rs := [Is _])
  · kernel_rfl
  · kernel_rfl
  · intro u
    simp only [List.take_succ_cons, List.take_zero, List.map_cons, List.map_nil, fillU, List.setIfInBounds_toArray, List.set_cons_zero, List.set_cons_succ]
    exact rfl
  · simp only [List.take_succ_cons, List.take_zero]
    refine ⟨fun u W hb hd K hK => ?_, ?_⟩
    · clear hd
      go_simp
      refine (rP _).mono ?_
      rintro e wy ⟨rfl, hby⟩
      exact hK _ _ _ rfl hby IsOut
    exact trivial
  · exact (.is .nil)
  intro u w7 hb hd
  simp only [List.drop_succ_cons, List.drop_zero]
  simp only [Facts, nthR, Is, and_true] at hd
  have h0 := hd
  clear hd
  simp only [h0]
  clear h0
  replace bg4 := bg4.below hb lg4
  replace bg5 := bg5.below hb lg5
  replace bg6 := bg6.below hb lg6
  replace bg7 := bg7.below hb lg7
  replace bg8 := bg8.below hb lg8
  replace bg9 := bg9.below hb lg9
  replace hb0 := hb0.trans (hb.mono hb0.size)
  replace lg4 := bg4.lt
  replace lg5 := bg5.lt
  replace lg6 := bg6.lt
  replace lg7 := bg7.lt
  replace lg8 := bg8.lt
  replace lg9 := bg9.lt
  clear hb
  refine wpList_new_blk rfl 29 rfl (kC 0) zeroN6k ?_
  intro g10 w8 hg bg10 hb
  have og10 := Lib.hid (show w.heap.size ≤ g10 ∧ g4 < g10 ∧ g5 < g10 ∧ g6 < g10 ∧ g7 < g10 ∧ g8 < g10 ∧ g9 < g10 from ⟨Nat.le_trans hb0.size (Nat.le_of_eq hg.symm), Nat.lt_of_lt_of_le lg4 (Nat.le_of_eq hg.symm), Nat.lt_of_lt_of_le lg5 (Nat.le_of_eq hg.symm), Nat.lt_of_lt_of_le lg6 (Nat.le_of_eq hg.symm), Nat.lt_of_lt_of_le lg7 (Nat.le_of_eq hg.symm), Nat.lt_of_lt_of_le lg8 (Nat.le_of_eq hg.symm), Nat.lt_of_lt_of_le lg9 (Nat.le_of_eq hg.symm)⟩)
  clear hg
  replace bg4 := bg4.below hb lg4
  replace bg5 := bg5.below hb lg5
  replace bg6 := bg6.below hb lg6
  replace bg7 := bg7.below hb lg7
  replace bg8 := bg8.below hb lg8
  replace bg9 := bg9.below hb lg9
  replace hb0 := hb0.trans (hb.mono hb0.size)
  replace lg4 := bg4.lt
  replace lg5 := bg5.lt
  replace lg6 := bg6.lt
  replace lg7 := bg7.lt
  replace lg8 := bg8.lt
  replace lg9 := bg9.lt
  clear hb
  have lg10 := bg10.lt
  try simp only [Act.put, List.setIfInBounds_toArray, List.set_cons_zero, List.set_cons_succ]
  refine wpList_store_blk rfl 29 (.tmp 10) (.tmp 17) rfl rfl g10 (nC primeP) rfl rfl _ _ bg10 (infoN6.trans (by rw [nC_length])) (by first | with_reducible rfl | rw [kC_length, nC_length] | rw [kC_length]) (one4 _) ?_
  intro w9 bn hgs
  replace bg4 := bg4.grown hgs (fun e => Nat.ne_of_lt og10.out.2.1 (Option.some.inj e))
  replace bg5 := bg5.grown hgs (fun e => Nat.ne_of_lt og10.out.2.2.1 (Option.some.inj e))
  replace bg6 := bg6.grown hgs (fun e => Nat.ne_of_lt og10.out.2.2.2.1 (Option.some.inj e))
  replace bg7 := bg7.grown hgs (fun e => Nat.ne_of_lt og10.out.2.2.2.2.1 (Option.some.inj e))
  replace bg8 := bg8.grown hgs (fun e => Nat.ne_of_lt og10.out.2.2.2.2.2.1 (Option.some.inj e))
  replace bg9 := bg9.grown hgs (fun e => Nat.ne_of_lt og10.out.2.2.2.2.2.2 (Option.some.inj e))
  replace hb0 := below_new hb0 hgs og10.out.1 hb0.size
  clear hgs bg10
  have bg10 := bn
  clear bn
  replace lg4 := bg4.lt
  replace lg5 := bg5.lt
  replace lg6 := bg6.lt
  replace lg7 := bg7.lt
  replace lg8 := bg8.lt
  replace lg9 := bg9.lt
  replace lg10 := bg10.lt
  try simp only [Act.put]
  go_upto_region 2 with (fail)
  apply wp_plain_once (m := 1) (J := [[]]) (Je := [0]) (Rs := [Is _])
  · kernel_rfl
  · kernel_rfl
  · intro u
    simp only [List.take_succ_cons, List.take_zero, List.map_cons, List.map_nil, fillU, List.setIfInBounds_toArray, List.set_cons_zero, List.set_cons_succ]
    exact rfl
  · simp only [List.take_succ_cons, List.take_zero]
    refine ⟨fun u W hb hd K hK => ?_, ?_⟩
    · clear hd
      rw [if_pos (by rfl)]
      refine wp_builtV 29 _ rfl [] rfl (kC 0).toArray built6_0k ?_
      exact hK _ _ _ rfl (Below.refl _ _) IsOut
    exact trivial
  · exact (.is .nil)
  intro u w10 hb hd
  simp only [List.drop_succ_cons, List.drop_zero]
  simp only [Facts, nthR, Is, and_true] at hd
  have h0 := hd
  clear hd
  simp only [h0]
  clear h0
  replace bg4 := bg4.below hb lg4
  replace bg5 := bg5.below hb lg5
  replace bg6 := bg6.below hb lg6
  replace bg7 := bg7.below hb lg7
  replace bg8 := bg8.below hb lg8
  replace bg9 := bg9.below hb lg9
  replace bg10 := bg10.below hb lg10
  replace hb0 := hb0.trans (hb.mono hb0.size)
  replace lg4 := bg4.lt
  replace lg5 := bg5.lt
  replace lg6 := bg6.lt
  replace lg7 := bg7.lt
  replace lg8 := bg8.lt
  replace lg9 := bg9.lt
  replace lg10 := bg10.lt
  clear hb
  refine wpList_new_blk rfl 29 rfl (kC 0) zeroN6k ?_
  intro g11 w11 hg bg11 hb
  have og11 := Lib.hid (show w.heap.size ≤ g11 ∧ g4 < g11 ∧ g5 < g11 ∧ g6 < g11 ∧ g7 < g11 ∧ g8 < g11 ∧ g9 < g11 ∧ g10 < g11 from ⟨Nat.le_trans hb0.size (Nat.le_of_eq hg.symm), Nat.lt_of_lt_of_le lg4 (Nat.le_of_eq hg.symm), Nat.lt_of_lt_of_le lg5 (Nat.le_of_eq hg.symm), Nat.lt_of_lt_of_le lg6 (Nat.le_of_eq hg.symm), Nat.lt_of_lt_of_le lg7 (Nat.le_of_eq hg.symm), Nat.lt_of_lt_of_le lg8 (Nat.le_of_eq hg.symm), Nat.lt_of_lt_of_le lg9 (Nat.le_of_eq hg.symm), Nat.lt_of_lt_of_le lg10 (Nat.le_of_eq hg.symm)⟩)
  clear hg
  replace bg4 := bg4.below hb lg4
  replace bg5 := bg5.below hb lg5
  replace bg6 := bg6.below hb lg6
  replace bg7 := bg7.below hb lg7
  replace bg8 := bg8.below hb lg8
  replace bg9 := bg9.below hb lg9
  replace bg10 := bg10.below hb lg10
  replace hb0 := hb0.trans (hb.mono hb0.size)
  replace lg4 := bg4.lt
  replace lg5 := bg5.lt
  replace lg6 := bg6.lt
  replace lg7 := bg7.lt
  replace lg8 := bg8.lt
  replace lg9 := bg9.lt
  replace lg10 := bg10.lt
  clear hb
  have lg11 := bg11.lt
  try simp only [Act.put, List.setIfInBounds_toArray, List.set_cons_zero, List.set_cons_succ]
  refine wpList_store_blk rfl 29 (.tmp 11) (.tmp 18) rfl rfl g11 (kC 0) rfl rfl _ _ bg11 (infoN6.trans (by rw [kC_length])) (by first | with_reducible rfl | rw [kC_length, kC_length] | rw [kC_length]) (oneK4 _) ?_
  intro w12 bn hgs
  replace bg4 := bg4.grown hgs (fun e => Nat.ne_of_lt og11.out.2.1 (Option.some.inj e))
  replace bg5 := bg5.grown hgs (fun e => Nat.ne_of_lt og11.out.2.2.1 (Option.some.inj e))
  replace bg6 := bg6.grown hgs (fun e => Nat.ne_of_lt og11.out.2.2.2.1 (Option.some.inj e))
  replace bg7 := bg7.grown hgs (fun e => Nat.ne_of_lt og11.out.2.2.2.2.1 (Option.some.inj e))
  replace bg8 := bg8.grown hgs (fun e => Nat.ne_of_lt og11.out.2.2.2.2.2.1 (Option.some.inj e))
  replace bg9 := bg9.grown hgs (fun e => Nat.ne_of_lt og11.out.2.2.2.2.2.2.1 (Option.some.inj e))
  replace bg10 := bg10.grown hgs (fun e => Nat.ne_of_lt og11.out.2.2.2.2.2.2.2 (Option.some.inj e))
  replace hb0 := below_new hb0 hgs og11.out.1 hb0.size
  clear hgs bg11
  have bg11 := bn
  clear bn
  replace lg4 := bg4.lt
  replace lg5 := bg5.lt
  replace lg6 := bg6.lt
  replace lg7 := bg7.lt
  replace lg8 := bg8.lt
  replace lg9 := bg9.lt
  replace lg10 := bg10.lt
  replace lg11 := bg11.lt
  try simp only [Act.put]
  go_upto_region 3 with (fail)
  apply wp_plain_once (m := 8) (J := [[], [], [0, 1], [2], [3], [3], [3, 4, 5], [3, 6]]) (Je := [7]) (Rs := [Is _, Is _, Is _, Is _, Maybe ba true _, Maybe ba true _, Maybe ba true _, Is (.bool false)])
  · kernel_rfl
  · kernel_rfl
  · intro u
    simp only [List.take_succ_cons, List.take_zero, List.map_cons, List.map_nil, fillU, List.setIfInBounds_toArray, List.set_cons_zero, List.set_cons_succ, Nat.reduceAdd]
    exact rfl
  · simp only [List.take_succ_cons, List.take_zero]
    refine ⟨fun u W hb hd K hK => ?_, ?_⟩
    · clear hd
      rw [if_pos (by rfl)]
      refine wp_load_mid 29 (.tmp 4) rfl g4 0 rfl (kC x1) _ (rangeAt_of_blk (bg4.below hb lg4)) Tryd.underlying29 rfl (infoN6.trans (by rw [kC_length])) ?_
      exact hK _ _ _ rfl (Below.refl _ _) IsOut
    refine ⟨fun u W hb hd K hK => ?_, ?_⟩
    · clear hd
      rw [if_pos (by rfl)]
      refine wp_load_mid 29 (.tmp 11) rfl g11 0 rfl (kC 0) _ (rangeAt_of_blk (bg11.below hb lg11)) Tryd.underlying29 rfl (infoN6.trans (by rw [kC_length])) ?_
      exact hK _ _ _ rfl (Below.refl _ _) IsOut
    refine ⟨fun u W hb hd K hK => ?_, ?_⟩
    · simp only [Facts, nthR, Is, and_true] at hd
      simp only [hd] at hK ⊢
      clear hd
      have he : (Op.equalIn 10000 29 (.agg (kC x1).toArray) (.agg (kC 0).toArray)).run Tryd.prog W = .ok ba W := EqK6 hba W
      go_simp
      apply hK
      · simp only [Act.put, List.setIfInBounds_toArray, List.set_cons_zero, List.set_cons_succ]
        exact rfl
      · exact Below.refl _ _
      · exact IsOut
    refine ⟨fun u W hb hd K hK => ?_, ?_⟩
    · simp only [Facts, nthR, Is, and_true] at hd
      simp only [hd] at hK ⊢
      clear hd
      go_simp
      apply hK
      · simp only [Act.put, List.setIfInBounds_toArray, List.set_cons_zero, List.set_cons_succ]
        exact rfl
      · exact Below.refl _ _
      · exact IsOut
    refine ⟨fun u W hb hd K hK => ?_, ?_⟩
    · simp only [Facts, nthR, Is, and_true] at hd
      have h3 := hd
      by_cases hc : ba = true
      · simp only [h3, hc] at hK ⊢
        rw [if_pos (by rfl)]
        refine wp_load_mid 29 (.tmp 5) rfl g5 0 rfl (kC y1) _ (rangeAt_of_blk (bg5.below hb lg5)) Tryd.underlying29 rfl (infoN6.trans (by rw [kC_length])) ?_
        exact hK _ _ _ rfl (Below.refl _ _) fun _ => IsOut (w := W)
      · have hc' : ba = false := by cases ba <;> simp_all
        simp only [h3, hc'] at hK ⊢
        go_simp
        apply hK
        · simp only [Act.put, List.setIfInBounds_toArray, List.set_cons_zero, List.set_cons_succ]
          exact rfl
        · exact Below.refl _ _
        · exact fun h => by cases h
    refine ⟨fun u W hb hd K hK => ?_, ?_⟩
    · simp only [Facts, nthR, Is, and_true] at hd
      have h3 := hd
      by_cases hc : ba = true
      · simp only [h3, hc] at hK ⊢
        rw [if_pos (by rfl)]
        refine wp_load_mid 29 (.tmp 11) rfl g11 0 rfl (kC 0) _ (rangeAt_of_blk (bg11.below hb lg11)) Tryd.underlying29 rfl (infoN6.trans (by rw [kC_length])) ?_
        exact hK _ _ _ rfl (Below.refl _ _) fun _ => IsOut (w := W)
      · have hc' : ba = false := by cases ba <;> simp_all
        simp only [h3, hc'] at hK ⊢
        go_simp
        apply hK
        · simp only [Act.put, List.setIfInBounds_toArray, List.set_cons_zero, List.set_cons_succ]
          exact rfl
        · exact Below.refl _ _
        · exact fun h => by cases h
    refine ⟨fun u W hb hd K hK => ?_, ?_⟩
    · simp only [Facts, nthR, Is, and_true] at hd
      obtain ⟨h3, h4, h5⟩ := hd
      by_cases hc : ba = true
      · replace h4 := h4 hc
        replace h5 := h5 hc
        simp only [h3, h4, h5, hc] at hK ⊢
        have he : (Op.equalIn 10000 29 (.agg (kC y1).toArray) (.agg (kC 0).toArray)).run Tryd.prog W = .ok bb W := EqK6 hbb W
        go_simp
        apply hK
        · simp only [Act.put, List.setIfInBounds_toArray, List.set_cons_zero, List.set_cons_succ]
          exact rfl
        · exact Below.refl _ _
        · exact fun _ => IsOut (w := W)
      · have hc' : ba = false := by cases ba <;> simp_all
        simp only [h3, hc'] at hK ⊢
        go_simp
        apply hK
        · simp only [Act.put, List.setIfInBounds_toArray, List.set_cons_zero, List.set_cons_succ]
          exact rfl
        · exact Below.refl _ _
        · exact fun h => by cases h
    refine ⟨fun u W hb hd K hK => ?_, ?_⟩
    · simp only [Facts, nthR, Is, and_true] at hd
      obtain ⟨h3, h6⟩ := hd
      by_cases hc : ba = true
      · replace h6 := h6 hc
        simp only [h3, h6, hc] at hK ⊢
        go_simp
        apply hK
        · simp only [Act.put, List.setIfInBounds_toArray, List.set_cons_zero, List.set_cons_succ]
          exact rfl
        · exact Below.refl _ _
        · exact (by have hz := hF.out; rw [hc, Bool.true_and] at hz; subst hz; exact IsOut)
      · have hc' : ba = false := by cases ba <;> simp_all
        simp only [h3, hc'] at hK ⊢
        go_simp
        apply hK
        · simp only [Act.put, List.setIfInBounds_toArray, List.set_cons_zero, List.set_cons_succ]
          exact rfl
        · exact Below.refl _ _
        · exact IsOut
    exact trivial
  · exact (.is (.is (.is (.is (.cons (fun _ _ _ h _ => h) (.cons (fun _ _ _ h _ => h) (.cons (fun _ _ _ h _ => h) (.cons (fun _ _ _ h _ => h) .nil))))))))
  intro u w13 hb hd
  simp only [List.drop_succ_cons, List.drop_zero]
  simp only [Facts, nthR, Is, and_true] at hd
  have h7 := hd
  clear hd
  simp only [h7]
  clear h7
  replace bg4 := bg4.below hb lg4
  replace bg5 := bg5.below hb lg5
  replace bg6 := bg6.below hb lg6
  replace bg7 := bg7.below hb lg7
  replace bg8 := bg8.below hb lg8
  replace bg9 := bg9.below hb lg9
  replace bg10 := bg10.below hb lg10
  replace bg11 := bg11.below hb lg11
  replace hb0 := hb0.trans (hb.mono hb0.size)
  replace lg4 := bg4.lt
  replace lg5 := bg5.lt
  replace lg6 := bg6.lt
  replace lg7 := bg7.lt
  replace lg8 := bg8.lt
  replace lg9 := bg9.lt
  replace lg10 := bg10.lt
  replace lg11 := bg11.lt
  clear hb
  go_upto_region 5 with (fail)
  apply wp_plain_once (m := 8) (J := [[], [], [0, 1], [2], [3], [3], [3, 4, 5], [3, 6]]) (Je := [7]) (Rs := [Is _, Is _, Is _, Is _, Maybe bc true _, Maybe bc true _, Maybe bc true _, Is (.bool false)])
  · kernel_rfl
  · kernel_rfl
  · intro u
    simp only [List.take_succ_cons, List.take_zero, List.map_cons, List.map_nil, fillU, List.setIfInBounds_toArray, List.set_cons_zero, List.set_cons_succ, Nat.reduceAdd]
    exact rfl
  · simp only [List.take_succ_cons, List.take_zero]
    refine ⟨fun u W hb hd K hK => ?_, ?_⟩
    · clear hd
      rw [if_pos (by rfl)]
      refine wp_load_mid 29 (.tmp 6) rfl g6 0 rfl (kC x1) _ (rangeAt_of_blk (bg6.below hb lg6)) Tryd.underlying29 rfl (infoN6.trans (by rw [kC_length])) ?_
      exact hK _ _ _ rfl (Below.refl _ _) IsOut
    refine ⟨fun u W hb hd K hK => ?_, ?_⟩
    · clear hd
      rw [if_pos (by rfl)]
      refine wp_load_mid 29 (.tmp 11) rfl g11 0 rfl (kC 0) _ (rangeAt_of_blk (bg11.below hb lg11)) Tryd.underlying29 rfl (infoN6.trans (by rw [kC_length])) ?_
      exact hK _ _ _ rfl (Below.refl _ _) IsOut
    refine ⟨fun u W hb hd K hK => ?_, ?_⟩
    · simp only [Facts, nthR, Is, and_true] at hd
      simp only [hd] at hK ⊢
      clear hd
      have he : (Op.equalIn 10000 29 (.agg (kC x1).toArray) (.agg (kC 0).toArray)).run Tryd.prog W = .ok bc W := EqK6 hbc W
      go_simp
      apply hK
      · simp only [Act.put, List.setIfInBounds_toArray, List.set_cons_zero, List.set_cons_succ]
        exact rfl
      · exact Below.refl _ _
      · exact IsOut
    refine ⟨fun u W hb hd K hK => ?_, ?_⟩
    · simp only [Facts, nthR, Is, and_true] at hd
      simp only [hd] at hK ⊢
      clear hd
      go_simp
      apply hK
      · simp only [Act.put, List.setIfInBounds_toArray, List.set_cons_zero, List.set_cons_succ]
        exact rfl
      · exact Below.refl _ _
      · exact IsOut
    refine ⟨fun u W hb hd K hK => ?_, ?_⟩
    · simp only [Facts, nthR, Is, and_true] at hd
      have h3 := hd
      by_cases hc : bc = true
      · simp only [h3, hc] at hK ⊢
        rw [if_pos (by rfl)]
        refine wp_load_mid 29 (.tmp 7) rfl g7 0 rfl (kC y2) _ (rangeAt_of_blk (bg7.below hb lg7)) Tryd.underlying29 rfl (infoN6.trans (by rw [kC_length])) ?_
        exact hK _ _ _ rfl (Below.refl _ _) fun _ => IsOut (w := W)
      · have hc' : bc = false := by cases bc <;> simp_all
        simp only [h3, hc'] at hK ⊢
        go_simp
        apply hK
        · simp only [Act.put, List.setIfInBounds_toArray, List.set_cons_zero, List.set_cons_succ]
          exact rfl
        · exact Below.refl _ _
        · exact fun h => by cases h
    refine ⟨fun u W hb hd K hK => ?_, ?_⟩
    · simp only [Facts, nthR, Is, and_true] at hd
      have h3 := hd
      by_cases hc : bc = true
      · simp only [h3, hc] at hK ⊢
        rw [if_pos (by rfl)]
        refine wp_load_mid 29 (.tmp 11) rfl g11 0 rfl (kC 0) _ (rangeAt_of_blk (bg11.below hb lg11)) Tryd.underlying29 rfl (infoN6.trans (by rw [kC_length])) ?_
        exact hK _ _ _ rfl (Below.refl _ _) fun _ => IsOut (w := W)
      · have hc' : bc = false := by cases bc <;> simp_all
        simp only [h3, hc'] at hK ⊢
        go_simp
        apply hK
        · simp only [Act.put, List.setIfInBounds_toArray, List.set_cons_zero, List.set_cons_succ]
          exact rfl
        · exact Below.refl _ _
        · exact fun h => by cases h
    refine ⟨fun u W hb hd K hK => ?_, ?_⟩
    · simp only [Facts, nthR, Is, and_true] at hd
      obtain ⟨h3, h4, h5⟩ := hd
      by_cases hc : bc = true
      · replace h4 := h4 hc
        replace h5 := h5 hc
        simp only [h3, h4, h5, hc] at hK ⊢
        have he : (Op.equalIn 10000 29 (.agg (kC y2).toArray) (.agg (kC 0).toArray)).run Tryd.prog W = .ok bd W := EqK6 hbd W
        go_simp
        apply hK
        · simp only [Act.put, List.setIfInBounds_toArray, List.set_cons_zero, List.set_cons_succ]
          exact rfl
        · exact Below.refl _ _
        · exact fun _ => IsOut (w := W)
      · have hc' : bc = false := by cases bc <;> simp_all
        simp only [h3, hc'] at hK ⊢
        go_simp
        apply hK
        · simp only [Act.put, List.setIfInBounds_toArray, List.set_cons_zero, List.set_cons_succ]
          exact rfl
        · exact Below.refl _ _
        · exact fun h => by cases h
    refine ⟨fun u W hb hd K hK => ?_, ?_⟩
    · simp only [Facts, nthR, Is, and_true] at hd
      obtain ⟨h3, h6⟩ := hd
      by_cases hc : bc = true
      · replace h6 := h6 hc
        simp only [h3, h6, hc] at hK ⊢
        go_simp
        apply hK
        · simp only [Act.put, List.setIfInBounds_toArray, List.set_cons_zero, List.set_cons_succ]
          exact rfl
        · exact Below.refl _ _
        · exact (by have hz := hG.out; rw [hc, Bool.true_and] at hz; subst hz; exact IsOut)
      · have hc' : bc = false := by cases bc <;> simp_all
        simp only [h3, hc'] at hK ⊢
        go_simp
        apply hK
        · simp only [Act.put, List.setIfInBounds_toArray, List.set_cons_zero, List.set_cons_succ]
          exact rfl
        · exact Below.refl _ _
        · exact IsOut
    exact trivial
  · exact (.is (.is (.is (.is (.cons (fun _ _ _ h _ => h) (.cons (fun _ _ _ h _ => h) (.cons (fun _ _ _ h _ => h) (.cons (fun _ _ _ h _ => h) .nil))))))))
  intro u w14 hb hd
  simp only [List.drop_succ_cons, List.drop_zero]
  simp only [Facts, nthR, Is, and_true] at hd
  have h7 := hd
  clear hd
  simp only [h7]
  clear h7
  replace bg4 := bg4.below hb lg4
  replace bg5 := bg5.below hb lg5
  replace bg6 := bg6.below hb lg6
  replace bg7 := bg7.below hb lg7
  replace bg8 := bg8.below hb lg8
  replace bg9 := bg9.below hb lg9
  replace bg10 := bg10.below hb lg10
  replace bg11 := bg11.below hb lg11
  replace hb0 := hb0.trans (hb.mono hb0.size)
  replace lg4 := bg4.lt
  replace lg5 := bg5.lt
  replace lg6 := bg6.lt
  replace lg7 := bg7.lt
  replace lg8 := bg8.lt
  replace lg9 := bg9.lt
  replace lg10 := bg10.lt
  replace lg11 := bg11.lt
  clear hb
  go_upto_region 7 with (fail)
  obtain ⟨r42, hr42⟩ : ∃ s : K, Hid (s = y2 - y1) := ⟨_, Lib.hid rfl⟩
  obtain ⟨r46, hr46⟩ : ∃ s : K, Hid (s = x1 - x1) := ⟨_, Lib.hid rfl⟩
  apply wp_region_fresh (m := 10) (Z := []) (Fl := [false, false, false, false, false, false, false, false, true, true]) (D := [[], [], [], [0, 1, 2], [], [], [], [0, 1, 2, 3, 4, 5, 6], [], [], [0, 1, 2, 3, 4, 5, 6, 7, 8, 9], [0, 1, 2, 3, 4, 5, 6, 7, 8, 9, 10]]) (J := [[], [], [], [0, 1, 2], [], [], [], [4, 5, 6], [], []]) (Je := [3, 7, 8, 9]) (Rs := [Is _, Is _, Is _, Is _, Is _, Is _, Is _, Is _, fun v V => ∃ g', v = .pointer (some ⟨g', 0, none⟩) ∧ w14.heap.size ≤ g' ∧ Blk V g' 29 (kC 0), fun v V => ∃ g', v = .pointer (some ⟨g', 0, none⟩) ∧ w14.heap.size ≤ g' ∧ Blk V g' 29 (kC 0)])
  · kernel_rfl
  · kernel_rfl
  · kernel_rfl
  · kernel_rfl
  · kernel_rfl
  · kernel_rfl
  · kernel_rfl
  · kernel_rfl
  · exact fun h => absurd rfl h
  · intro u
    simp only [List.take_succ_cons, List.take_zero, List.map_cons, List.map_nil, fillU, List.setIfInBounds_toArray, List.set_cons_zero, List.set_cons_succ, Nat.reduceAdd]
    exact rfl
  · simp only [List.take_succ_cons, List.take_zero]
    refine ⟨fun u W hb hd K hK => ?_, ?_⟩
    · clear hd
      rw [if_pos (by rfl)]
      refine wp_load_mid 29 (.tmp 7) rfl g7 0 rfl (kC y2) _ (rangeAt_of_blk (bg7.below hb lg7)) Tryd.underlying29 rfl (infoN6.trans (by rw [kC_length])) ?_
      exact hK _ _ _ rfl (Below.refl _ _) IsOut
    refine ⟨fun u W hb hd K hK => ?_, ?_⟩
    · clear hd
      rw [if_pos (by rfl)]
      refine wp_load_mid 29 (.tmp 5) rfl g5 0 rfl (kC y1) _ (rangeAt_of_blk (bg5.below hb lg5)) Tryd.underlying29 rfl (infoN6.trans (by rw [kC_length])) ?_
      exact hK _ _ _ rfl (Below.refl _ _) IsOut
    refine ⟨fun u W hb hd K hK => ?_, ?_⟩
    · clear hd
      rw [if_pos (by rfl)]
      refine wp_load_mid 29 (.tmp 10) rfl g10 0 rfl (nC primeP) _ (rangeAt_of_blk (bg10.below hb lg10)) Tryd.underlying29 rfl (infoN6.trans (by rw [nC_length])) ?_
      exact hK _ _ _ rfl (Below.refl _ _) IsOut
    refine ⟨fun u W hb hd K hK => ?_, ?_⟩
    · simp only [Facts, nthR, Is, and_true] at hd
      simp only [hd] at hK ⊢
      clear hd
      go_simp
      refine (RSubK hr42 _).mono ?_
      rintro e wy ⟨rfl, hby⟩
      exact hK _ _ _ rfl hby IsOut
    refine ⟨fun u W hb hd K hK => ?_, ?_⟩
    · clear hd
      rw [if_pos (by rfl)]
      refine wp_load_mid 29 (.tmp 6) rfl g6 0 rfl (kC x1) _ (rangeAt_of_blk (bg6.below hb lg6)) Tryd.underlying29 rfl (infoN6.trans (by rw [kC_length])) ?_
      exact hK _ _ _ rfl (Below.refl _ _) IsOut
    refine ⟨fun u W hb hd K hK => ?_, ?_⟩
    · clear hd
      rw [if_pos (by rfl)]
      refine wp_load_mid 29 (.tmp 4) rfl g4 0 rfl (kC x1) _ (rangeAt_of_blk (bg4.below hb lg4)) Tryd.underlying29 rfl (infoN6.trans (by rw [kC_length])) ?_
      exact hK _ _ _ rfl (Below.refl _ _) IsOut
    refine ⟨fun u W hb hd K hK => ?_, ?_⟩
    · clear hd
      rw [if_pos (by rfl)]
      refine wp_load_mid 29 (.tmp 10) rfl g10 0 rfl (nC primeP) _ (rangeAt_of_blk (bg10.below hb lg10)) Tryd.underlying29 rfl (infoN6.trans (by rw [nC_length])) ?_
      exact hK _ _ _ rfl (Below.refl _ _) IsOut
    refine ⟨fun u W hb hd K hK => ?_, ?_⟩
    · simp only [Facts, nthR, Is, and_true] at hd
      simp only [hd] at hK ⊢
      clear hd
      go_simp
      refine (RSubK hr46 _).mono ?_
      rintro e wy ⟨rfl, hby⟩
      exact hK _ _ _ rfl hby IsOut
    refine ⟨fun u W hb hd K hK => ?_, ?_⟩
    · clear hd
      go_simp
      apply hK
      · simp only [Act.put, List.setIfInBounds_toArray, List.set_cons_zero, List.set_cons_succ]
        exact rfl
      · exact (Below.refl _ _).alloc (Nat.le_refl _) _
      · exact ⟨_, rfl, hb.size, Blk.new_of _ _ _ _ rfl⟩
      · exact ⟨_, rfl, Nat.le_refl _, by simp⟩
    refine ⟨fun u W hb hd K hK => ?_, ?_⟩
    · clear hd
      go_simp
      apply hK
      · simp only [Act.put, List.setIfInBounds_toArray, List.set_cons_zero, List.set_cons_succ]
        exact rfl
      · exact (Below.refl _ _).alloc (Nat.le_refl _) _
      · exact ⟨_, rfl, hb.size, Blk.new_of _ _ _ _ rfl⟩
      · exact ⟨_, rfl, Nat.le_refl _, by simp⟩
    exact trivial
  · skip
    exact trivial
  · exact (.is (.is (.is (.is (.is (.is (.is (.is (.cons (fun v V V' ⟨g', h1, h2, h3⟩ hb => ⟨g', h1, h2, h3.below hb h3.lt⟩) (.cons (fun v V V' ⟨g', h1, h2, h3⟩ hb => ⟨g', h1, h2, h3.below hb h3.lt⟩) .nil))))))))))
  intro u w15 hb hd hne
  simp only [List.drop_succ_cons, List.drop_zero]
  simp only [Facts, nthR, Is, and_true] at hd
  obtain ⟨h3, h7, ⟨g12, h8, hng12, bg12⟩, ⟨g13, h9, hng13, bg13⟩⟩ := hd
  have og12 := Lib.hid (show w.heap.size ≤ g12 ∧ g4 < g12 ∧ g5 < g12 ∧ g6 < g12 ∧ g7 < g12 ∧ g8 < g12 ∧ g9 < g12 ∧ g10 < g12 ∧ g11 < g12 from ⟨Nat.le_trans hb0.size hng12, Nat.lt_of_lt_of_le lg4 hng12, Nat.lt_of_lt_of_le lg5 hng12, Nat.lt_of_lt_of_le lg6 hng12, Nat.lt_of_lt_of_le lg7 hng12, Nat.lt_of_lt_of_le lg8 hng12, Nat.lt_of_lt_of_le lg9 hng12, Nat.lt_of_lt_of_le lg10 hng12, Nat.lt_of_lt_of_le lg11 hng12⟩)
  have og13 := Lib.hid (show w.heap.size ≤ g13 ∧ g4 < g13 ∧ g5 < g13 ∧ g6 < g13 ∧ g7 < g13 ∧ g8 < g13 ∧ g9 < g13 ∧ g10 < g13 ∧ g11 < g13 ∧ g12 ≠ g13 from ⟨Nat.le_trans hb0.size hng13, Nat.lt_of_lt_of_le lg4 hng13, Nat.lt_of_lt_of_le lg5 hng13, Nat.lt_of_lt_of_le lg6 hng13, Nat.lt_of_lt_of_le lg7 hng13, Nat.lt_of_lt_of_le lg8 hng13, Nat.lt_of_lt_of_le lg9 hng13, Nat.lt_of_lt_of_le lg10 hng13, Nat.lt_of_lt_of_le lg11 hng13, (fun e => hne 8 9 rfl rfl (by decide) (by decide) (by decide) (by rw [h8, h9, e]))⟩)
  simp only [h3, h7, h8, h9]
  clear h3 h7 h8 h9 hne
  replace bg4 := bg4.below hb lg4
  replace bg5 := bg5.below hb lg5
  replace bg6 := bg6.below hb lg6
  replace bg7 := bg7.below hb lg7
  replace bg8 := bg8.below hb lg8
  replace bg9 := bg9.below hb lg9
  replace bg10 := bg10.below hb lg10
  replace bg11 := bg11.below hb lg11
  replace hb0 := hb0.trans (hb.mono hb0.size)
  replace lg4 := bg4.lt
  replace lg5 := bg5.lt
  replace lg6 := bg6.lt
  replace lg7 := bg7.lt
  replace lg8 := bg8.lt
  replace lg9 := bg9.lt
  replace lg10 := bg10.lt
  replace lg11 := bg11.lt
  clear hb
  have lg12 := bg12.lt
  clear hng12
  have lg13 := bg13.lt
  clear hng13
  refine wpList_store_blk rfl 29 (.tmp 12) (.tmp 42) rfl rfl g12 (kC r42) rfl rfl _ _ bg12 (infoN6.trans (by rw [kC_length])) (by first | with_reducible rfl | rw [kC_length, kC_length] | rw [kC_length]) (oneK4 _) ?_
  intro w16 bn hgs
  replace bg4 := bg4.grown hgs (fun e => Nat.ne_of_lt og12.out.2.1 (Option.some.inj e))
  replace bg5 := bg5.grown hgs (fun e => Nat.ne_of_lt og12.out.2.2.1 (Option.some.inj e))
  replace bg6 := bg6.grown hgs (fun e => Nat.ne_of_lt og12.out.2.2.2.1 (Option.some.inj e))
  replace bg7 := bg7.grown hgs (fun e => Nat.ne_of_lt og12.out.2.2.2.2.1 (Option.some.inj e))
  replace bg8 := bg8.grown hgs (fun e => Nat.ne_of_lt og12.out.2.2.2.2.2.1 (Option.some.inj e))
  replace bg9 := bg9.grown hgs (fun e => Nat.ne_of_lt og12.out.2.2.2.2.2.2.1 (Option.some.inj e))
  replace bg10 := bg10.grown hgs (fun e => Nat.ne_of_lt og12.out.2.2.2.2.2.2.2.1 (Option.some.inj e))
  replace bg11 := bg11.grown hgs (fun e => Nat.ne_of_lt og12.out.2.2.2.2.2.2.2.2 (Option.some.inj e))
  replace bg13 := bg13.grown hgs (fun e => og13.out.2.2.2.2.2.2.2.2.2 (Option.some.inj e).symm)
  replace hb0 := below_new hb0 hgs og12.out.1 hb0.size
  clear hgs bg12
  have bg12 := bn
  clear bn
  replace lg4 := bg4.lt
  replace lg5 := bg5.lt
  replace lg6 := bg6.lt
  replace lg7 := bg7.lt
  replace lg8 := bg8.lt
  replace lg9 := bg9.lt
  replace lg10 := bg10.lt
  replace lg11 := bg11.lt
  replace lg12 := bg12.lt
  replace lg13 := bg13.lt
  try simp only [Act.put]
  refine wpList_store_blk rfl 29 (.tmp 13) (.tmp 46) rfl rfl g13 (kC r46) rfl rfl _ _ bg13 (infoN6.trans (by rw [kC_length])) (by first | with_reducible rfl | rw [kC_length, kC_length] | rw [kC_length]) (oneK4 _) ?_
  intro w17 bn hgs
  replace bg4 := bg4.grown hgs (fun e => Nat.ne_of_lt og13.out.2.1 (Option.some.inj e))
  replace bg5 := bg5.grown hgs (fun e => Nat.ne_of_lt og13.out.2.2.1 (Option.some.inj e))
  replace bg6 := bg6.grown hgs (fun e => Nat.ne_of_lt og13.out.2.2.2.1 (Option.some.inj e))
  replace bg7 := bg7.grown hgs (fun e => Nat.ne_of_lt og13.out.2.2.2.2.1 (Option.some.inj e))
  replace bg8 := bg8.grown hgs (fun e => Nat.ne_of_lt og13.out.2.2.2.2.2.1 (Option.some.inj e))
  replace bg9 := bg9.grown hgs (fun e => Nat.ne_of_lt og13.out.2.2.2.2.2.2.1 (Option.some.inj e))
  replace bg10 := bg10.grown hgs (fun e => Nat.ne_of_lt og13.out.2.2.2.2.2.2.2.1 (Option.some.inj e))
  replace bg11 := bg11.grown hgs (fun e => Nat.ne_of_lt og13.out.2.2.2.2.2.2.2.2.1 (Option.some.inj e))
  replace bg12 := bg12.grown hgs (fun e => og13.out.2.2.2.2.2.2.2.2.2 (Option.some.inj e))
  replace hb0 := below_new hb0 hgs og13.out.1 hb0.size
  clear hgs bg13
  have bg13 := bn
  clear bn
  replace lg4 := bg4.lt
  replace lg5 := bg5.lt
  replace lg6 := bg6.lt
  replace lg7 := bg7.lt
  replace lg8 := bg8.lt
  replace lg9 := bg9.lt
  replace lg10 := bg10.lt
  replace lg11 := bg11.lt
  replace lg12 := bg12.lt
  replace lg13 := bg13.lt
  try simp only [Act.put]
  go_upto_region 8 with (fail)
  apply wp_plain_once (m := 3) (J := [[], [], [0, 1]]) (Je := [2]) (Rs := [Is _, Is _, Is _])
  · kernel_rfl
  · kernel_rfl
  · intro u
    simp only [List.take_succ_cons, List.take_zero, List.map_cons, List.map_nil, fillU, List.setIfInBounds_toArray, List.set_cons_zero, List.set_cons_succ, Nat.reduceAdd]
    exact rfl
  · simp only [List.take_succ_cons, List.take_zero]
    refine ⟨fun u W hb hd K hK => ?_, ?_⟩
    · clear hd
      rw [if_pos (by rfl)]
      refine wp_load_mid 29 (.tmp 4) rfl g4 0 rfl (kC x1) _ (rangeAt_of_blk (bg4.below hb lg4)) Tryd.underlying29 rfl (infoN6.trans (by rw [kC_length])) ?_
      exact hK _ _ _ rfl (Below.refl _ _) IsOut
    refine ⟨fun u W hb hd K hK => ?_, ?_⟩
    · clear hd
      rw [if_pos (by rfl)]
      refine wp_load_mid 29 (.tmp 6) rfl g6 0 rfl (kC x1) _ (rangeAt_of_blk (bg6.below hb lg6)) Tryd.underlying29 rfl (infoN6.trans (by rw [kC_length])) ?_
      exact hK _ _ _ rfl (Below.refl _ _) IsOut
    refine ⟨fun u W hb hd K hK => ?_, ?_⟩
    · simp only [Facts, nthR, Is, and_true] at hd
      simp only [hd] at hK ⊢
      clear hd
      have he : (Op.equalIn 10000 29 (.agg (kC x1).toArray) (.agg (kC x1).toArray)).run Tryd.prog W = .ok true W := EqK6 (Lib.hid (decide_eq_true rfl)) W
      go_simp
      apply hK
      · simp only [Act.put, List.setIfInBounds_toArray, List.set_cons_zero, List.set_cons_succ]
        exact rfl
      · exact Below.refl _ _
      · exact IsOut
    exact trivial
  · exact (.is (.is (.is .nil)))
  intro u w18 hb hd
  simp only [List.drop_succ_cons, List.drop_zero]
  simp only [Facts, nthR, Is, and_true] at hd
  have h2 := hd
  clear hd
  simp only [h2]
  clear h2
  replace bg4 := bg4.below hb lg4
  replace bg5 := bg5.below hb lg5
  replace bg6 := bg6.below hb lg6
  replace bg7 := bg7.below hb lg7
  replace bg8 := bg8.below hb lg8
  replace bg9 := bg9.below hb lg9
  replace bg10 := bg10.below hb lg10
  replace bg11 := bg11.below hb lg11
  replace bg12 := bg12.below hb lg12
  replace bg13 := bg13.below hb lg13
  replace hb0 := hb0.trans (hb.mono hb0.size)
  replace lg4 := bg4.lt
  replace lg5 := bg5.lt
  replace lg6 := bg6.lt
  replace lg7 := bg7.lt
  replace lg8 := bg8.lt
  replace lg9 := bg9.lt
  replace lg10 := bg10.lt
  replace lg11 := bg11.lt
  replace lg12 := bg12.lt
  replace lg13 := bg13.lt
  clear hb
  go_upto_region 9 with (fail)
  obtain ⟨r53, hr53⟩ : ∃ s : K, Hid (s = y1 + y2) := ⟨_, Lib.hid rfl⟩
  apply wp_region_once_tail (m := 6) (Z := []) (D := [[], [], [], [0, 1, 2], [], [0, 1, 2, 3, 4]]) (J := [[], [], [], [0, 1, 2], [], [3, 4]]) (Je := [5]) (Rs := [Is _, Is _, Is _, Is _, Is _, Is _])
  · kernel_rfl
  · kernel_rfl
  · kernel_rfl
  · kernel_rfl
  · kernel_rfl
  · kernel_rfl
  · kernel_rfl
  · exact fun h => absurd rfl h
  · intro u
    simp only [List.take_succ_cons, List.take_zero, List.map_cons, List.map_nil, fillU, List.setIfInBounds_toArray, List.set_cons_zero, List.set_cons_succ, Nat.reduceAdd]
    exact rfl
  · simp only [List.take_succ_cons, List.take_zero]
    refine ⟨fun u W hb hd K hK => ?_, ?_⟩
    · clear hd
      rw [if_pos (by rfl)]
      refine wp_load_mid 29 (.tmp 5) rfl g5 0 rfl (kC y1) _ (rangeAt_of_blk (bg5.below hb lg5)) Tryd.underlying29 rfl (infoN6.trans (by rw [kC_length])) ?_
      exact hK _ _ _ rfl (Below.refl _ _) IsOut
    refine ⟨fun u W hb hd K hK => ?_, ?_⟩
    · clear hd
      rw [if_pos (by rfl)]
      refine wp_load_mid 29 (.tmp 7) rfl g7 0 rfl (kC y2) _ (rangeAt_of_blk (bg7.below hb lg7)) Tryd.underlying29 rfl (infoN6.trans (by rw [kC_length])) ?_
      exact hK _ _ _ rfl (Below.refl _ _) IsOut
    refine ⟨fun u W hb hd K hK => ?_, ?_⟩
    · clear hd
      rw [if_pos (by rfl)]
      refine wp_load_mid 29 (.tmp 10) rfl g10 0 rfl (nC primeP) _ (rangeAt_of_blk (bg10.below hb lg10)) Tryd.underlying29 rfl (infoN6.trans (by rw [nC_length])) ?_
      exact hK _ _ _ rfl (Below.refl _ _) IsOut
    refine ⟨fun u W hb hd K hK => ?_, ?_⟩
    · simp only [Facts, nthR, Is, and_true] at hd
      simp only [hd] at hK ⊢
      clear hd
      go_simp
      refine (RAddK hr53 _).mono ?_
      rintro e wy ⟨rfl, hby⟩
      exact hK _ _ _ rfl hby IsOut
    refine ⟨fun u W hb hd K hK => ?_, ?_⟩
    · clear hd
      rw [if_pos (by rfl)]
      refine wp_load_mid 29 (.tmp 11) rfl g11 0 rfl (kC 0) _ (rangeAt_of_blk (bg11.below hb lg11)) Tryd.underlying29 rfl (infoN6.trans (by rw [kC_length])) ?_
      exact hK _ _ _ rfl (Below.refl _ _) IsOut
    refine ⟨fun u W hb hd K hK => ?_, ?_⟩
    · simp only [Facts, nthR, Is, and_true] at hd
      simp only [hd] at hK ⊢
      clear hd
      have he : (Op.equalIn 10000 29 (.agg (kC r53).toArray) (.agg (kC 0).toArray)).run Tryd.prog W = .ok false W := EqK6 (Lib.hid (decide_eq_false (fun e => hz.out (hr53.out.symm.trans e)))) W
      go_simp
      apply hK
      · simp only [Act.put, List.setIfInBounds_toArray, List.set_cons_zero, List.set_cons_succ]
        exact rfl
      · exact Below.refl _ _
      · exact IsOut
    exact trivial
  · skip
    exact trivial
  · exact (.is (.is (.is (.is (.is (.is .nil))))))
  intro u w19 hb hd
  simp only [List.drop_succ_cons, List.drop_zero]
  simp only [Facts, nthR, Is, and_true] at hd
  have h5 := hd
  clear hd
  simp only [h5]
  clear h5
  replace bg4 := bg4.below hb lg4
  replace bg5 := bg5.below hb lg5
  replace bg6 := bg6.below hb lg6
  replace bg7 := bg7.below hb lg7
  replace bg8 := bg8.below hb lg8
  replace bg9 := bg9.below hb lg9
  replace bg10 := bg10.below hb lg10
  replace bg11 := bg11.below hb lg11
  replace bg12 := bg12.below hb lg12
  replace bg13 := bg13.below hb lg13
  replace hb0 := hb0.trans (hb.mono hb0.size)
  replace lg4 := bg4.lt
  replace lg5 := bg5.lt
  replace lg6 := bg6.lt
  replace lg7 := bg7.lt
  replace lg8 := bg8.lt
  replace lg9 := bg9.lt
  replace lg10 := bg10.lt
  replace lg11 := bg11.lt
  replace lg12 := bg12.lt
  replace lg13 := bg13.lt
  clear hb
  go_upto_region 11 with (fail)
  obtain ⟨r62, hr62⟩ : ∃ s : K, Hid (s = x1 * x1) := ⟨_, Lib.hid rfl⟩
  obtain ⟨r65, hr65⟩ : ∃ s : K, Hid (s = r62 - 1) := ⟨_, Lib.hid rfl⟩
  obtain ⟨r67, hr67⟩ : ∃ s : K, Hid (s = 3 * r65) := ⟨_, Lib.hid rfl⟩
  apply wp_region_once_tail (m := 10) (Z := []) (D := [[], [], [], [], [1, 2, 3], [], [], [1, 2, 3, 4, 5, 6], [], [0, 1, 2, 3, 4, 5, 6, 7, 8], [0, 1, 2, 3, 4, 5, 6, 7, 8, 9]]) (J := [[], [], [], [], [1, 2, 3], [], [], [4, 5, 6], [], [0, 7, 8]]) (Je := [9]) (Rs := [Is _, Is _, Is _, Is _, Is _, Is _, Is _, Is _, Is _, Is _])
  · kernel_rfl
  · kernel_rfl
  · kernel_rfl
  · kernel_rfl
  · kernel_rfl
  · kernel_rfl
  · kernel_rfl
  · exact fun h => absurd rfl h
  · intro u
    simp only [List.take_succ_cons, List.take_zero, List.map_cons, List.map_nil, fillU, List.setIfInBounds_toArray, List.set_cons_zero, List.set_cons_succ, Nat.reduceAdd]
    exact rfl
  · simp only [List.take_succ_cons, List.take_zero]
    refine ⟨fun u W hb hd K hK => ?_, ?_⟩
    · clear hd
      rw [if_pos (by rfl)]
      refine wp_builtV 29 _ rfl [(0, .int .u64 3)] rfl (kC 3).toArray built6_3 ?_
      exact hK _ _ _ rfl (Below.refl _ _) IsOut
    refine ⟨fun u W hb hd K hK => ?_, ?_⟩
    · clear hd
      rw [if_pos (by rfl)]
      refine wp_load_mid 29 (.tmp 4) rfl g4 0 rfl (kC x1) _ (rangeAt_of_blk (bg4.below hb lg4)) Tryd.underlying29 rfl (infoN6.trans (by rw [kC_length])) ?_
      exact hK _ _ _ rfl (Below.refl _ _) IsOut
    refine ⟨fun u W hb hd K hK => ?_, ?_⟩
    · clear hd
      rw [if_pos (by rfl)]
      refine wp_load_mid 29 (.tmp 4) rfl g4 0 rfl (kC x1) _ (rangeAt_of_blk (bg4.below hb lg4)) Tryd.underlying29 rfl (infoN6.trans (by rw [kC_length])) ?_
      exact hK _ _ _ rfl (Below.refl _ _) IsOut
    refine ⟨fun u W hb hd K hK => ?_, ?_⟩
    · clear hd
      rw [if_pos (by rfl)]
      refine wp_load_mid 29 (.tmp 10) rfl g10 0 rfl (nC primeP) _ (rangeAt_of_blk (bg10.below hb lg10)) Tryd.underlying29 rfl (infoN6.trans (by rw [nC_length])) ?_
      exact hK _ _ _ rfl (Below.refl _ _) IsOut
    refine ⟨fun u W hb hd K hK => ?_, ?_⟩
    · simp only [Facts, nthR, Is, and_true] at hd
      simp only [hd] at hK ⊢
      clear hd
      go_simp
      refine (RMulK hr62 _).mono ?_
      rintro e wy ⟨rfl, hby⟩
      exact hK _ _ _ rfl hby IsOut
    refine ⟨fun u W hb hd K hK => ?_, ?_⟩
    · clear hd
      rw [if_pos (by rfl)]
      refine wp_builtV 29 _ rfl [(0, .int .u64 1)] rfl (kC 1).toArray built6_1 ?_
      exact hK _ _ _ rfl (Below.refl _ _) IsOut
    refine ⟨fun u W hb hd K hK => ?_, ?_⟩
    · clear hd
      rw [if_pos (by rfl)]
      refine wp_load_mid 29 (.tmp 10) rfl g10 0 rfl (nC primeP) _ (rangeAt_of_blk (bg10.below hb lg10)) Tryd.underlying29 rfl (infoN6.trans (by rw [nC_length])) ?_
      exact hK _ _ _ rfl (Below.refl _ _) IsOut
    refine ⟨fun u W hb hd K hK => ?_, ?_⟩
    · simp only [Facts, nthR, Is, and_true] at hd
      simp only [hd] at hK ⊢
      clear hd
      go_simp
      refine (RSubK hr65 _).mono ?_
      rintro e wy ⟨rfl, hby⟩
      exact hK _ _ _ rfl hby IsOut
    refine ⟨fun u W hb hd K hK => ?_, ?_⟩
    · clear hd
      rw [if_pos (by rfl)]
      refine wp_load_mid 29 (.tmp 10) rfl g10 0 rfl (nC primeP) _ (rangeAt_of_blk (bg10.below hb lg10)) Tryd.underlying29 rfl (infoN6.trans (by rw [nC_length])) ?_
      exact hK _ _ _ rfl (Below.refl _ _) IsOut
    refine ⟨fun u W hb hd K hK => ?_, ?_⟩
    · simp only [Facts, nthR, Is, and_true] at hd
      simp only [hd] at hK ⊢
      clear hd
      go_simp
      refine (RMulK hr67 _).mono ?_
      rintro e wy ⟨rfl, hby⟩
      exact hK _ _ _ rfl hby IsOut
    exact trivial
  · skip
    exact trivial
  · exact (.is (.is (.is (.is (.is (.is (.is (.is (.is (.is .nil))))))))))
  intro u w20 hb hd
  simp only [List.drop_succ_cons, List.drop_zero]
  simp only [Facts, nthR, Is, and_true] at hd
  have h9 := hd
  clear hd
  simp only [h9]
  clear h9
  replace bg4 := bg4.below hb lg4
  replace bg5 := bg5.below hb lg5
  replace bg6 := bg6.below hb lg6
  replace bg7 := bg7.below hb lg7
  replace bg8 := bg8.below hb lg8
  replace bg9 := bg9.below hb lg9
  replace bg10 := bg10.below hb lg10
  replace bg11 := bg11.below hb lg11
  replace bg12 := bg12.below hb lg12
  replace bg13 := bg13.below hb lg13
  replace hb0 := hb0.trans (hb.mono hb0.size)
  replace lg4 := bg4.lt
  replace lg5 := bg5.lt
  replace lg6 := bg6.lt
  replace lg7 := bg7.lt
  replace lg8 := bg8.lt
  replace lg9 := bg9.lt
  replace lg10 := bg10.lt
  replace lg11 := bg11.lt
  replace lg12 := bg12.lt
  replace lg13 := bg13.lt
  clear hb
  refine wpList_store_blk rfl 29 (.tmp 12) (.tmp 67) rfl rfl g12 (kC r67) rfl rfl _ _ bg12 (infoN6.trans (by rw [kC_length])) (by first | with_reducible rfl | rw [kC_length, kC_length] | rw [kC_length]) (oneK4 _) ?_
  intro w21 bn hgs
  replace bg4 := bg4.grown hgs (fun e => Nat.ne_of_lt og12.out.2.1 (Option.some.inj e))
  replace bg5 := bg5.grown hgs (fun e => Nat.ne_of_lt og12.out.2.2.1 (Option.some.inj e))
  replace bg6 := bg6.grown hgs (fun e => Nat.ne_of_lt og12.out.2.2.2.1 (Option.some.inj e))
  replace bg7 := bg7.grown hgs (fun e => Nat.ne_of_lt og12.out.2.2.2.2.1 (Option.some.inj e))
  replace bg8 := bg8.grown hgs (fun e => Nat.ne_of_lt og12.out.2.2.2.2.2.1 (Option.some.inj e))
  replace bg9 := bg9.grown hgs (fun e => Nat.ne_of_lt og12.out.2.2.2.2.2.2.1 (Option.some.inj e))
  replace bg10 := bg10.grown hgs (fun e => Nat.ne_of_lt og12.out.2.2.2.2.2.2.2.1 (Option.some.inj e))
  replace bg11 := bg11.grown hgs (fun e => Nat.ne_of_lt og12.out.2.2.2.2.2.2.2.2 (Option.some.inj e))
  replace bg13 := bg13.grown hgs (fun e => og13.out.2.2.2.2.2.2.2.2.2 (Option.some.inj e).symm)
  replace hb0 := below_new hb0 hgs og12.out.1 hb0.size
  clear hgs bg12
  have bg12 := bn
  clear bn
  replace lg4 := bg4.lt
  replace lg5 := bg5.lt
  replace lg6 := bg6.lt
  replace lg7 := bg7.lt
  replace lg8 := bg8.lt
  replace lg9 := bg9.lt
  replace lg10 := bg10.lt
  replace lg11 := bg11.lt
  replace lg12 := bg12.lt
  replace lg13 := bg13.lt
  try simp only [Act.put]
  go_upto_region 12 with (fail)
  obtain ⟨r71, hr71⟩ : ∃ s : K, Hid (s = y1 + y1) := ⟨_, Lib.hid rfl⟩
  apply wp_plain_once (m := 4) (J := [[], [], [], [0, 1, 2]]) (Je := [3]) (Rs := [Is _, Is _, Is _, Is _])
  · kernel_rfl
  · kernel_rfl
  · intro u
    simp only [List.take_succ_cons, List.take_zero, List.map_cons, List.map_nil, fillU, List.setIfInBounds_toArray, List.set_cons_zero, List.set_cons_succ, Nat.reduceAdd]
    exact rfl
  · simp only [List.take_succ_cons, List.take_zero]
    refine ⟨fun u W hb hd K hK => ?_, ?_⟩
    · clear hd
      rw [if_pos (by rfl)]
      refine wp_load_mid 29 (.tmp 5) rfl g5 0 rfl (kC y1) _ (rangeAt_of_blk (bg5.below hb lg5)) Tryd.underlying29 rfl (infoN6.trans (by rw [kC_length])) ?_
      exact hK _ _ _ rfl (Below.refl _ _) IsOut
    refine ⟨fun u W hb hd K hK => ?_, ?_⟩
    · clear hd
      rw [if_pos (by rfl)]
      refine wp_load_mid 29 (.tmp 5) rfl g5 0 rfl (kC y1) _ (rangeAt_of_blk (bg5.below hb lg5)) Tryd.underlying29 rfl (infoN6.trans (by rw [kC_length])) ?_
      exact hK _ _ _ rfl (Below.refl _ _) IsOut
    refine ⟨fun u W hb hd K hK => ?_, ?_⟩
    · clear hd
      rw [if_pos (by rfl)]
      refine wp_load_mid 29 (.tmp 10) rfl g10 0 rfl (nC primeP) _ (rangeAt_of_blk (bg10.below hb lg10)) Tryd.underlying29 rfl (infoN6.trans (by rw [nC_length])) ?_
      exact hK _ _ _ rfl (Below.refl _ _) IsOut
    refine ⟨fun u W hb hd K hK => ?_, ?_⟩
    · simp only [Facts, nthR, Is, and_true] at hd
      simp only [hd] at hK ⊢
      clear hd
      go_simp
      refine (RAddK hr71 _).mono ?_
      rintro e wy ⟨rfl, hby⟩
      exact hK _ _ _ rfl hby IsOut
    exact trivial
  · exact (.is (.is (.is (.is .nil))))
  intro u w22 hb hd
  simp only [List.drop_succ_cons, List.drop_zero]
  simp only [Facts, nthR, Is, and_true] at hd
  have h3 := hd
  clear hd
  simp only [h3]
  clear h3
  replace bg4 := bg4.below hb lg4
  replace bg5 := bg5.below hb lg5
  replace bg6 := bg6.below hb lg6
  replace bg7 := bg7.below hb lg7
  replace bg8 := bg8.below hb lg8
  replace bg9 := bg9.below hb lg9
  replace bg10 := bg10.below hb lg10
  replace bg11 := bg11.below hb lg11
  replace bg12 := bg12.below hb lg12
  replace bg13 := bg13.below hb lg13
  replace hb0 := hb0.trans (hb.mono hb0.size)
  replace lg4 := bg4.lt
  replace lg5 := bg5.lt
  replace lg6 := bg6.lt
  replace lg7 := bg7.lt
  replace lg8 := bg8.lt
  replace lg9 := bg9.lt
  replace lg10 := bg10.lt
  replace lg11 := bg11.lt
  replace lg12 := bg12.lt
  replace lg13 := bg13.lt
  clear hb
  refine wpList_store_blk rfl 29 (.tmp 13) (.tmp 71) rfl rfl g13 (kC r71) rfl rfl _ _ bg13 (infoN6.trans (by rw [kC_length])) (by first | with_reducible rfl | rw [kC_length, kC_length] | rw [kC_length]) (oneK4 _) ?_
  intro w23 bn hgs
  replace bg4 := bg4.grown hgs (fun e => Nat.ne_of_lt og13.out.2.1 (Option.some.inj e))
  replace bg5 := bg5.grown hgs (fun e => Nat.ne_of_lt og13.out.2.2.1 (Option.some.inj e))
  replace bg6 := bg6.grown hgs (fun e => Nat.ne_of_lt og13.out.2.2.2.1 (Option.some.inj e))
  replace bg7 := bg7.grown hgs (fun e => Nat.ne_of_lt og13.out.2.2.2.2.1 (Option.some.inj e))
  replace bg8 := bg8.grown hgs (fun e => Nat.ne_of_lt og13.out.2.2.2.2.2.1 (Option.some.inj e))
  replace bg9 := bg9.grown hgs (fun e => Nat.ne_of_lt og13.out.2.2.2.2.2.2.1 (Option.some.inj e))
  replace bg10 := bg10.grown hgs (fun e => Nat.ne_of_lt og13.out.2.2.2.2.2.2.2.1 (Option.some.inj e))
  replace bg11 := bg11.grown hgs (fun e => Nat.ne_of_lt og13.out.2.2.2.2.2.2.2.2.1 (Option.some.inj e))
  replace bg12 := bg12.grown hgs (fun e => og13.out.2.2.2.2.2.2.2.2.2 (Option.some.inj e))
  replace hb0 := below_new hb0 hgs og13.out.1 hb0.size
  clear hgs bg13
  have bg13 := bn
  clear bn
  replace lg4 := bg4.lt
  replace lg5 := bg5.lt
  replace lg6 := bg6.lt
  replace lg7 := bg7.lt
  replace lg8 := bg8.lt
  replace lg9 := bg9.lt
  replace lg10 := bg10.lt
  replace lg11 := bg11.lt
  replace lg12 := bg12.lt
  replace lg13 := bg13.lt
  try simp only [Act.put]
  go_upto_region 13 with (fail)
  obtain ⟨r75, hr75⟩ : ∃ s : K, Hid (s = 0 - 2) := ⟨_, Lib.hid rfl⟩
  apply wp_plain_once (m := 4) (J := [[], [], [], [0, 1, 2]]) (Je := [3]) (Rs := [Is _, Is _, Is _, Is _])
  · kernel_rfl
  · kernel_rfl
  · intro u
    simp only [List.take_succ_cons, List.take_zero, List.map_cons, List.map_nil, fillU, List.setIfInBounds_toArray, List.set_cons_zero, List.set_cons_succ, Nat.reduceAdd]
    exact rfl
  · simp only [List.take_succ_cons, List.take_zero]
    refine ⟨fun u W hb hd K hK => ?_, ?_⟩
    · clear hd
      rw [if_pos (by rfl)]
      refine wp_load_mid 29 (.tmp 11) rfl g11 0 rfl (kC 0) _ (rangeAt_of_blk (bg11.below hb lg11)) Tryd.underlying29 rfl (infoN6.trans (by rw [kC_length])) ?_
      exact hK _ _ _ rfl (Below.refl _ _) IsOut
    refine ⟨fun u W hb hd K hK => ?_, ?_⟩
    · clear hd
      rw [if_pos (by rfl)]
      refine wp_builtV 29 _ rfl [(0, .int .u64 2)] rfl (kC 2).toArray built6_2 ?_
      exact hK _ _ _ rfl (Below.refl _ _) IsOut
    refine ⟨fun u W hb hd K hK => ?_, ?_⟩
    · clear hd
      rw [if_pos (by rfl)]
      refine wp_load_mid 29 (.tmp 10) rfl g10 0 rfl (nC primeP) _ (rangeAt_of_blk (bg10.below hb lg10)) Tryd.underlying29 rfl (infoN6.trans (by rw [nC_length])) ?_
      exact hK _ _ _ rfl (Below.refl _ _) IsOut
    refine ⟨fun u W hb hd K hK => ?_, ?_⟩
    · simp only [Facts, nthR, Is, and_true] at hd
      simp only [hd] at hK ⊢
      clear hd
      go_simp
      refine (RSubK hr75 _).mono ?_
      rintro e wy ⟨rfl, hby⟩
      exact hK _ _ _ rfl hby IsOut
    exact trivial
  · exact (.is (.is (.is (.is .nil))))
  intro u w24 hb hd
  simp only [List.drop_succ_cons, List.drop_zero]
  simp only [Facts, nthR, Is, and_true] at hd
  have h3 := hd
  clear hd
  simp only [h3]
  clear h3
  replace bg4 := bg4.below hb lg4
  replace bg5 := bg5.below hb lg5
  replace bg6 := bg6.below hb lg6
  replace bg7 := bg7.below hb lg7
  replace bg8 := bg8.below hb lg8
  replace bg9 := bg9.below hb lg9
  replace bg10 := bg10.below hb lg10
  replace bg11 := bg11.below hb lg11
  replace bg12 := bg12.below hb lg12
  replace bg13 := bg13.below hb lg13
  replace hb0 := hb0.trans (hb.mono hb0.size)
  replace lg4 := bg4.lt
  replace lg5 := bg5.lt
  replace lg6 := bg6.lt
  replace lg7 := bg7.lt
  replace lg8 := bg8.lt
  replace lg9 := bg9.lt
  replace lg10 := bg10.lt
  replace lg11 := bg11.lt
  replace lg12 := bg12.lt
  replace lg13 := bg13.lt
  clear hb
  refine wpList_new_blk rfl 29 rfl (kC 0) zeroN6k ?_
  intro g14 w25 hg bg14 hb
  have og14 := Lib.hid (show w.heap.size ≤ g14 ∧ g4 < g14 ∧ g5 < g14 ∧ g6 < g14 ∧ g7 < g14 ∧ g8 < g14 ∧ g9 < g14 ∧ g10 < g14 ∧ g11 < g14 ∧ g12 < g14 ∧ g13 < g14 from ⟨Nat.le_trans hb0.size (Nat.le_of_eq hg.symm), Nat.lt_of_lt_of_le lg4 (Nat.le_of_eq hg.symm), Nat.lt_of_lt_of_le lg5 (Nat.le_of_eq hg.symm), Nat.lt_of_lt_of_le lg6 (Nat.le_of_eq hg.symm), Nat.lt_of_lt_of_le lg7 (Nat.le_of_eq hg.symm), Nat.lt_of_lt_of_le lg8 (Nat.le_of_eq hg.symm), Nat.lt_of_lt_of_le lg9 (Nat.le_of_eq hg.symm), Nat.lt_of_lt_of_le lg10 (Nat.le_of_eq hg.symm), Nat.lt_of_lt_of_le lg11 (Nat.le_of_eq hg.symm), Nat.lt_of_lt_of_le lg12 (Nat.le_of_eq hg.symm), Nat.lt_of_lt_of_le lg13 (Nat.le_of_eq hg.symm)⟩)
  clear hg
  replace bg4 := bg4.below hb lg4
  replace bg5 := bg5.below hb lg5
  replace bg6 := bg6.below hb lg6
  replace bg7 := bg7.below hb lg7
  replace bg8 := bg8.below hb lg8
  replace bg9 := bg9.below hb lg9
  replace bg10 := bg10.below hb lg10
  replace bg11 := bg11.below hb lg11
  replace bg12 := bg12.below hb lg12
  replace bg13 := bg13.below hb lg13
  replace hb0 := hb0.trans (hb.mono hb0.size)
  replace lg4 := bg4.lt
  replace lg5 := bg5.lt
  replace lg6 := bg6.lt
  replace lg7 := bg7.lt
  replace lg8 := bg8.lt
  replace lg9 := bg9.lt
  replace lg10 := bg10.lt
  replace lg11 := bg11.lt
  replace lg12 := bg12.lt
  replace lg13 := bg13.lt
  clear hb
  have lg14 := bg14.lt
  try simp only [Act.put, List.setIfInBounds_toArray, List.set_cons_zero, List.set_cons_succ]
  refine wpList_store_blk rfl 29 (.tmp 14) (.tmp 75) rfl rfl g14 (kC r75) rfl rfl _ _ bg14 (infoN6.trans (by rw [kC_length])) (by first | with_reducible rfl | rw [kC_length, kC_length] | rw [kC_length]) (oneK4 _) ?_
  intro w26 bn hgs
  replace bg4 := bg4.grown hgs (fun e => Nat.ne_of_lt og14.out.2.1 (Option.some.inj e))
  replace bg5 := bg5.grown hgs (fun e => Nat.ne_of_lt og14.out.2.2.1 (Option.some.inj e))
  replace bg6 := bg6.grown hgs (fun e => Nat.ne_of_lt og14.out.2.2.2.1 (Option.some.inj e))
  replace bg7 := bg7.grown hgs (fun e => Nat.ne_of_lt og14.out.2.2.2.2.1 (Option.some.inj e))
  replace bg8 := bg8.grown hgs (fun e => Nat.ne_of_lt og14.out.2.2.2.2.2.1 (Option.some.inj e))
  replace bg9 := bg9.grown hgs (fun e => Nat.ne_of_lt og14.out.2.2.2.2.2.2.1 (Option.some.inj e))
  replace bg10 := bg10.grown hgs (fun e => Nat.ne_of_lt og14.out.2.2.2.2.2.2.2.1 (Option.some.inj e))
  replace bg11 := bg11.grown hgs (fun e => Nat.ne_of_lt og14.out.2.2.2.2.2.2.2.2.1 (Option.some.inj e))
  replace bg12 := bg12.grown hgs (fun e => Nat.ne_of_lt og14.out.2.2.2.2.2.2.2.2.2.1 (Option.some.inj e))
  replace bg13 := bg13.grown hgs (fun e => Nat.ne_of_lt og14.out.2.2.2.2.2.2.2.2.2.2 (Option.some.inj e))
  replace hb0 := below_new hb0 hgs og14.out.1 hb0.size
  clear hgs bg14
  have bg14 := bn
  clear bn
  replace lg4 := bg4.lt
  replace lg5 := bg5.lt
  replace lg6 := bg6.lt
  replace lg7 := bg7.lt
  replace lg8 := bg8.lt
  replace lg9 := bg9.lt
  replace lg10 := bg10.lt
  replace lg11 := bg11.lt
  replace lg12 := bg12.lt
  replace lg13 := bg13.lt
  replace lg14 := bg14.lt
  try simp only [Act.put]
  go_upto_region 14 with (fail)
  obtain ⟨r80, hr80⟩ : ∃ s : K, Hid (s = invK r71) := ⟨_, Lib.hid rfl⟩
  obtain ⟨r82, hr82⟩ : ∃ s : K, Hid (s = r67 * r80) := ⟨_, Lib.hid rfl⟩
  apply wp_region_once_tail (m := 8) (Z := []) (D := [[], [], [], [], [1, 2, 3], [], [0, 1, 2, 3, 4, 5], [], [0, 1, 2, 3, 4, 5, 6, 7]]) (J := [[], [], [], [], [1, 2, 3], [], [0, 4, 5], []]) (Je := [6, 7]) (Rs := [Is _, Is _, Is _, Is _, Is _, Is _, Is _, fun v V => ∃ g', v = .pointer (some ⟨g', 0, none⟩) ∧ w26.heap.size ≤ g' ∧ Blk V g' 29 (kC 0)])
  · kernel_rfl
  · kernel_rfl
  · kernel_rfl
  · kernel_rfl
  · kernel_rfl
  · kernel_rfl
  · kernel_rfl
  · exact fun h => absurd rfl h
  · intro u
    simp only [List.take_succ_cons, List.take_zero, List.map_cons, List.map_nil, fillU, List.setIfInBounds_toArray, List.set_cons_zero, List.set_cons_succ, Nat.reduceAdd]
    exact rfl
  · simp only [List.take_succ_cons, List.take_zero]
    refine ⟨fun u W hb hd K hK => ?_, ?_⟩
    · clear hd
      rw [if_pos (by rfl)]
      refine wp_load_mid 29 (.tmp 12) rfl g12 0 rfl (kC r67) _ (rangeAt_of_blk (bg12.below hb lg12)) Tryd.underlying29 rfl (infoN6.trans (by rw [kC_length])) ?_
      exact hK _ _ _ rfl (Below.refl _ _) IsOut
    refine ⟨fun u W hb hd K hK => ?_, ?_⟩
    · clear hd
      rw [if_pos (by rfl)]
      refine wp_load_mid 29 (.tmp 13) rfl g13 0 rfl (kC r71) _ (rangeAt_of_blk (bg13.below hb lg13)) Tryd.underlying29 rfl (infoN6.trans (by rw [kC_length])) ?_
      exact hK _ _ _ rfl (Below.refl _ _) IsOut
    refine ⟨fun u W hb hd K hK => ?_, ?_⟩
    · clear hd
      rw [if_pos (by rfl)]
      refine wp_load_mid 29 (.tmp 14) rfl g14 0 rfl (kC r75) _ (rangeAt_of_blk (bg14.below hb lg14)) Tryd.underlying29 rfl (infoN6.trans (by rw [kC_length])) ?_
      exact hK _ _ _ rfl (Below.refl _ _) IsOut
    refine ⟨fun u W hb hd K hK => ?_, ?_⟩
    · clear hd
      rw [if_pos (by rfl)]
      refine wp_load_mid 29 (.tmp 10) rfl g10 0 rfl (nC primeP) _ (rangeAt_of_blk (bg10.below hb lg10)) Tryd.underlying29 rfl (infoN6.trans (by rw [nC_length])) ?_
      exact hK _ _ _ rfl (Below.refl _ _) IsOut
    refine ⟨fun u W hb hd K hK => ?_, ?_⟩
    · simp only [Facts, nthR, Is, and_true] at hd
      simp only [hd] at hK ⊢
      clear hd
      go_simp
      refine (RInvK hr75 hr80 _).mono ?_
      rintro e wy ⟨rfl, hby⟩
      exact hK _ _ _ rfl hby IsOut
    refine ⟨fun u W hb hd K hK => ?_, ?_⟩
    · clear hd
      rw [if_pos (by rfl)]
      refine wp_load_mid 29 (.tmp 10) rfl g10 0 rfl (nC primeP) _ (rangeAt_of_blk (bg10.below hb lg10)) Tryd.underlying29 rfl (infoN6.trans (by rw [nC_length])) ?_
      exact hK _ _ _ rfl (Below.refl _ _) IsOut
    refine ⟨fun u W hb hd K hK => ?_, ?_⟩
    · simp only [Facts, nthR, Is, and_true] at hd
      simp only [hd] at hK ⊢
      clear hd
      go_simp
      refine (RMulK hr82 _).mono ?_
      rintro e wy ⟨rfl, hby⟩
      exact hK _ _ _ rfl hby IsOut
    refine ⟨fun u W hb hd K hK => ?_, ?_⟩
    · clear hd
      go_simp
      apply hK
      · simp only [Act.put, List.setIfInBounds_toArray, List.set_cons_zero, List.set_cons_succ]
        exact rfl
      · exact (Below.refl _ _).alloc (Nat.le_refl _) _
      · exact ⟨_, rfl, hb.size, Blk.new_of _ _ _ _ rfl⟩
    exact trivial
  · skip
    exact trivial
  · exact (.is (.is (.is (.is (.is (.is (.is (.cons (fun v V V' ⟨g', h1, h2, h3⟩ hb => ⟨g', h1, h2, h3.below hb h3.lt⟩) .nil))))))))
  intro u w27 hb hd
  simp only [List.drop_succ_cons, List.drop_zero]
  simp only [Facts, nthR, Is, and_true] at hd
  obtain ⟨h6, ⟨g15, h7, hng15, bg15⟩⟩ := hd
  have og15 := Lib.hid (show w.heap.size ≤ g15 ∧ g4 < g15 ∧ g5 < g15 ∧ g6 < g15 ∧ g7 < g15 ∧ g8 < g15 ∧ g9 < g15 ∧ g10 < g15 ∧ g11 < g15 ∧ g12 < g15 ∧ g13 < g15 ∧ g14 < g15 from ⟨Nat.le_trans hb0.size hng15, Nat.lt_of_lt_of_le lg4 hng15, Nat.lt_of_lt_of_le lg5 hng15, Nat.lt_of_lt_of_le lg6 hng15, Nat.lt_of_lt_of_le lg7 hng15, Nat.lt_of_lt_of_le lg8 hng15, Nat.lt_of_lt_of_le lg9 hng15, Nat.lt_of_lt_of_le lg10 hng15, Nat.lt_of_lt_of_le lg11 hng15, Nat.lt_of_lt_of_le lg12 hng15, Nat.lt_of_lt_of_le lg13 hng15, Nat.lt_of_lt_of_le lg14 hng15⟩)
  simp only [h6, h7]
  clear h6 h7
  replace bg4 := bg4.below hb lg4
  replace bg5 := bg5.below hb lg5
  replace bg6 := bg6.below hb lg6
  replace bg7 := bg7.below hb lg7
  replace bg8 := bg8.below hb lg8
  replace bg9 := bg9.below hb lg9
  replace bg10 := bg10.below hb lg10
  replace bg11 := bg11.below hb lg11
  replace bg12 := bg12.below hb lg12
  replace bg13 := bg13.below hb lg13
  replace bg14 := bg14.below hb lg14
  replace hb0 := hb0.trans (hb.mono hb0.size)
  replace lg4 := bg4.lt
  replace lg5 := bg5.lt
  replace lg6 := bg6.lt
  replace lg7 := bg7.lt
  replace lg8 := bg8.lt
  replace lg9 := bg9.lt
  replace lg10 := bg10.lt
  replace lg11 := bg11.lt
  replace lg12 := bg12.lt
  replace lg13 := bg13.lt
  replace lg14 := bg14.lt
  clear hb
  have lg15 := bg15.lt
  clear hng15
  refine wpList_store_blk rfl 29 (.tmp 15) (.tmp 82) rfl rfl g15 (kC r82) rfl rfl _ _ bg15 (infoN6.trans (by rw [kC_length])) (by first | with_reducible rfl | rw [kC_length, kC_length] | rw [kC_length]) (oneK4 _) ?_
  intro w28 bn hgs
  replace bg4 := bg4.grown hgs (fun e => Nat.ne_of_lt og15.out.2.1 (Option.some.inj e))
  replace bg5 := bg5.grown hgs (fun e => Nat.ne_of_lt og15.out.2.2.1 (Option.some.inj e))
  replace bg6 := bg6.grown hgs (fun e => Nat.ne_of_lt og15.out.2.2.2.1 (Option.some.inj e))
  replace bg7 := bg7.grown hgs (fun e => Nat.ne_of_lt og15.out.2.2.2.2.1 (Option.some.inj e))
  replace bg8 := bg8.grown hgs (fun e => Nat.ne_of_lt og15.out.2.2.2.2.2.1 (Option.some.inj e))
  replace bg9 := bg9.grown hgs (fun e => Nat.ne_of_lt og15.out.2.2.2.2.2.2.1 (Option.some.inj e))
  replace bg10 := bg10.grown hgs (fun e => Nat.ne_of_lt og15.out.2.2.2.2.2.2.2.1 (Option.some.inj e))
  replace bg11 := bg11.grown hgs (fun e => Nat.ne_of_lt og15.out.2.2.2.2.2.2.2.2.1 (Option.some.inj e))
  replace bg12 := bg12.grown hgs (fun e => Nat.ne_of_lt og15.out.2.2.2.2.2.2.2.2.2.1 (Option.some.inj e))
  replace bg13 := bg13.grown hgs (fun e => Nat.ne_of_lt og15.out.2.2.2.2.2.2.2.2.2.2.1 (Option.some.inj e))
  replace bg14 := bg14.grown hgs (fun e => Nat.ne_of_lt og15.out.2.2.2.2.2.2.2.2.2.2.2 (Option.some.inj e))
  replace hb0 := below_new hb0 hgs og15.out.1 hb0.size
  clear hgs bg15
  have bg15 := bn
  clear bn
  replace lg4 := bg4.lt
  replace lg5 := bg5.lt
  replace lg6 := bg6.lt
  replace lg7 := bg7.lt
  replace lg8 := bg8.lt
  replace lg9 := bg9.lt
  replace lg10 := bg10.lt
  replace lg11 := bg11.lt
  replace lg12 := bg12.lt
  replace lg13 := bg13.lt
  replace lg14 := bg14.lt
  replace lg15 := bg15.lt
  try simp only [Act.put]
  go_upto_region 15 with (fail)
  obtain ⟨r86, hr86⟩ : ∃ s : K, Hid (s = r82 * r82) := ⟨_, Lib.hid rfl⟩
  obtain ⟨r89, hr89⟩ : ∃ s : K, Hid (s = r86 - x1) := ⟨_, Lib.hid rfl⟩
  obtain ⟨r92, hr92⟩ : ∃ s : K, Hid (s = r89 - x1) := ⟨_, Lib.hid rfl⟩
  apply wp_region_once_tail (m := 11) (Z := []) (D := [[], [], [], [0, 1, 2], [], [], [0, 1, 2, 3, 4, 5], [], [], [0, 1, 2, 3, 4, 5, 6, 7, 8], [], [0, 1, 2, 3, 4, 5, 6, 7, 8, 9, 10]]) (J := [[], [], [], [0, 1, 2], [], [], [3, 4, 5], [], [], [6, 7, 8], []]) (Je := [9, 10]) (Rs := [Is _, Is _, Is _, Is _, Is _, Is _, Is _, Is _, Is _, Is _, fun v V => ∃ g', v = .pointer (some ⟨g', 0, none⟩) ∧ w28.heap.size ≤ g' ∧ Blk V g' 29 (kC 0)])
  · kernel_rfl
  · kernel_rfl
  · kernel_rfl
  · kernel_rfl
  · kernel_rfl
  · kernel_rfl
  · kernel_rfl
  · exact fun h => absurd rfl h
  · intro u
    simp only [List.take_succ_cons, List.take_zero, List.map_cons, List.map_nil, fillU, List.setIfInBounds_toArray, List.set_cons_zero, List.set_cons_succ, Nat.reduceAdd]
    exact rfl
  · simp only [List.take_succ_cons, List.take_zero]
    refine ⟨fun u W hb hd K hK => ?_, ?_⟩
    · clear hd
      rw [if_pos (by rfl)]
      refine wp_load_mid 29 (.tmp 15) rfl g15 0 rfl (kC r82) _ (rangeAt_of_blk (bg15.below hb lg15)) Tryd.underlying29 rfl (infoN6.trans (by rw [kC_length])) ?_
      exact hK _ _ _ rfl (Below.refl _ _) IsOut
    refine ⟨fun u W hb hd K hK => ?_, ?_⟩
    · clear hd
      rw [if_pos (by rfl)]
      refine wp_load_mid 29 (.tmp 15) rfl g15 0 rfl (kC r82) _ (rangeAt_of_blk (bg15.below hb lg15)) Tryd.underlying29 rfl (infoN6.trans (by rw [kC_length])) ?_
      exact hK _ _ _ rfl (Below.refl _ _) IsOut
    refine ⟨fun u W hb hd K hK => ?_, ?_⟩
    · clear hd
      rw [if_pos (by rfl)]
      refine wp_load_mid 29 (.tmp 10) rfl g10 0 rfl (nC primeP) _ (rangeAt_of_blk (bg10.below hb lg10)) Tryd.underlying29 rfl (infoN6.trans (by rw [nC_length])) ?_
      exact hK _ _ _ rfl (Below.refl _ _) IsOut
    refine ⟨fun u W hb hd K hK => ?_, ?_⟩
    · simp only [Facts, nthR, Is, and_true] at hd
      simp only [hd] at hK ⊢
      clear hd
      go_simp
      refine (RMulK hr86 _).mono ?_
      rintro e wy ⟨rfl, hby⟩
      exact hK _ _ _ rfl hby IsOut
    refine ⟨fun u W hb hd K hK => ?_, ?_⟩
    · clear hd
      rw [if_pos (by rfl)]
      refine wp_load_mid 29 (.tmp 4) rfl g4 0 rfl (kC x1) _ (rangeAt_of_blk (bg4.below hb lg4)) Tryd.underlying29 rfl (infoN6.trans (by rw [kC_length])) ?_
      exact hK _ _ _ rfl (Below.refl _ _) IsOut
    refine ⟨fun u W hb hd K hK => ?_, ?_⟩
    · clear hd
      rw [if_pos (by rfl)]
      refine wp_load_mid 29 (.tmp 10) rfl g10 0 rfl (nC primeP) _ (rangeAt_of_blk (bg10.below hb lg10)) Tryd.underlying29 rfl (infoN6.trans (by rw [nC_length])) ?_
      exact hK _ _ _ rfl (Below.refl _ _) IsOut
    refine ⟨fun u W hb hd K hK => ?_, ?_⟩
    · simp only [Facts, nthR, Is, and_true] at hd
      simp only [hd] at hK ⊢
      clear hd
      go_simp
      refine (RSubK hr89 _).mono ?_
      rintro e wy ⟨rfl, hby⟩
      exact hK _ _ _ rfl hby IsOut
    refine ⟨fun u W hb hd K hK => ?_, ?_⟩
    · clear hd
      rw [if_pos (by rfl)]
      refine wp_load_mid 29 (.tmp 6) rfl g6 0 rfl (kC x1) _ (rangeAt_of_blk (bg6.below hb lg6)) Tryd.underlying29 rfl (infoN6.trans (by rw [kC_length])) ?_
      exact hK _ _ _ rfl (Below.refl _ _) IsOut
    refine ⟨fun u W hb hd K hK => ?_, ?_⟩
    · clear hd
      rw [if_pos (by rfl)]
      refine wp_load_mid 29 (.tmp 10) rfl g10 0 rfl (nC primeP) _ (rangeAt_of_blk (bg10.below hb lg10)) Tryd.underlying29 rfl (infoN6.trans (by rw [nC_length])) ?_
      exact hK _ _ _ rfl (Below.refl _ _) IsOut
    refine ⟨fun u W hb hd K hK => ?_, ?_⟩
    · simp only [Facts, nthR, Is, and_true] at hd
      simp only [hd] at hK ⊢
      clear hd
      go_simp
      refine (RSubK hr92 _).mono ?_
      rintro e wy ⟨rfl, hby⟩
      exact hK _ _ _ rfl hby IsOut
    refine ⟨fun u W hb hd K hK => ?_, ?_⟩
    · clear hd
      go_simp
      apply hK
      · simp only [Act.put, List.setIfInBounds_toArray, List.set_cons_zero, List.set_cons_succ]
        exact rfl
      · exact (Below.refl _ _).alloc (Nat.le_refl _) _
      · exact ⟨_, rfl, hb.size, Blk.new_of _ _ _ _ rfl⟩
    exact trivial
  · skip
    exact trivial
  · exact (.is (.is (.is (.is (.is (.is (.is (.is (.is (.is (.cons (fun v V V' ⟨g', h1, h2, h3⟩ hb => ⟨g', h1, h2, h3.below hb h3.lt⟩) .nil)))))))))))
  intro u w29 hb hd
  simp only [List.drop_succ_cons, List.drop_zero]
  simp only [Facts, nthR, Is, and_true] at hd
  obtain ⟨h9, ⟨g16, h10, hng16, bg16⟩⟩ := hd
  have og16 := Lib.hid (show w.heap.size ≤ g16 ∧ g4 < g16 ∧ g5 < g16 ∧ g6 < g16 ∧ g7 < g16 ∧ g8 < g16 ∧ g9 < g16 ∧ g10 < g16 ∧ g11 < g16 ∧ g12 < g16 ∧ g13 < g16 ∧ g14 < g16 ∧ g15 < g16 from ⟨Nat.le_trans hb0.size hng16, Nat.lt_of_lt_of_le lg4 hng16, Nat.lt_of_lt_of_le lg5 hng16, Nat.lt_of_lt_of_le lg6 hng16, Nat.lt_of_lt_of_le lg7 hng16, Nat.lt_of_lt_of_le lg8 hng16, Nat.lt_of_lt_of_le lg9 hng16, Nat.lt_of_lt_of_le lg10 hng16, Nat.lt_of_lt_of_le lg11 hng16, Nat.lt_of_lt_of_le lg12 hng16, Nat.lt_of_lt_of_le lg13 hng16, Nat.lt_of_lt_of_le lg14 hng16, Nat.lt_of_lt_of_le lg15 hng16⟩)
  simp only [h9, h10]
  clear h9 h10
  replace bg4 := bg4.below hb lg4
  replace bg5 := bg5.below hb lg5
  replace bg6 := bg6.below hb lg6
  replace bg7 := bg7.below hb lg7
  replace bg8 := bg8.below hb lg8
  replace bg9 := bg9.below hb lg9
  replace bg10 := bg10.below hb lg10
  replace bg11 := bg11.below hb lg11
  replace bg12 := bg12.below hb lg12
  replace bg13 := bg13.below hb lg13
  replace bg14 := bg14.below hb lg14
  replace bg15 := bg15.below hb lg15
  replace hb0 := hb0.trans (hb.mono hb0.size)
  replace lg4 := bg4.lt
  replace lg5 := bg5.lt
  replace lg6 := bg6.lt
  replace lg7 := bg7.lt
  replace lg8 := bg8.lt
  replace lg9 := bg9.lt
  replace lg10 := bg10.lt
  replace lg11 := bg11.lt
  replace lg12 := bg12.lt
  replace lg13 := bg13.lt
  replace lg14 := bg14.lt
  replace lg15 := bg15.lt
  clear hb
  have lg16 := bg16.lt
  clear hng16
  refine wpList_store_blk rfl 29 (.tmp 16) (.tmp 92) rfl rfl g16 (kC r92) rfl rfl _ _ bg16 (infoN6.trans (by rw [kC_length])) (by first | with_reducible rfl | rw [kC_length, kC_length] | rw [kC_length]) (oneK4 _) ?_
  intro w30 bn hgs
  replace bg4 := bg4.grown hgs (fun e => Nat.ne_of_lt og16.out.2.1 (Option.some.inj e))
  replace bg5 := bg5.grown hgs (fun e => Nat.ne_of_lt og16.out.2.2.1 (Option.some.inj e))
  replace bg6 := bg6.grown hgs (fun e => Nat.ne_of_lt og16.out.2.2.2.1 (Option.some.inj e))
  replace bg7 := bg7.grown hgs (fun e => Nat.ne_of_lt og16.out.2.2.2.2.1 (Option.some.inj e))
  replace bg8 := bg8.grown hgs (fun e => Nat.ne_of_lt og16.out.2.2.2.2.2.1 (Option.some.inj e))
  replace bg9 := bg9.grown hgs (fun e => Nat.ne_of_lt og16.out.2.2.2.2.2.2.1 (Option.some.inj e))
  replace bg10 := bg10.grown hgs (fun e => Nat.ne_of_lt og16.out.2.2.2.2.2.2.2.1 (Option.some.inj e))
  replace bg11 := bg11.grown hgs (fun e => Nat.ne_of_lt og16.out.2.2.2.2.2.2.2.2.1 (Option.some.inj e))
  replace bg12 := bg12.grown hgs (fun e => Nat.ne_of_lt og16.out.2.2.2.2.2.2.2.2.2.1 (Option.some.inj e))
  replace bg13 := bg13.grown hgs (fun e => Nat.ne_of_lt og16.out.2.2.2.2.2.2.2.2.2.2.1 (Option.some.inj e))
  replace bg14 := bg14.grown hgs (fun e => Nat.ne_of_lt og16.out.2.2.2.2.2.2.2.2.2.2.2.1 (Option.some.inj e))
  replace bg15 := bg15.grown hgs (fun e => Nat.ne_of_lt og16.out.2.2.2.2.2.2.2.2.2.2.2.2 (Option.some.inj e))
  replace hb0 := below_new hb0 hgs og16.out.1 hb0.size
  clear hgs bg16
  have bg16 := bn
  clear bn
  replace lg4 := bg4.lt
  replace lg5 := bg5.lt
  replace lg6 := bg6.lt
  replace lg7 := bg7.lt
  replace lg8 := bg8.lt
  replace lg9 := bg9.lt
  replace lg10 := bg10.lt
  replace lg11 := bg11.lt
  replace lg12 := bg12.lt
  replace lg13 := bg13.lt
  replace lg14 := bg14.lt
  replace lg15 := bg15.lt
  replace lg16 := bg16.lt
  try simp only [Act.put]
  go_upto_region 16 with (fail)
  obtain ⟨r98, hr98⟩ : ∃ s : K, Hid (s = x1 - r92) := ⟨_, Lib.hid rfl⟩
  obtain ⟨r100, hr100⟩ : ∃ s : K, Hid (s = r82 * r98) := ⟨_, Lib.hid rfl⟩
  obtain ⟨r103, hr103⟩ : ∃ s : K, Hid (s = r100 - y1) := ⟨_, Lib.hid rfl⟩
  apply wp_region_once_tail (m := 11) (Z := []) (D := [[], [], [], [], [], [2, 3, 4], [], [1, 2, 3, 4, 5, 6], [], [], [1, 2, 3, 4, 5, 6, 7, 8, 9], [0, 1, 2, 3, 4, 5, 6, 7, 8, 9, 10], [0, 1, 2, 3, 4, 5, 6, 7, 8, 9, 10, 11]]) (J := [[], [], [], [], [], [2, 3, 4], [], [1, 5, 6], [], [], [7, 8, 9]]) (Je := [0, 10]) (Rs := [Is _, Is _, Is _, Is _, Is _, Is _, Is _, Is _, Is _, Is _, Is _])
  · kernel_rfl
  · kernel_rfl
  · kernel_rfl
  · kernel_rfl
  · kernel_rfl
  · kernel_rfl
  · kernel_rfl
  · exact fun h => absurd rfl h
  · intro u
    simp only [List.take_succ_cons, List.take_zero, List.map_cons, List.map_nil, fillU, List.setIfInBounds_toArray, List.set_cons_zero, List.set_cons_succ, Nat.reduceAdd]
    exact rfl
  · simp only [List.take_succ_cons, List.take_zero]
    refine ⟨fun u W hb hd K hK => ?_, ?_⟩
    · clear hd
      rw [if_pos (by rfl)]
      refine wp_load_mid 29 (.tmp 16) rfl g16 0 rfl (kC r92) _ (rangeAt_of_blk (bg16.below hb lg16)) Tryd.underlying29 rfl (infoN6.trans (by rw [kC_length])) ?_
      exact hK _ _ _ rfl (Below.refl _ _) IsOut
    refine ⟨fun u W hb hd K hK => ?_, ?_⟩
    · clear hd
      rw [if_pos (by rfl)]
      refine wp_load_mid 29 (.tmp 15) rfl g15 0 rfl (kC r82) _ (rangeAt_of_blk (bg15.below hb lg15)) Tryd.underlying29 rfl (infoN6.trans (by rw [kC_length])) ?_
      exact hK _ _ _ rfl (Below.refl _ _) IsOut
    refine ⟨fun u W hb hd K hK => ?_, ?_⟩
    · clear hd
      rw [if_pos (by rfl)]
      refine wp_load_mid 29 (.tmp 4) rfl g4 0 rfl (kC x1) _ (rangeAt_of_blk (bg4.below hb lg4)) Tryd.underlying29 rfl (infoN6.trans (by rw [kC_length])) ?_
      exact hK _ _ _ rfl (Below.refl _ _) IsOut
    refine ⟨fun u W hb hd K hK => ?_, ?_⟩
    · clear hd
      rw [if_pos (by rfl)]
      refine wp_load_mid 29 (.tmp 16) rfl g16 0 rfl (kC r92) _ (rangeAt_of_blk (bg16.below hb lg16)) Tryd.underlying29 rfl (infoN6.trans (by rw [kC_length])) ?_
      exact hK _ _ _ rfl (Below.refl _ _) IsOut
    refine ⟨fun u W hb hd K hK => ?_, ?_⟩
    · clear hd
      rw [if_pos (by rfl)]
      refine wp_load_mid 29 (.tmp 10) rfl g10 0 rfl (nC primeP) _ (rangeAt_of_blk (bg10.below hb lg10)) Tryd.underlying29 rfl (infoN6.trans (by rw [nC_length])) ?_
      exact hK _ _ _ rfl (Below.refl _ _) IsOut
    refine ⟨fun u W hb hd K hK => ?_, ?_⟩
    · simp only [Facts, nthR, Is, and_true] at hd
      simp only [hd] at hK ⊢
      clear hd
      go_simp
      refine (RSubK hr98 _).mono ?_
      rintro e wy ⟨rfl, hby⟩
      exact hK _ _ _ rfl hby IsOut
    refine ⟨fun u W hb hd K hK => ?_, ?_⟩
    · clear hd
      rw [if_pos (by rfl)]
      refine wp_load_mid 29 (.tmp 10) rfl g10 0 rfl (nC primeP) _ (rangeAt_of_blk (bg10.below hb lg10)) Tryd.underlying29 rfl (infoN6.trans (by rw [nC_length])) ?_
      exact hK _ _ _ rfl (Below.refl _ _) IsOut
    refine ⟨fun u W hb hd K hK => ?_, ?_⟩
    · simp only [Facts, nthR, Is, and_true] at hd
      simp only [hd] at hK ⊢
      clear hd
      go_simp
      refine (RMulK hr100 _).mono ?_
      rintro e wy ⟨rfl, hby⟩
      exact hK _ _ _ rfl hby IsOut
    refine ⟨fun u W hb hd K hK => ?_, ?_⟩
    · clear hd
      rw [if_pos (by rfl)]
      refine wp_load_mid 29 (.tmp 5) rfl g5 0 rfl (kC y1) _ (rangeAt_of_blk (bg5.below hb lg5)) Tryd.underlying29 rfl (infoN6.trans (by rw [kC_length])) ?_
      exact hK _ _ _ rfl (Below.refl _ _) IsOut
    refine ⟨fun u W hb hd K hK => ?_, ?_⟩
    · clear hd
      rw [if_pos (by rfl)]
      refine wp_load_mid 29 (.tmp 10) rfl g10 0 rfl (nC primeP) _ (rangeAt_of_blk (bg10.below hb lg10)) Tryd.underlying29 rfl (infoN6.trans (by rw [nC_length])) ?_
      exact hK _ _ _ rfl (Below.refl _ _) IsOut
    refine ⟨fun u W hb hd K hK => ?_, ?_⟩
    · simp only [Facts, nthR, Is, and_true] at hd
      simp only [hd] at hK ⊢
      clear hd
      go_simp
      refine (RSubK hr103 _).mono ?_
      rintro e wy ⟨rfl, hby⟩
      exact hK _ _ _ rfl hby IsOut
    exact trivial
  · skip
    exact trivial
  · exact (.is (.is (.is (.is (.is (.is (.is (.is (.is (.is (.is .nil)))))))))))
  intro u w31 hb hd
  simp only [List.drop_succ_cons, List.drop_zero]
  simp only [Facts, nthR, Is, and_true] at hd
  obtain ⟨h0, h10⟩ := hd
  simp only [h0, h10]
  clear h0 h10
  replace bg4 := bg4.below hb lg4
  replace bg5 := bg5.below hb lg5
  replace bg6 := bg6.below hb lg6
  replace bg7 := bg7.below hb lg7
  replace bg8 := bg8.below hb lg8
  replace bg9 := bg9.below hb lg9
  replace bg10 := bg10.below hb lg10
  replace bg11 := bg11.below hb lg11
  replace bg12 := bg12.below hb lg12
  replace bg13 := bg13.below hb lg13
  replace bg14 := bg14.below hb lg14
  replace bg15 := bg15.below hb lg15
  replace bg16 := bg16.below hb lg16
  replace hb0 := hb0.trans (hb.mono hb0.size)
  replace lg4 := bg4.lt
  replace lg5 := bg5.lt
  replace lg6 := bg6.lt
  replace lg7 := bg7.lt
  replace lg8 := bg8.lt
  replace lg9 := bg9.lt
  replace lg10 := bg10.lt
  replace lg11 := bg11.lt
  replace lg12 := bg12.lt
  replace lg13 := bg13.lt
  replace lg14 := bg14.lt
  replace lg15 := bg15.lt
  replace lg16 := bg16.lt
  clear hb
  refine wpList_store_blk rfl 29 (.tmp 8) (.tmp 93) rfl rfl g8 (kC r92) rfl rfl _ _ bg8 (infoN6.trans (by rw [kC_length])) (by first | with_reducible rfl | rw [kC_length, kC_length] | rw [kC_length]) (oneK4 _) ?_
  intro w32 bn hgs
  replace bg4 := bg4.grown hgs (fun e => Nat.ne_of_lt og8.out.2.1 (Option.some.inj e))
  replace bg5 := bg5.grown hgs (fun e => Nat.ne_of_lt og8.out.2.2.1 (Option.some.inj e))
  replace bg6 := bg6.grown hgs (fun e => Nat.ne_of_lt og8.out.2.2.2.1 (Option.some.inj e))
  replace bg7 := bg7.grown hgs (fun e => Nat.ne_of_lt og8.out.2.2.2.2 (Option.some.inj e))
  replace bg9 := bg9.grown hgs (fun e => Nat.ne_of_gt og9.out.2.2.2.2.2 (Option.some.inj e))
  replace bg10 := bg10.grown hgs (fun e => Nat.ne_of_gt og10.out.2.2.2.2.2.1 (Option.some.inj e))
  replace bg11 := bg11.grown hgs (fun e => Nat.ne_of_gt og11.out.2.2.2.2.2.1 (Option.some.inj e))
  replace bg12 := bg12.grown hgs (fun e => Nat.ne_of_gt og12.out.2.2.2.2.2.1 (Option.some.inj e))
  replace bg13 := bg13.grown hgs (fun e => Nat.ne_of_gt og13.out.2.2.2.2.2.1 (Option.some.inj e))
  replace bg14 := bg14.grown hgs (fun e => Nat.ne_of_gt og14.out.2.2.2.2.2.1 (Option.some.inj e))
  replace bg15 := bg15.grown hgs (fun e => Nat.ne_of_gt og15.out.2.2.2.2.2.1 (Option.some.inj e))
  replace bg16 := bg16.grown hgs (fun e => Nat.ne_of_gt og16.out.2.2.2.2.2.1 (Option.some.inj e))
  replace hb0 := below_new hb0 hgs og8.out.1 hb0.size
  clear hgs bg8
  have bg8 := bn
  clear bn
  replace lg4 := bg4.lt
  replace lg5 := bg5.lt
  replace lg6 := bg6.lt
  replace lg7 := bg7.lt
  replace lg8 := bg8.lt
  replace lg9 := bg9.lt
  replace lg10 := bg10.lt
  replace lg11 := bg11.lt
  replace lg12 := bg12.lt
  replace lg13 := bg13.lt
  replace lg14 := bg14.lt
  replace lg15 := bg15.lt
  replace lg16 := bg16.lt
  try simp only [Act.put]
  refine wpList_store_blk rfl 29 (.tmp 9) (.tmp 103) rfl rfl g9 (kC r103) rfl rfl _ _ bg9 (infoN6.trans (by rw [kC_length])) (by first | with_reducible rfl | rw [kC_length, kC_length] | rw [kC_length]) (oneK4 _) ?_
  intro w33 bn hgs
  replace bg4 := bg4.grown hgs (fun e => Nat.ne_of_lt og9.out.2.1 (Option.some.inj e))
  replace bg5 := bg5.grown hgs (fun e => Nat.ne_of_lt og9.out.2.2.1 (Option.some.inj e))
  replace bg6 := bg6.grown hgs (fun e => Nat.ne_of_lt og9.out.2.2.2.1 (Option.some.inj e))
  replace bg7 := bg7.grown hgs (fun e => Nat.ne_of_lt og9.out.2.2.2.2.1 (Option.some.inj e))
  replace bg8 := bg8.grown hgs (fun e => Nat.ne_of_lt og9.out.2.2.2.2.2 (Option.some.inj e))
  replace bg10 := bg10.grown hgs (fun e => Nat.ne_of_gt og10.out.2.2.2.2.2.2 (Option.some.inj e))
  replace bg11 := bg11.grown hgs (fun e => Nat.ne_of_gt og11.out.2.2.2.2.2.2.1 (Option.some.inj e))
  replace bg12 := bg12.grown hgs (fun e => Nat.ne_of_gt og12.out.2.2.2.2.2.2.1 (Option.some.inj e))
  replace bg13 := bg13.grown hgs (fun e => Nat.ne_of_gt og13.out.2.2.2.2.2.2.1 (Option.some.inj e))
  replace bg14 := bg14.grown hgs (fun e => Nat.ne_of_gt og14.out.2.2.2.2.2.2.1 (Option.some.inj e))
  replace bg15 := bg15.grown hgs (fun e => Nat.ne_of_gt og15.out.2.2.2.2.2.2.1 (Option.some.inj e))
  replace bg16 := bg16.grown hgs (fun e => Nat.ne_of_gt og16.out.2.2.2.2.2.2.1 (Option.some.inj e))
  replace hb0 := below_new hb0 hgs og9.out.1 hb0.size
  clear hgs bg9
  have bg9 := bn
  clear bn
  replace lg4 := bg4.lt
  replace lg5 := bg5.lt
  replace lg6 := bg6.lt
  replace lg7 := bg7.lt
  replace lg8 := bg8.lt
  replace lg9 := bg9.lt
  replace lg10 := bg10.lt
  replace lg11 := bg11.lt
  replace lg12 := bg12.lt
  replace lg13 := bg13.lt
  replace lg14 := bg14.lt
  replace lg15 := bg15.lt
  replace lg16 := bg16.lt
  try simp only [Act.put]
  go_wp2_with (fail)
  have es : r82 = s := by rw [hs.out, hr82.out, hr80.out, hr67.out, hr65.out, hr62.out, hr71.out]
  have eu : r92 = xr := by rw [hu.out, hr92.out, hr89.out, hr86.out, es]
  have ev : r103 = yr := by rw [hv.out, hr103.out, hr100.out, hr98.out, es, eu]
  rw [eu] at bg8
  rw [ev] at bg9
  refine bodyPost_ret (v := .tuple _) ?_ rfl ⟨rfl, hb0⟩
  exact results_two6 rfl _ _ g8 g9 _ _ rfl rfl bg8 bg9
theorem kC_x (x y : K) : nC (xN (some (x, y))) = kC x := rfl
theorem kC_y (x y : K) : nC (yN (some (x, y))) = kC y := rfl
theorem kC_xn : nC (xN none) = kC 0 := zeroK4
theorem kC_yn : nC (yN none) = kC 0 := zeroK4
theorem off_zero {x y : K} (h : onPt (some (x, y))) : (decide (x = 0) && decide (y = 0)) = false := by
  rw [Bool.and_eq_false_iff, decide_eq_false_iff_not, decide_eq_false_iff_not]
  by_cases hx : x = 0
  · right
    rintro rfl
    subst hx
    exact infinity_off h
  · exact .inl hx
theorem lineK_eq (s x1 y1 x2 : K) : lineK s x1 y1 x2 = (s * s - x1 - x2, s * (x1 - (s * s - x1 - x2)) - y1) := rfl
theorem addPt_some (x1 y1 x2 y2 : K) : addPt (some (x1, y1)) (some (x2, y2)) = if x1 = x2 then (if y1 + y2 = 0 then none else some (lineK (3 * (x1 * x1 - 1) * invK (y1 + y1)) x1 y1 x2)) else some (lineK ((y2 - y1) * invK (x2 - x1)) x1 y1 x2) := rfl
theorem rSum_any (P Q : Pt) (hP : onPt P) (hQ : onPt Q) (w : World) : Calls Tryd.prog 25 #[.agg (nC (xN P)).toArray, .agg (nC (yN P)).toArray, .agg (nC (xN Q)).toArray, .agg (nC (yN Q)).toArray] w fun e w' => e = .returned (.tuple #[.agg (nC (xN (addPt P Q))).toArray, .agg (nC (yN (addPt P Q))).toArray]) ∧ Below w.heap.size w w' := by
  match P, Q, hP, hQ with
  | none, none, _, _ =>
    rw [none_add, kC_xn, kC_yn]
    exact rAdd_1 0 0 w
  | none, some (x2, y2), _, _ =>
    rw [none_add, kC_xn, kC_yn, kC_x, kC_y]
    exact rAdd_1 x2 y2 w
  | some (x1, y1), none, hP, _ =>
    rw [add_none, kC_xn, kC_yn, kC_x, kC_y]
    exact rAdd_2 x1 y1 _ _ (Lib.hid rfl) (Lib.hid rfl) (Lib.hid (off_zero hP)) w
  | some (x1, y1), some (x2, y2), hP, hQ =>
    rw [kC_x, kC_y, kC_x, kC_y, addPt_some]
    by_cases hx : x1 = x2
    · subst hx
      rw [if_pos rfl]
      by_cases hz : y1 + y2 = 0
      · rw [if_pos hz, kC_xn, kC_yn]
        exact rAdd_4 x1 y1 y2 _ _ _ _ (Lib.hid rfl) (Lib.hid rfl) (Lib.hid (off_zero hP)) (Lib.hid rfl) (Lib.hid rfl) (Lib.hid (off_zero hQ)) (Lib.hid hz) w
      · rw [if_neg hz, lineK_eq, kC_x, kC_y]
        have e : y1 = y2 := by
          have h := sq_diff (a := y1) (b := y2) hP hQ
          rcases mul_zeroK h with h | h
          · exact (sub_zeroK h).symm
          · exact absurd h hz
        subst e
        exact rAdd_5 x1 y1 y1 _ _ _ _ (Lib.hid rfl) (Lib.hid rfl) (Lib.hid (off_zero hP)) (Lib.hid rfl) (Lib.hid rfl) (Lib.hid (off_zero hQ)) (Lib.hid hz) _ (Lib.hid rfl) _ _ (Lib.hid rfl) (Lib.hid rfl) w
    · rw [if_neg hx, lineK_eq, kC_x, kC_y]
      exact rAdd_3 x1 y1 x2 y2 _ _ _ _ (Lib.hid rfl) (Lib.hid rfl) (Lib.hid (off_zero hP)) (Lib.hid rfl) (Lib.hid rfl) (Lib.hid (off_zero hQ)) (Lib.hid hx) _ (Lib.hid rfl) _ _ (Lib.hid rfl) (Lib.hid rfl) w
theorem RAddP {P Q R : Pt} {a b : Nat} (hP : Hid (P = mulG a)) (hQ : Hid (Q = mulG b)) (hR : Hid (R = mulG (a + b))) (w : World) : Calls Tryd.prog 25 #[.agg (nC (xN P)).toArray, .agg (nC (yN P)).toArray, .agg (nC (xN Q)).toArray, .agg (nC (yN Q)).toArray] w fun e w' => e = .returned (.tuple #[.agg (nC (xN R)).toArray, .agg (nC (yN R)).toArray]) ∧ Below w.heap.size w w' := by
  have h := rSum_any P Q (on_of hP).out (on_of hQ).out w
  rw [show addPt P Q = R by rw [hP.out, hQ.out, hR.out, mulG_add]] at h
  exact h
end Go.Proofs.YtnkikhnllnbhfaaDoor
