/-
  The walk of the statement KeysMarks.
-/
import Derived.Test.YtdjhempfpgcigaaDoorKs
import Derived.Test.YtdjhempfpgcigaaDoorFresh
namespace Go.Proofs.YtdjhempfpgcigaaDoor
open Go.RowKit

set_option maxRecDepth 100000 in
set_option maxHeartbeats 1000000 in
theorem keysMarks_walk (p s : List UInt8) (w : World) (hp : p.length = 32) (hs : s.length = 32) (ht : Tabs w) :
    Calls Tryd.prog 4 #[.agg (p.map B8).toArray, .agg (s.map B8).toArray] w fun e w' => e = .returned (.bool true) ∧ Below w.heap.size w w' := by
  have h1 := fun (W : World) (h : Tabs W) => binder_any p s W hp hs h
  have r1 := fun (W : World) => refBinder_any p s W hp hs
  have l1 := binderS_length p s
  generalize binderS p s = B at *
  have h2 := fun (W : World) (h : Tabs W) => finish_any p s W hp hs h
  have r2 := fun (W : World) => refFinish_any p s W hp hs
  have l2 := finishS_length p s
  generalize finishS p s = F at *
  have h3 := fun (W : World) (h : Tabs W) => signed_T s W hs h
  have r3 := fun (W : World) => refSigned_T s W hs
  have l3 := signedS_length srvL s
  generalize signedS srvL s = S at *
  have h4 := fun (W : World) (h : Tabs W) => signed_F s W hs h
  have r4 := fun (W : World) => refSigned_F s W hs
  have l4 := signedS_length cliL s
  generalize signedS cliL s = C at *
  have hrt := fun (W : World) => retried_any s W hs
  have hcl : ¬ 9223372036854775807 < 4 + s.length := by omega
  have l36 : (headL ++ s).length = 36 := by rw [List.length_append, hs]; rfl
  obtain ⟨M, hM⟩ : ∃ M, M = headL ++ s := ⟨_, rfl⟩
  rw [← hM] at l36
  simp only [← hM] at hrt
  have hcat : (({ data := #[254, 0, 0, 32] } : ByteArray) ++ { data := s.toArray }) = ⟨M.toArray⟩ := by rw [hM]; exact bytes_append headL s
  clear hM
  have HCA := Lib.hid hcat
  clear hcat
  have hz : ∀ W : World, (zeroValue 22).run Tryd.prog W = .ok (.agg (zero32.map B8).toArray) W := fun W => by kernel_rfl
  obtain ⟨Z, hZ⟩ : ∃ Z, Z = zero32 := ⟨_, rfl⟩
  have HZL := Lib.hid (show Z.length = 32 by rw [hZ]; rfl)
  rw [← hZ] at hz
  have H1 := Lib.hid h1
  have R1 := Lib.hid r1
  have L1 := Lib.hid l1
  have H2 := Lib.hid h2
  have R2 := Lib.hid r2
  have L2 := Lib.hid l2
  have H3 := Lib.hid h3
  have R3 := Lib.hid r3
  have L3 := Lib.hid l3
  have H4 := Lib.hid h4
  have R4 := Lib.hid r4
  have L4 := Lib.hid l4
  have HP := Lib.hid hp
  have HS := Lib.hid hs
  have HR := Lib.hid hrt
  have HCL := Lib.hid hcl
  have L36 := Lib.hid l36
  clear h1 h2 h3 h4 r1 r2 r3 r4 l1 l2 l3 l4 hp hs hZ hrt hcl l36
  have hA : Blk ((w.alloc (.cells (p.map B8).toArray 22)).alloc (.cells (s.map B8).toArray 22)) w.heap.size 22 _ := (Blk.new_of w 22 _ _ rfl).alloc _
  have hB : Blk ((w.alloc (.cells (p.map B8).toArray 22)).alloc (.cells (s.map B8).toArray 22)) (w.heap.size + 1) 22 _ := Blk.new2_of w (.cells (p.map B8).toArray 22) 22 _ _ rfl
  have hbw : Below w.heap.size w ((w.alloc (.cells (p.map B8).toArray 22)).alloc (.cells (s.map B8).toArray 22)) := ((Below.refl w.heap.size w).alloc (Nat.le_refl _) _).alloc (by simp) _
  go_enter Tryd.func4, Tryd.ntmps4
  go_wp2
  generalize w.heap.size + 1 = g1 at *
  generalize (w.alloc (.cells (p.map B8).toArray 22)).alloc (.cells (s.map B8).toArray 22) = w1 at *
  apply wp_region_fresh (m := 8) (Z := []) (Fl := [false, false, false, false, false, false, true, true]) (D := [[], [], [0, 1], [], [], [0, 1, 2, 3, 4], [], [], [0, 1, 2, 3, 4, 5, 6, 7], [0, 1, 2, 3, 4, 5, 6, 7, 8]]) (J := [[], [], [0, 1], [], [], [3, 4], [], []]) (Je := [2, 5, 6, 7]) (Rs := [Is _, Is _, Is _, Is _, Is _, Is _, fun v V => ∃ g, v = .pointer (some ⟨g, 0, none⟩) ∧ w1.heap.size ≤ g ∧ Blk V g 22 (Z.map B8), fun v V => ∃ g, v = .pointer (some ⟨g, 0, none⟩) ∧ w1.heap.size ≤ g ∧ Blk V g 22 (Z.map B8)])
  · kernel_rfl
  · kernel_rfl
  · kernel_rfl
  · kernel_rfl
  · kernel_rfl
  · kernel_rfl
  · kernel_rfl
  · kernel_rfl
  · exact fun h => absurd rfl h
  · intro u
    simp only [List.take_succ_cons, List.take_zero, List.map_cons, List.map_nil, fillU, List.setIfInBounds_toArray, List.set_cons_zero, List.set_cons_succ, Nat.zero_add, Nat.reduceAdd]
    exact rfl
  · simp only [List.take_succ_cons, List.take_zero]
    refine ⟨fun u W hb hd K hK => ?_, ?_⟩
    · clear hd
      rw [if_pos (by rfl)]
      refine wp_load_mid 22 (.tmp 2) rfl (w.heap.size) 0 rfl (p.map B8) _ (rangeAt_of_blk (hA.below hb hA.lt)) Tryd.underlying22 rfl (info32.trans (by rw [List.length_map, HP.out])) ?_
      exact hK _ _ _ rfl (Below.refl _ _) IsOut
    refine ⟨fun u W hb hd K hK => ?_, ?_⟩
    · clear hd
      rw [if_pos (by rfl)]
      refine wp_load_mid 22 (.tmp 3) rfl (g1) 0 rfl (s.map B8) _ (rangeAt_of_blk (hB.below hb hB.lt)) Tryd.underlying22 rfl (info32.trans (by rw [List.length_map, HS.out])) ?_
      exact hK _ _ _ rfl (Below.refl _ _) IsOut
    refine ⟨fun u W hb hd K hK => ?_, ?_⟩
    · simp only [Facts, nthR, Is, and_true] at hd
      simp only [hd] at hK ⊢
      clear hd
      go_simp
      refine (H1.out _ ((ht.below hbw).below hb)).mono ?_
      rintro e wy ⟨rfl, hby⟩
      exact hK _ _ _ rfl hby IsOut
    refine ⟨fun u W hb hd K hK => ?_, ?_⟩
    · clear hd
      rw [if_pos (by rfl)]
      refine wp_load_mid 22 (.tmp 2) rfl (w.heap.size) 0 rfl (p.map B8) _ (rangeAt_of_blk (hA.below hb hA.lt)) Tryd.underlying22 rfl (info32.trans (by rw [List.length_map, HP.out])) ?_
      exact hK _ _ _ rfl (Below.refl _ _) IsOut
    refine ⟨fun u W hb hd K hK => ?_, ?_⟩
    · clear hd
      rw [if_pos (by rfl)]
      refine wp_load_mid 22 (.tmp 3) rfl (g1) 0 rfl (s.map B8) _ (rangeAt_of_blk (hB.below hb hB.lt)) Tryd.underlying22 rfl (info32.trans (by rw [List.length_map, HS.out])) ?_
      exact hK _ _ _ rfl (Below.refl _ _) IsOut
    refine ⟨fun u W hb hd K hK => ?_, ?_⟩
    · simp only [Facts, nthR, Is, and_true] at hd
      simp only [hd] at hK ⊢
      clear hd
      go_simp
      refine (H2.out _ ((ht.below hbw).below hb)).mono ?_
      rintro e wy ⟨rfl, hby⟩
      exact hK _ _ _ rfl hby IsOut
    refine ⟨fun u W hb hd K hK => ?_, ?_⟩
    · clear hd
      go_simp
      apply hK
      · simp only [Act.put, List.setIfInBounds_toArray, List.set_cons_zero, List.set_cons_succ]
        exact rfl
      · exact (Below.refl _ _).alloc (Nat.le_refl _) _
      · exact ⟨_, rfl, hb.size, Blk.new_of _ _ _ _ (by rfl)⟩
      · exact ⟨_, rfl, Nat.le_refl _, by simp⟩
    refine ⟨fun u W hb hd K hK => ?_, ?_⟩
    · clear hd
      go_simp
      apply hK
      · simp only [Act.put, List.setIfInBounds_toArray, List.set_cons_zero, List.set_cons_succ]
        exact rfl
      · exact (Below.refl _ _).alloc (Nat.le_refl _) _
      · exact ⟨_, rfl, hb.size, Blk.new_of _ _ _ _ (by rfl)⟩
      · exact ⟨_, rfl, Nat.le_refl _, by simp⟩
    exact trivial
  · skip
    exact trivial
  · exact (.is (.is (.is (.is (.is (.is (.cons (fun v V V' ⟨g, h1, h2, h3⟩ hb => ⟨g, h1, h2, h3.below hb h3.lt⟩) (.cons (fun v V V' ⟨g, h1, h2, h3⟩ hb => ⟨g, h1, h2, h3.below hb h3.lt⟩) .nil))))))))
  · intro u W hb hd hne
    simp only [List.drop_succ_cons, List.drop_zero]
    simp only [Facts, nthR, Is, and_true] at hd
    obtain ⟨e1, e2, ⟨ga, e3, hga, hS⟩, ⟨gb', e4, hgb, hT⟩⟩ := hd
    have hgn : ga ≠ gb' := fun e => hne 6 7 rfl rfl (by decide) (by decide) (by decide) (by rw [e3, e4, e])
    simp only [e1, e2, e3, e4]
    clear e1 e2 e3 e4 hne
    go_wp2_with (first
      | ((with_reducible refine (?_ : wpList _ _ _ (Oper.mk none (.store 22 (.tmp 5) _) _ _ _ _ :: _) _ _)); refine wpList_store_blk rfl 22 (.tmp 5) (.tmp 13) rfl rfl (ga) _ rfl rfl 22 _ hS (info32.trans (by rw [List.length_map, L1.out])) (by rw [List.length_map, List.length_map, L1.out, HZL.out]) (one8 _) ?_; intro w2 hX5 hg1; replace hT := hT.grown hg1 (fun h => hgn (by have := Option.some.inj h; omega)); replace hb := below_new hb hg1 hga hb.size)
      | ((with_reducible refine (?_ : wpList _ _ _ (Oper.mk none (.store 22 (.tmp 6) _) _ _ _ _ :: _) _ _)); refine wpList_store_blk rfl 22 (.tmp 6) (.tmp 16) rfl rfl (gb') _ rfl rfl 22 _ hT (info32.trans (by rw [List.length_map, L2.out])) (by rw [List.length_map, List.length_map, L2.out, HZL.out]) (one8 _) ?_; intro w3 hX6 hg2; replace hX5 := hX5.grown hg2 (fun h => hgn (by have := Option.some.inj h; omega)); replace hb := below_new hb hg2 hgb hb.size))
    replace hA := hA.below hb hA.lt
    replace hB := hB.below hb hB.lt
    replace hbw := hbw.trans (hb.mono hbw.size)
    clear hb
    clear hg1 hg2 hga hgb hgn hS hT
    apply wp_region_fresh (m := 6) (Z := []) (Fl := [false, false, false, false, true, true]) (D := [[], [0], [], [0, 1, 2], [], [], [0, 1, 2, 3, 4, 5], [0, 1, 2, 3, 4, 5, 6]]) (J := [[], [0], [], [2], [], []]) (Je := [1, 3, 4, 5]) (Rs := [Is _, Is _, Is _, Is _, fun v V => ∃ g, v = .pointer (some ⟨g, 0, none⟩) ∧ w3.heap.size ≤ g ∧ Blk V g 22 (Z.map B8), fun v V => ∃ g, v = .pointer (some ⟨g, 0, none⟩) ∧ w3.heap.size ≤ g ∧ Blk V g 22 (Z.map B8)])
    · kernel_rfl
    · kernel_rfl
    · kernel_rfl
    · kernel_rfl
    · kernel_rfl
    · kernel_rfl
    · kernel_rfl
    · kernel_rfl
    · exact fun h => absurd rfl h
    · intro u
      simp only [List.take_succ_cons, List.take_zero, List.map_cons, List.map_nil, fillU, List.setIfInBounds_toArray, List.set_cons_zero, List.set_cons_succ, Nat.zero_add, Nat.reduceAdd]
      exact rfl
    · simp only [List.take_succ_cons, List.take_zero]
      refine ⟨fun u W hb hd K hK => ?_, ?_⟩
      · clear hd
        rw [if_pos (by rfl)]
        refine wp_load_mid 22 (.tmp 3) rfl (g1) 0 rfl (s.map B8) _ (rangeAt_of_blk (hB.below hb hB.lt)) Tryd.underlying22 rfl (info32.trans (by rw [List.length_map, HS.out])) ?_
        exact hK _ _ _ rfl (Below.refl _ _) IsOut
      refine ⟨fun u W hb hd K hK => ?_, ?_⟩
      · simp only [Facts, nthR, Is, and_true] at hd
        simp only [hd] at hK ⊢
        clear hd
        go_simp
        refine (H3.out _ ((ht.below hbw).below hb)).mono ?_
        rintro e wy ⟨rfl, hby⟩
        exact hK _ _ _ rfl hby IsOut
      refine ⟨fun u W hb hd K hK => ?_, ?_⟩
      · clear hd
        rw [if_pos (by rfl)]
        refine wp_load_mid 22 (.tmp 3) rfl (g1) 0 rfl (s.map B8) _ (rangeAt_of_blk (hB.below hb hB.lt)) Tryd.underlying22 rfl (info32.trans (by rw [List.length_map, HS.out])) ?_
        exact hK _ _ _ rfl (Below.refl _ _) IsOut
      refine ⟨fun u W hb hd K hK => ?_, ?_⟩
      · simp only [Facts, nthR, Is, and_true] at hd
        simp only [hd] at hK ⊢
        clear hd
        go_simp
        refine (H4.out _ ((ht.below hbw).below hb)).mono ?_
        rintro e wy ⟨rfl, hby⟩
        exact hK _ _ _ rfl hby IsOut
      refine ⟨fun u W hb hd K hK => ?_, ?_⟩
      · clear hd
        go_simp
        apply hK
        · simp only [Act.put, List.setIfInBounds_toArray, List.set_cons_zero, List.set_cons_succ]
          exact rfl
        · exact (Below.refl _ _).alloc (Nat.le_refl _) _
        · exact ⟨_, rfl, hb.size, Blk.new_of _ _ _ _ (by rfl)⟩
        · exact ⟨_, rfl, Nat.le_refl _, by simp⟩
      refine ⟨fun u W hb hd K hK => ?_, ?_⟩
      · clear hd
        go_simp
        apply hK
        · simp only [Act.put, List.setIfInBounds_toArray, List.set_cons_zero, List.set_cons_succ]
          exact rfl
        · exact (Below.refl _ _).alloc (Nat.le_refl _) _
        · exact ⟨_, rfl, hb.size, Blk.new_of _ _ _ _ (by rfl)⟩
        · exact ⟨_, rfl, Nat.le_refl _, by simp⟩
      exact trivial
    · skip
      exact trivial
    · exact (.is (.is (.is (.is (.cons (fun v V V' ⟨g, h1, h2, h3⟩ hb => ⟨g, h1, h2, h3.below hb h3.lt⟩) (.cons (fun v V V' ⟨g, h1, h2, h3⟩ hb => ⟨g, h1, h2, h3.below hb h3.lt⟩) .nil))))))
    · intro u W hb hd hne
      simp only [List.drop_succ_cons, List.drop_zero]
      simp only [Facts, nthR, Is, and_true] at hd
      obtain ⟨e1, e2, ⟨ga, e3, hga, hS⟩, ⟨gb', e4, hgb, hT⟩⟩ := hd
      have hgn : ga ≠ gb' := fun e => hne 4 5 rfl rfl (by decide) (by decide) (by decide) (by rw [e3, e4, e])
      simp only [e1, e2, e3, e4]
      clear e1 e2 e3 e4 hne
      go_wp2_with (first
        | ((with_reducible refine (?_ : wpList _ _ _ (Oper.mk none (.store 22 (.tmp 7) _) _ _ _ _ :: _) _ _)); refine wpList_store_blk rfl 22 (.tmp 7) (.tmp 18) rfl rfl (ga) _ rfl rfl 22 _ hS (info32.trans (by rw [List.length_map, L3.out])) (by rw [List.length_map, List.length_map, L3.out, HZL.out]) (one8 _) ?_; intro w4 hX7 hg1; replace hT := hT.grown hg1 (fun h => hgn (by have := Option.some.inj h; omega)); replace hb := below_new hb hg1 hga hb.size)
        | ((with_reducible refine (?_ : wpList _ _ _ (Oper.mk none (.store 22 (.tmp 8) _) _ _ _ _ :: _) _ _)); refine wpList_store_blk rfl 22 (.tmp 8) (.tmp 20) rfl rfl (gb') _ rfl rfl 22 _ hT (info32.trans (by rw [List.length_map, L4.out])) (by rw [List.length_map, List.length_map, L4.out, HZL.out]) (one8 _) ?_; intro w5 hX8 hg2; replace hX7 := hX7.grown hg2 (fun h => hgn (by have := Option.some.inj h; omega)); replace hb := below_new hb hg2 hgb hb.size))
      replace hA := hA.below hb hA.lt
      replace hB := hB.below hb hB.lt
      replace hX5 := hX5.below hb hX5.lt
      replace hX6 := hX6.below hb hX6.lt
      replace hbw := hbw.trans (hb.mono hbw.size)
      clear hb
      clear hg1 hg2 hga hgb hgn hS hT
      clear hz
      have hcA := fun (W : World) (h : Below w5.heap.size w5 W) => conv_in HP.out (in_of_blk hA HP.out h)
      have hcB := fun (W : World) (h : Below w5.heap.size w5 W) => conv_in HS.out (in_of_blk hB HS.out h)
      apply wp_region_once (D := [[], [0], [], [2], [0, 1], [0, 1, 2, 3, 4]]) (J := [[], [0], [], [2], [1], [3]]) (Je := [4, 5]) (Rs := [Is _, Is _, Is _, Is _, Is _, Is _])
      · kernel_rfl
      · kernel_rfl
      · kernel_rfl
      · kernel_rfl
      · kernel_rfl
      · kernel_rfl
      · intro u
        simp only [List.map_cons, List.map_nil, fillU, List.setIfInBounds_toArray, List.set_cons_zero, List.set_cons_succ, Nat.zero_add, Nat.reduceAdd]
        exact rfl
      · skip
        refine ⟨fun u W hb hd K hK => ?_, ?_⟩
        · clear hd
          go_simp
          apply hK
          · simp only [Act.put, List.setIfInBounds_toArray, List.set_cons_zero, List.set_cons_succ]
            exact rfl
          · exact Below.refl _ _
          · exact IsOut
        refine ⟨fun u W hb hd K hK => ?_, ?_⟩
        · simp only [Facts, nthR, Is, and_true] at hd
          simp only [hd] at hK ⊢
          clear hd
          go_simp
          apply hK
          · simp only [Act.put, List.setIfInBounds_toArray, List.set_cons_zero, List.set_cons_succ]
            exact rfl
          · exact Below.refl _ _
          · exact IsOut
        refine ⟨fun u W hb hd K hK => ?_, ?_⟩
        · clear hd
          go_simp
          apply hK
          · simp only [Act.put, List.setIfInBounds_toArray, List.set_cons_zero, List.set_cons_succ]
            exact rfl
          · exact Below.refl _ _
          · exact IsOut
        refine ⟨fun u W hb hd K hK => ?_, ?_⟩
        · simp only [Facts, nthR, Is, and_true] at hd
          simp only [hd] at hK ⊢
          clear hd
          go_simp
          apply hK
          · simp only [Act.put, List.setIfInBounds_toArray, List.set_cons_zero, List.set_cons_succ]
            exact rfl
          · exact Below.refl _ _
          · exact IsOut
        refine ⟨fun u W hb hd K hK => ?_, ?_⟩
        · simp only [Facts, nthR, Is, and_true] at hd
          simp only [hd] at hK ⊢
          clear hd
          go_simp
          apply hK
          · simp only [Act.put, List.setIfInBounds_toArray, List.set_cons_zero, List.set_cons_succ]
            exact rfl
          · exact Below.refl _ _
          · exact IsOut
        refine ⟨fun u W hb hd K hK => ?_, ?_⟩
        · simp only [Facts, nthR, Is, and_true] at hd
          simp only [hd] at hK ⊢
          clear hd
          go_simp
          apply hK
          · simp only [Act.put, List.setIfInBounds_toArray, List.set_cons_zero, List.set_cons_succ]
            exact rfl
          · exact Below.refl _ _
          · exact IsOut
        exact trivial
      · exact (.is (.is (.is (.is (.is (.is .nil))))))
      · intro u W hb hd
        simp only [Facts, nthR, Is, and_true] at hd
        simp only [hd]
        replace hA := hA.below hb hA.lt
        replace hB := hB.below hb hB.lt
        replace hX5 := hX5.below hb hX5.lt
        replace hX6 := hX6.below hb hX6.lt
        replace hX7 := hX7.below hb hX7.lt
        replace hX8 := hX8.below hb hX8.lt
        replace hbw := hbw.trans (hb.mono hbw.size)
        clear hb hcA hcB
        go_wp2
        have hc5 := fun (V : World) (h : Below W.heap.size W V) => conv_in L1.out (in_of_blk hX5 L1.out h)
        have hc6 := fun (V : World) (h : Below W.heap.size W V) => conv_in L2.out (in_of_blk hX6 L2.out h)
        have hc7 := fun (V : World) (h : Below W.heap.size W V) => conv_in L3.out (in_of_blk hX7 L3.out h)
        have hc8 := fun (V : World) (h : Below W.heap.size W V) => conv_in L4.out (in_of_blk hX8 L4.out h)
        have hcl := HCL.out
        clear hA hX5 hX6 hX7 hX8
        apply wp_region_once (D := [[], [0], [0, 1], [0, 1, 2], [0, 1], [0, 1], [0, 1, 4, 5], [0, 1, 2, 3, 4, 5, 6], [0, 1, 2, 3, 4, 5, 6, 7], [0, 1, 2, 3, 4, 5, 6, 7, 8], [0, 1, 2, 3, 4, 5, 6, 7, 8, 9], [0, 1, 2, 3, 4, 5, 6, 7, 8, 9, 10], [0, 1, 2, 3, 4, 5, 6, 7, 8, 9], [0, 1, 2, 3, 4, 5, 6, 7, 8, 9], [0, 1, 2, 3, 4, 5, 6, 7, 8, 9, 12, 13], [0, 1, 2, 3, 4, 5, 6, 7, 8, 9, 10, 11, 12, 13, 14], [0, 1, 2, 3, 4, 5, 6, 7, 8, 9, 10, 11, 12, 13, 14, 15], [0, 1, 2, 3, 4, 5, 6, 7, 8, 9, 10, 11, 12, 13, 14, 15, 16], [0, 1, 2, 3, 4, 5, 6, 7, 8, 9, 10, 11, 12, 13, 14, 15, 16, 17], [0, 1, 2, 3, 4, 5, 6, 7, 8, 9, 10, 11, 12, 13, 14, 15, 16, 17, 18], [0, 1, 2, 3, 4, 5, 6, 7, 8, 9, 10, 11, 12, 13, 14, 15, 16, 17], [0, 1, 2, 3, 4, 5, 6, 7, 8, 9, 10, 11, 12, 13, 14, 15, 16, 17, 20], [0, 1, 2, 3, 4, 5, 6, 7, 8, 9, 10, 11, 12, 13, 14, 15, 16, 17, 18, 19, 20, 21], [0, 1, 2, 3, 4, 5, 6, 7, 8, 9, 10, 11, 12, 13, 14, 15, 16, 17, 18, 19, 20, 21, 22], [0, 1, 2, 3, 4, 5, 6, 7, 8, 9, 10, 11, 12, 13, 14, 15, 16, 17, 18, 19, 20, 21, 22, 23], [0, 1, 2, 3, 4, 5, 6, 7, 8, 9, 10, 11, 12, 13, 14, 15, 16, 17, 18, 19, 20, 21, 22, 23, 24], [0, 1, 2, 3, 4, 5, 6, 7, 8, 9, 10, 11, 12, 13, 14, 15, 16, 17, 18, 19, 20, 21, 22, 23, 24, 25], [0, 1, 2, 3, 4, 5, 6, 7, 8, 9, 10, 11, 12, 13, 14, 15, 16, 17, 18, 19, 20, 21, 22, 23, 24], [0, 1, 2, 3, 4, 5, 6, 7, 8, 9, 10, 11, 12, 13, 14, 15, 16, 17, 18, 19, 20, 21, 22, 23, 24, 27], [0, 1, 2, 3, 4, 5, 6, 7, 8, 9, 10, 11, 12, 13, 14, 15, 16, 17, 18, 19, 20, 21, 22, 23, 24, 25, 26, 27, 28], [0, 1, 2, 3, 4, 5, 6, 7, 8, 9, 10, 11, 12, 13, 14, 15, 16, 17, 18, 19, 20, 21, 22, 23, 24, 25, 26, 27, 28, 29], [0, 1, 2, 3, 4, 5, 6, 7, 8, 9, 10, 11, 12, 13, 14, 15, 16, 17, 18, 19, 20, 21, 22, 23, 24, 25, 26, 27, 28, 29, 30], [0, 1, 2, 3, 4, 5, 6, 7, 8, 9, 10, 11, 12, 13, 14, 15, 16, 17, 18, 19, 20, 21, 22, 23, 24, 25, 26, 27, 28, 29, 30, 31], [0, 1, 2, 3, 4, 5, 6, 7, 8, 9, 10, 11, 12, 13, 14, 15, 16, 17, 18, 19, 20, 21, 22, 23, 24, 25, 26, 27, 28, 29, 30, 31, 32], [0, 1, 2, 3, 4, 5, 6, 7, 8, 9, 10, 11, 12, 13, 14, 15, 16, 17, 18, 19, 20, 21, 22, 23, 24, 25, 26, 27, 28, 29, 30, 31, 32, 33], [0, 1, 2, 3, 4, 5, 6, 7, 8, 9, 10, 11, 12, 13, 14, 15, 16, 17, 18, 19, 20, 21, 22, 23, 24, 25, 26, 27, 28, 29, 30, 31], [0, 1, 2, 3, 4, 5, 6, 7, 8, 9, 10, 11, 12, 13, 14, 15, 16, 17, 18, 19, 20, 21, 22, 23, 24, 25, 26, 27, 28, 29, 30, 31, 35], [0, 1, 2, 3, 4, 5, 6, 7, 8, 9, 10, 11, 12, 13, 14, 15, 16, 17, 18, 19, 20, 21, 22, 23, 24, 25, 26, 27, 28, 29, 30, 31, 32, 33, 34, 35, 36], [0, 1, 2, 3, 4, 5, 6, 7, 8, 9, 10, 11, 12, 13, 14, 15, 16, 17, 18, 19, 20, 21, 22, 23, 24, 25, 26, 27, 28, 29, 30, 31, 32, 33, 34, 35, 36, 37], [0, 1, 2, 3, 4, 5, 6, 7, 8, 9, 10, 11, 12, 13, 14, 15, 16, 17, 18, 19, 20, 21, 22, 23, 24, 25, 26, 27, 28, 29, 30, 31, 32, 33, 34, 35, 36, 37, 38]]) (J := [[], [0], [1], [1, 2], [1], [1], [1, 4, 5], [1, 3, 6], [1, 7], [8], [9], [9, 10], [9], [9], [9, 12, 13], [9, 11, 14], [9, 15], [16], [17], [17, 18], [17], [17, 20], [17, 19, 21], [17, 22], [23], [24], [24, 25], [24], [24, 27], [24, 26, 28], [24, 29], [30], [31], [31, 32], [31, 33], [31], [31, 35], [31, 34, 36], [31, 37], [38]]) (Je := [39]) (Rs := [Is _, Is _, Is _, Is _, Is _, Is _, Is _, Is _, Is _, Is _, Is _, Is _, Is _, Is _, Is _, Is _, Is _, Is _, Is _, Is _, Is _, Is _, Is _, Is _, Is _, Is _, Is _, Is _, Is _, Is _, Is _, Is _, Is _, fun v V => ∃ (A : Option Addr) (c : Nat), v = .slice A 36 c ∧ In V V.heap.size A c M, Is _, Is _, Is _, Is _, Is _, Is _])
        · kernel_rfl
        · kernel_rfl
        · kernel_rfl
        · kernel_rfl
        · kernel_rfl
        · kernel_rfl
        · intro u
          simp only [List.map_cons, List.map_nil, fillU, List.setIfInBounds_toArray, List.set_cons_zero, List.set_cons_succ, Nat.zero_add, Nat.reduceAdd]
          exact rfl
        · skip
          refine ⟨fun u V hb hd K hK => ?_, ?_⟩
          · clear hd
            go_simp
            refine (lawEarly_any _ ((ht.below hbw).below hb)).mono ?_
            rintro e wy ⟨rfl, hby⟩
            exact hK _ _ _ rfl hby IsOut
          refine ⟨fun u V hb hd K hK => ?_, ?_⟩
          · simp only [Facts, nthR, Is, and_true] at hd
            simp only [hd] at hK ⊢
            clear hd
            go_simp
            apply hK
            · simp only [Act.put, List.setIfInBounds_toArray, List.set_cons_zero, List.set_cons_succ]
              exact rfl
            · exact Below.refl _ _
            · exact IsOut
          refine ⟨fun u V hb hd K hK => ?_, ?_⟩
          · simp only [Facts, nthR, Is, and_true] at hd
            simp only [hd] at hK ⊢
            clear hd
            go_simp
            apply hK
            · simp only [Act.put, List.setIfInBounds_toArray, List.set_cons_zero, List.set_cons_succ]
              exact rfl
            · exact Below.refl _ _
            · exact IsOut
          refine ⟨fun u V hb hd K hK => ?_, ?_⟩
          · simp only [Facts, nthR, Is, and_true] at hd
            simp only [hd] at hK ⊢
            clear hd
            go_simp
            apply hK
            · simp only [Act.put, List.setIfInBounds_toArray, List.set_cons_zero, List.set_cons_succ]
              exact rfl
            · exact Below.refl _ _
            · exact IsOut
          refine ⟨fun u V hb hd K hK => ?_, ?_⟩
          · simp only [Facts, nthR, Is, and_true] at hd
            simp only [hd] at hK ⊢
            clear hd
            go_simp
            apply hK
            · simp only [Act.put, List.setIfInBounds_toArray, List.set_cons_zero, List.set_cons_succ]
              exact rfl
            · exact Below.refl _ _
            · exact IsOut
          refine ⟨fun u V hb hd K hK => ?_, ?_⟩
          · simp only [Facts, nthR, Is, and_true] at hd
            simp only [hd] at hK ⊢
            clear hd
            go_simp
            apply hK
            · simp only [Act.put, List.setIfInBounds_toArray, List.set_cons_zero, List.set_cons_succ]
              exact rfl
            · exact Below.refl _ _
            · exact IsOut
          refine ⟨fun u V hb hd K hK => ?_, ?_⟩
          · simp only [Facts, nthR, Is, and_true] at hd
            simp only [hd] at hK ⊢
            clear hd
            go_simp
            refine (R1.out _).mono ?_
            rintro e wy ⟨rfl, hby⟩
            exact hK _ _ _ rfl hby IsOut
          refine ⟨fun u V hb hd K hK => ?_, ?_⟩
          · simp only [Facts, nthR, Is, and_true] at hd
            simp only [hd] at hK ⊢
            clear hd
            go_simp
            apply hK
            · simp only [Act.put, List.setIfInBounds_toArray, List.set_cons_zero, List.set_cons_succ]
              exact rfl
            · exact Below.refl _ _
            · exact IsOut
          refine ⟨fun u V hb hd K hK => ?_, ?_⟩
          · simp only [Facts, nthR, Is, and_true] at hd
            simp only [hd] at hK ⊢
            clear hd
            go_simp
            apply hK
            · simp only [Act.put, List.setIfInBounds_toArray, List.set_cons_zero, List.set_cons_succ]
              exact rfl
            · exact Below.refl _ _
            · exact IsOut
          refine ⟨fun u V hb hd K hK => ?_, ?_⟩
          · simp only [Facts, nthR, Is, and_true] at hd
            simp only [hd] at hK ⊢
            clear hd
            go_simp
            apply hK
            · simp only [Act.put, List.setIfInBounds_toArray, List.set_cons_zero, List.set_cons_succ]
              exact rfl
            · exact Below.refl _ _
            · exact IsOut
          refine ⟨fun u V hb hd K hK => ?_, ?_⟩
          · simp only [Facts, nthR, Is, and_true] at hd
            simp only [hd] at hK ⊢
            clear hd
            go_simp
            apply hK
            · simp only [Act.put, List.setIfInBounds_toArray, List.set_cons_zero, List.set_cons_succ]
              exact rfl
            · exact Below.refl _ _
            · exact IsOut
          refine ⟨fun u V hb hd K hK => ?_, ?_⟩
          · simp only [Facts, nthR, Is, and_true] at hd
            simp only [hd] at hK ⊢
            clear hd
            go_simp
            apply hK
            · simp only [Act.put, List.setIfInBounds_toArray, List.set_cons_zero, List.set_cons_succ]
              exact rfl
            · exact Below.refl _ _
            · exact IsOut
          refine ⟨fun u V hb hd K hK => ?_, ?_⟩
          · simp only [Facts, nthR, Is, and_true] at hd
            simp only [hd] at hK ⊢
            clear hd
            go_simp
            apply hK
            · simp only [Act.put, List.setIfInBounds_toArray, List.set_cons_zero, List.set_cons_succ]
              exact rfl
            · exact Below.refl _ _
            · exact IsOut
          refine ⟨fun u V hb hd K hK => ?_, ?_⟩
          · simp only [Facts, nthR, Is, and_true] at hd
            simp only [hd] at hK ⊢
            clear hd
            go_simp
            apply hK
            · simp only [Act.put, List.setIfInBounds_toArray, List.set_cons_zero, List.set_cons_succ]
              exact rfl
            · exact Below.refl _ _
            · exact IsOut
          refine ⟨fun u V hb hd K hK => ?_, ?_⟩
          · simp only [Facts, nthR, Is, and_true] at hd
            simp only [hd] at hK ⊢
            clear hd
            go_simp
            refine (R2.out _).mono ?_
            rintro e wy ⟨rfl, hby⟩
            exact hK _ _ _ rfl hby IsOut
          refine ⟨fun u V hb hd K hK => ?_, ?_⟩
          · simp only [Facts, nthR, Is, and_true] at hd
            simp only [hd] at hK ⊢
            clear hd
            go_simp
            apply hK
            · simp only [Act.put, List.setIfInBounds_toArray, List.set_cons_zero, List.set_cons_succ]
              exact rfl
            · exact Below.refl _ _
            · exact IsOut
          refine ⟨fun u V hb hd K hK => ?_, ?_⟩
          · simp only [Facts, nthR, Is, and_true] at hd
            simp only [hd] at hK ⊢
            clear hd
            go_simp
            apply hK
            · simp only [Act.put, List.setIfInBounds_toArray, List.set_cons_zero, List.set_cons_succ]
              exact rfl
            · exact Below.refl _ _
            · exact IsOut
          refine ⟨fun u V hb hd K hK => ?_, ?_⟩
          · simp only [Facts, nthR, Is, and_true] at hd
            simp only [hd] at hK ⊢
            clear hd
            go_simp
            apply hK
            · simp only [Act.put, List.setIfInBounds_toArray, List.set_cons_zero, List.set_cons_succ]
              exact rfl
            · exact Below.refl _ _
            · exact IsOut
          refine ⟨fun u V hb hd K hK => ?_, ?_⟩
          · simp only [Facts, nthR, Is, and_true] at hd
            simp only [hd] at hK ⊢
            clear hd
            go_simp
            apply hK
            · simp only [Act.put, List.setIfInBounds_toArray, List.set_cons_zero, List.set_cons_succ]
              exact rfl
            · exact Below.refl _ _
            · exact IsOut
          refine ⟨fun u V hb hd K hK => ?_, ?_⟩
          · simp only [Facts, nthR, Is, and_true] at hd
            simp only [hd] at hK ⊢
            clear hd
            go_simp
            apply hK
            · simp only [Act.put, List.setIfInBounds_toArray, List.set_cons_zero, List.set_cons_succ]
              exact rfl
            · exact Below.refl _ _
            · exact IsOut
          refine ⟨fun u V hb hd K hK => ?_, ?_⟩
          · simp only [Facts, nthR, Is, and_true] at hd
            simp only [hd] at hK ⊢
            clear hd
            go_simp
            apply hK
            · simp only [Act.put, List.setIfInBounds_toArray, List.set_cons_zero, List.set_cons_succ]
              exact rfl
            · exact Below.refl _ _
            · exact IsOut
          refine ⟨fun u V hb hd K hK => ?_, ?_⟩
          · simp only [Facts, nthR, Is, and_true] at hd
            simp only [hd] at hK ⊢
            clear hd
            go_simp
            refine (R3.out _).mono ?_
            rintro e wy ⟨rfl, hby⟩
            exact hK _ _ _ rfl hby IsOut
          refine ⟨fun u V hb hd K hK => ?_, ?_⟩
          · simp only [Facts, nthR, Is, and_true] at hd
            simp only [hd] at hK ⊢
            clear hd
            go_simp
            apply hK
            · simp only [Act.put, List.setIfInBounds_toArray, List.set_cons_zero, List.set_cons_succ]
              exact rfl
            · exact Below.refl _ _
            · exact IsOut
          refine ⟨fun u V hb hd K hK => ?_, ?_⟩
          · simp only [Facts, nthR, Is, and_true] at hd
            simp only [hd] at hK ⊢
            clear hd
            go_simp
            apply hK
            · simp only [Act.put, List.setIfInBounds_toArray, List.set_cons_zero, List.set_cons_succ]
              exact rfl
            · exact Below.refl _ _
            · exact IsOut
          refine ⟨fun u V hb hd K hK => ?_, ?_⟩
          · simp only [Facts, nthR, Is, and_true] at hd
            simp only [hd] at hK ⊢
            clear hd
            go_simp
            apply hK
            · simp only [Act.put, List.setIfInBounds_toArray, List.set_cons_zero, List.set_cons_succ]
              exact rfl
            · exact Below.refl _ _
            · exact IsOut
          refine ⟨fun u V hb hd K hK => ?_, ?_⟩
          · simp only [Facts, nthR, Is, and_true] at hd
            simp only [hd] at hK ⊢
            clear hd
            go_simp
            apply hK
            · simp only [Act.put, List.setIfInBounds_toArray, List.set_cons_zero, List.set_cons_succ]
              exact rfl
            · exact Below.refl _ _
            · exact IsOut
          refine ⟨fun u V hb hd K hK => ?_, ?_⟩
          · simp only [Facts, nthR, Is, and_true] at hd
            simp only [hd] at hK ⊢
            clear hd
            go_simp
            apply hK
            · simp only [Act.put, List.setIfInBounds_toArray, List.set_cons_zero, List.set_cons_succ]
              exact rfl
            · exact Below.refl _ _
            · exact IsOut
          refine ⟨fun u V hb hd K hK => ?_, ?_⟩
          · simp only [Facts, nthR, Is, and_true] at hd
            simp only [hd] at hK ⊢
            clear hd
            go_simp
            apply hK
            · simp only [Act.put, List.setIfInBounds_toArray, List.set_cons_zero, List.set_cons_succ]
              exact rfl
            · exact Below.refl _ _
            · exact IsOut
          refine ⟨fun u V hb hd K hK => ?_, ?_⟩
          · simp only [Facts, nthR, Is, and_true] at hd
            simp only [hd] at hK ⊢
            clear hd
            go_simp
            refine (R4.out _).mono ?_
            rintro e wy ⟨rfl, hby⟩
            exact hK _ _ _ rfl hby IsOut
          refine ⟨fun u V hb hd K hK => ?_, ?_⟩
          · simp only [Facts, nthR, Is, and_true] at hd
            simp only [hd] at hK ⊢
            clear hd
            go_simp
            apply hK
            · simp only [Act.put, List.setIfInBounds_toArray, List.set_cons_zero, List.set_cons_succ]
              exact rfl
            · exact Below.refl _ _
            · exact IsOut
          refine ⟨fun u V hb hd K hK => ?_, ?_⟩
          · simp only [Facts, nthR, Is, and_true] at hd
            simp only [hd] at hK ⊢
            clear hd
            go_simp
            apply hK
            · simp only [Act.put, List.setIfInBounds_toArray, List.set_cons_zero, List.set_cons_succ]
              exact rfl
            · exact Below.refl _ _
            · exact IsOut
          refine ⟨fun u V hb hd K hK => ?_, ?_⟩
          · simp only [Facts, nthR, Is, and_true] at hd
            simp only [hd] at hK ⊢
            clear hd
            go_simp
            apply hK
            · simp only [Act.put, List.setIfInBounds_toArray, List.set_cons_zero, List.set_cons_succ]
              exact rfl
            · exact Below.refl _ _
            · exact IsOut
          refine ⟨fun u V hb hd K hK => ?_, ?_⟩
          · simp only [Facts, nthR, Is, and_true] at hd
            simp only [hd] at hK ⊢
            clear hd
            rw [if_pos (by rfl)]
            refine wp_load_mid 22 (.tmp 3) rfl (g1) 0 rfl (s.map B8) _ (rangeAt_of_blk (hB.below hb hB.lt)) Tryd.underlying22 rfl (info32.trans (by rw [List.length_map, HS.out])) ?_
            exact hK _ _ _ rfl (Below.refl _ _) IsOut
          refine ⟨fun u V hb hd K hK => ?_, ?_⟩
          · simp only [Facts, nthR, Is, and_true] at hd
            simp only [hd] at hK ⊢
            clear hd
            go_simp
            refine (HR.out _).mono ?_
            rintro e wy ⟨A, c, rfl, hi, hby⟩
            exact hK _ _ _ rfl hby ⟨A, c, rfl, hi⟩
          refine ⟨fun u V hb hd K hK => ?_, ?_⟩
          · simp only [Facts, nthR, Is, and_true] at hd
            obtain ⟨hgd, A, c, h33, hi⟩ := hd
            simp only [h33, hgd] at hK ⊢
            clear h33 hgd
            have hcv := conv_in L36.out hi
            go_simp
            apply hK
            · simp only [Act.put, List.setIfInBounds_toArray, List.set_cons_zero, List.set_cons_succ]
              exact rfl
            · exact Below.refl _ _
            · exact IsOut
          refine ⟨fun u V hb hd K hK => ?_, ?_⟩
          · simp only [Facts, nthR, Is, and_true] at hd
            simp only [hd] at hK ⊢
            clear hd
            go_simp
            apply hK
            · simp only [Act.put, List.setIfInBounds_toArray, List.set_cons_zero, List.set_cons_succ]
              exact rfl
            · exact Below.refl _ _
            · exact IsOut
          refine ⟨fun u V hb hd K hK => ?_, ?_⟩
          · simp only [Facts, nthR, Is, and_true] at hd
            simp only [hd] at hK ⊢
            clear hd
            go_simp
            rw [HCA.out]
            apply hK
            · simp only [Act.put, List.setIfInBounds_toArray, List.set_cons_zero, List.set_cons_succ]
              exact rfl
            · exact Below.refl _ _
            · exact IsOut
          refine ⟨fun u V hb hd K hK => ?_, ?_⟩
          · simp only [Facts, nthR, Is, and_true] at hd
            simp only [hd] at hK ⊢
            clear hd
            go_simp
            apply hK
            · simp only [Act.put, List.setIfInBounds_toArray, List.set_cons_zero, List.set_cons_succ]
              exact rfl
            · exact Below.refl _ _
            · exact IsOut
          refine ⟨fun u V hb hd K hK => ?_, ?_⟩
          · simp only [Facts, nthR, Is, and_true] at hd
            simp only [hd] at hK ⊢
            clear hd
            go_simp
            apply hK
            · simp only [Act.put, List.setIfInBounds_toArray, List.set_cons_zero, List.set_cons_succ]
              exact rfl
            · exact Below.refl _ _
            · exact IsOut
          refine ⟨fun u V hb hd K hK => ?_, ?_⟩
          · simp only [Facts, nthR, Is, and_true] at hd
            simp only [hd] at hK ⊢
            clear hd
            go_simp
            apply hK
            · simp only [Act.put, List.setIfInBounds_toArray, List.set_cons_zero, List.set_cons_succ]
              exact rfl
            · exact Below.refl _ _
            · exact IsOut
          exact trivial
        · exact (.is (.is (.is (.is (.is (.is (.is (.is (.is (.is (.is (.is (.is (.is (.is (.is (.is (.is (.is (.is (.is (.is (.is (.is (.is (.is (.is (.is (.is (.is (.is (.is (.is (.cons (fun v V V' ⟨A, c, h1, h2⟩ hb => ⟨A, c, h1, in_up h2 hb⟩) (.is (.is (.is (.is (.is (.is .nil))))))))))))))))))))))))))))))))))))))))
        · intro u V hb hd
          simp only [Facts, nthR, Is, and_true] at hd
          simp only [hd]
          have hfin := hbw.trans (hb.mono hbw.size)
          go_wp2
          go_ret
          exact ⟨rfl, hfin⟩
end Go.Proofs.YtdjhempfpgcigaaDoor
