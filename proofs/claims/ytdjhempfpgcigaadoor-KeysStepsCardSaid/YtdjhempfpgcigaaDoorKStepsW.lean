/-
  The walk of the statement KeysSteps.
-/
import Derived.Test.YtdjhempfpgcigaaDoorKl
namespace Go.Proofs.YtdjhempfpgcigaaDoor
open Go.RowKit

set_option maxRecDepth 100000 in
set_option maxHeartbeats 1000000 in
theorem keysSteps_walk (p s : List UInt8) (w : World) (hp : p.length = 32) (hs : s.length = 32) (ht : Tabs w) :
    Calls Tryd.prog 3 #[.agg (p.map B8).toArray, .agg (s.map B8).toArray] w fun e w' => e = .returned (.bool true) ∧ Below w.heap.size w w' := by
  have h1 := fun (W : World) (h : Tabs W) => early_any p W hp h
  have r1 := fun (W : World) => refEarly_any p W hp
  have l1 := earlyS_length p
  generalize earlyS p = E at *
  have h2 := fun (W : World) (h : Tabs W) => handshake_any E s W l1 hs h
  have r2 := fun (W : World) => refHands_any E s W l1 hs
  have l2 := nextS_length E s
  generalize nextS E s = N at *
  have h3 := fun (W : World) (h : Tabs W) => master_any N W l2 h
  have r3 := fun (W : World) => refMaster_any N W l2
  have l3 := nextS_length N zero32
  generalize nextS N zero32 = M at *
  have hz : ∀ W : World, (zeroValue 22).run Tryd.prog W = .ok (.agg (zero32.map B8).toArray) W := fun W => by kernel_rfl
  obtain ⟨Z, hZ⟩ : ∃ Z, Z = zero32 := ⟨_, rfl⟩
  have HZL := Lib.hid (show Z.length = 32 by rw [hZ]; rfl)
  rw [← hZ] at hz
  have H1 := Lib.hid h1
  have H2 := Lib.hid h2
  have H3 := Lib.hid h3
  have R1 := Lib.hid r1
  have R2 := Lib.hid r2
  have R3 := Lib.hid r3
  have L1 := Lib.hid l1
  have L2 := Lib.hid l2
  have L3 := Lib.hid l3
  have HP := Lib.hid hp
  have HS := Lib.hid hs
  clear h1 h2 h3 r1 r2 r3 l1 l2 l3 hp hs hZ
  have hA : Blk ((w.alloc (.cells (p.map B8).toArray 22)).alloc (.cells (s.map B8).toArray 22)) w.heap.size 22 _ := (Blk.new_of w 22 _ _ rfl).alloc _
  have hB : Blk ((w.alloc (.cells (p.map B8).toArray 22)).alloc (.cells (s.map B8).toArray 22)) (w.heap.size + 1) 22 _ := Blk.new2_of w (.cells (p.map B8).toArray 22) 22 _ _ rfl
  have hbw : Below w.heap.size w ((w.alloc (.cells (p.map B8).toArray 22)).alloc (.cells (s.map B8).toArray 22)) := ((Below.refl w.heap.size w).alloc (Nat.le_refl _) _).alloc (by simp) _
  go_enter Tryd.func3, Tryd.ntmps3
  go_wp2_with (first
    | ((with_reducible refine (?_ : wpList _ _ _ (Oper.mk (some 10) _ _ _ _ _ :: _) _ _)); go_loud (refine wpList_load_blk rfl 22 (.tmp 2) rfl (w.heap.size) rfl 22 _ _ hA Tryd.underlying22 rfl (info32.trans (by rw [List.length_map, HP.out])) ?_))
    | (go_at_call 7; refine (H1.out _ (ht.below hbw)).mono ?_; rintro e w2 ⟨rfl, hb2⟩; replace hA := hA.below hb2 hA.lt; replace hB := hB.below hb2 hB.lt; replace hbw := hbw.trans (hb2.mono hbw.size); clear hb2)
    | (refine wpList_store_blk rfl 22 (.tmp 5) (.tmp 11) rfl rfl (w2.heap.size) _ rfl rfl 22 _ (Blk.new_of w2 22 _ _ rfl) (info32.trans (by rw [List.length_map, L1.out])) (by rw [List.length_map, List.length_map, L1.out, HZL.out]) (one8 _) ?_; intro w3 hE hg3; have hb' := below_new ((Below.refl w2.heap.size w2).alloc (Nat.le_refl _) _) hg3 (Nat.le_refl _) (by simp); clear hg3; replace hA := hA.below hb' hA.lt; replace hB := hB.below hb' hB.lt; replace hbw := hbw.trans (hb'.mono hbw.size); clear hb')
    | ((with_reducible refine (?_ : wpList _ _ _ (Oper.mk (some 12) _ _ _ _ _ :: _) _ _)); go_loud (refine wpList_load_blk rfl 22 (.tmp 5) rfl (w2.heap.size) rfl 22 _ _ hE Tryd.underlying22 rfl (info32.trans (by rw [List.length_map, L1.out])) ?_))
    | ((with_reducible refine (?_ : wpList _ _ _ (Oper.mk (some 13) _ _ _ _ _ :: _) _ _)); go_loud (refine wpList_load_blk rfl 22 (.tmp 3) rfl (w.heap.size + 1) rfl 22 _ _ hB Tryd.underlying22 rfl (info32.trans (by rw [List.length_map, HS.out])) ?_))
    | (go_at_call 8; refine (H2.out _ (ht.below hbw)).mono ?_; rintro e w4 ⟨rfl, hb4⟩; replace hA := hA.below hb4 hA.lt; replace hB := hB.below hb4 hB.lt; replace hE := hE.below hb4 hE.lt; replace hbw := hbw.trans (hb4.mono hbw.size); clear hb4)
    | (refine wpList_store_blk rfl 22 (.tmp 6) (.tmp 14) rfl rfl (w4.heap.size) _ rfl rfl 22 _ (Blk.new_of w4 22 _ _ rfl) (info32.trans (by rw [List.length_map, L2.out])) (by rw [List.length_map, List.length_map, L2.out, HZL.out]) (one8 _) ?_; intro w5 hN hg5; have hb' := below_new ((Below.refl w4.heap.size w4).alloc (Nat.le_refl _) _) hg5 (Nat.le_refl _) (by simp); clear hg5; replace hA := hA.below hb' hA.lt; replace hB := hB.below hb' hB.lt; replace hE := hE.below hb' hE.lt; replace hbw := hbw.trans (hb'.mono hbw.size); clear hb')
    | ((with_reducible refine (?_ : wpList _ _ _ (Oper.mk (some 15) _ _ _ _ _ :: _) _ _)); go_loud (refine wpList_load_blk rfl 22 (.tmp 6) rfl (w4.heap.size) rfl 22 _ _ hN Tryd.underlying22 rfl (info32.trans (by rw [List.length_map, L2.out])) ?_))
    | (go_at_call 9; refine (H3.out _ (ht.below hbw)).mono ?_; rintro e w6 ⟨rfl, hb6⟩; replace hA := hA.below hb6 hA.lt; replace hB := hB.below hb6 hB.lt; replace hE := hE.below hb6 hE.lt; replace hN := hN.below hb6 hN.lt; replace hbw := hbw.trans (hb6.mono hbw.size); clear hb6)
    | (refine wpList_store_blk rfl 22 (.tmp 7) (.tmp 16) rfl rfl (w6.heap.size) _ rfl rfl 22 _ (Blk.new_of w6 22 _ _ rfl) (info32.trans (by rw [List.length_map, L3.out])) (by rw [List.length_map, List.length_map, L3.out, HZL.out]) (one8 _) ?_; intro w7 hM hg7; have hb' := below_new ((Below.refl w6.heap.size w6).alloc (Nat.le_refl _) _) hg7 (Nat.le_refl _) (by simp); clear hg7; replace hA := hA.below hb' hA.lt; replace hB := hB.below hb' hB.lt; replace hE := hE.below hb' hE.lt; replace hN := hN.below hb' hN.lt; replace hbw := hbw.trans (hb'.mono hbw.size); clear hb')
    | ((with_reducible refine (?_ : wpList _ _ _ (Oper.mk (some 18) _ _ _ _ _ :: _) _ _)); go_loud (refine wpList_string_of rfl (.tmp 17) rfl p (some ⟨w.heap.size, 0, none⟩) 32 w7.heap.size (by rw [HP.out]; rfl) ((in_of_blk hA HP.out (Below.refl _ _)).src (Nat.le_refl _)) ?_))
    | (go_at_call 10; refine (R1.out _).mono ?_; rintro e w8 ⟨rfl, hb8⟩; replace hA := hA.below hb8 hA.lt; replace hB := hB.below hb8 hB.lt; replace hE := hE.below hb8 hE.lt; replace hN := hN.below hb8 hN.lt; replace hM := hM.below hb8 hM.lt; replace hbw := hbw.trans (hb8.mono hbw.size); clear hb8)
    | ((with_reducible refine (?_ : wpList _ _ _ (Oper.mk (some 22) _ _ _ _ _ :: _) _ _)); go_loud (refine wpList_string_of rfl (.tmp 21) rfl s (some ⟨w.heap.size + 1, 0, none⟩) 32 w8.heap.size (by rw [HS.out]; rfl) ((in_of_blk hB HS.out (Below.refl _ _)).src (Nat.le_refl _)) ?_))
    | (go_at_call 11; refine (R2.out _).mono ?_; rintro e w9 ⟨rfl, hb9⟩; replace hA := hA.below hb9 hA.lt; replace hB := hB.below hb9 hB.lt; replace hE := hE.below hb9 hE.lt; replace hN := hN.below hb9 hN.lt; replace hM := hM.below hb9 hM.lt; replace hbw := hbw.trans (hb9.mono hbw.size); clear hb9))
  have hc1 := fun (W : World) (h : Below w9.heap.size w9 W) => conv_in L1.out (in_of_blk hE L1.out h)
  have hc2 := fun (W : World) (h : Below w9.heap.size w9 W) => conv_in L2.out (in_of_blk hN L2.out h)
  have hc3 := fun (W : World) (h : Below w9.heap.size w9 W) => conv_in L3.out (in_of_blk hM L3.out h)
  clear hA hB hE hN hM
  apply wp_region_once (D := [[], [0], [0, 1], [0, 1, 2], [0, 1], [0, 1, 2, 3, 4], [0, 1, 2, 3, 4, 5], [0, 1, 2, 3, 4, 5, 6], [0, 1, 2, 3, 4, 5, 6, 7], [0, 1, 2, 3, 4, 5, 6, 7, 8], [0, 1, 2, 3, 4, 5, 6, 7], [0, 1, 2, 3, 4, 5, 6, 7, 8, 9, 10], [0, 1, 2, 3, 4, 5, 6, 7, 8, 9, 10, 11], [0, 1, 2, 3, 4, 5, 6, 7, 8, 9, 10, 11, 12], [0, 1, 2, 3, 4, 5, 6, 7, 8, 9, 10, 11, 12, 13], [0, 1, 2, 3, 4, 5, 6, 7, 8, 9, 10, 11, 12, 13, 14], [0, 1, 2, 3, 4, 5, 6, 7, 8, 9, 10, 11, 12, 13], [0, 1, 2, 3, 4, 5, 6, 7, 8, 9, 10, 11, 12, 13, 16], [0, 1, 2, 3, 4, 5, 6, 7, 8, 9, 10, 11, 12, 13, 14, 15, 16, 17], [0, 1, 2, 3, 4, 5, 6, 7, 8, 9, 10, 11, 12, 13, 14, 15, 16, 17, 18], [0, 1, 2, 3, 4, 5, 6, 7, 8, 9, 10, 11, 12, 13, 14, 15, 16, 17, 18, 19]]) (J := [[], [0], [1], [1, 2], [1], [1, 3, 4], [1, 5], [6], [7], [7, 8], [7], [7, 9, 10], [7, 11], [12], [13], [13, 14], [13], [13, 16], [13, 15, 17], [13, 18], [19]]) (Je := [20]) (Rs := [Is _, Is _, Is _, Is _, Is _, Is _, Is _, Is _, Is _, Is _, Is _, Is _, Is _, Is _, Is _, Is _, Is _, Is _, Is _, Is _, Is _])
  · kernel_rfl
  · kernel_rfl
  · kernel_rfl
  · kernel_rfl
  · kernel_rfl
  · kernel_rfl
  · intro u
    simp only [List.map_cons, List.map_nil, fillU, List.setIfInBounds_toArray, List.set_cons_zero, List.set_cons_succ, Nat.zero_add, Nat.reduceAdd]
    exact rfl
  · skip
    refine ⟨fun u W hb hd K hK => ?_, ?_⟩
    · clear hd
      go_simp
      refine (lawEarly_any _ ((ht.below hbw).below hb)).mono ?_
      rintro e wy ⟨rfl, hby⟩
      exact hK _ _ _ rfl hby IsOut
    refine ⟨fun u W hb hd K hK => ?_, ?_⟩
    · simp only [Facts, nthR, Is, and_true] at hd
      simp only [hd] at hK ⊢
      clear hd
      go_simp
      apply hK
      · simp only [Act.put, List.setIfInBounds_toArray, List.set_cons_zero, List.set_cons_succ]
        exact rfl
      · exact Below.refl _ _
      · exact IsOut
    refine ⟨fun u W hb hd K hK => ?_, ?_⟩
    · simp only [Facts, nthR, Is, and_true] at hd
      simp only [hd] at hK ⊢
      clear hd
      go_simp
      apply hK
      · simp only [Act.put, List.setIfInBounds_toArray, List.set_cons_zero, List.set_cons_succ]
        exact rfl
      · exact Below.refl _ _
      · exact IsOut
    refine ⟨fun u W hb hd K hK => ?_, ?_⟩
    · simp only [Facts, nthR, Is, and_true] at hd
      simp only [hd] at hK ⊢
      clear hd
      go_simp
      apply hK
      · simp only [Act.put, List.setIfInBounds_toArray, List.set_cons_zero, List.set_cons_succ]
        exact rfl
      · exact Below.refl _ _
      · exact IsOut
    refine ⟨fun u W hb hd K hK => ?_, ?_⟩
    · simp only [Facts, nthR, Is, and_true] at hd
      simp only [hd] at hK ⊢
      clear hd
      go_simp
      apply hK
      · simp only [Act.put, List.setIfInBounds_toArray, List.set_cons_zero, List.set_cons_succ]
        exact rfl
      · exact Below.refl _ _
      · exact IsOut
    refine ⟨fun u W hb hd K hK => ?_, ?_⟩
    · simp only [Facts, nthR, Is, and_true] at hd
      simp only [hd] at hK ⊢
      clear hd
      go_simp
      apply hK
      · simp only [Act.put, List.setIfInBounds_toArray, List.set_cons_zero, List.set_cons_succ]
        exact rfl
      · exact Below.refl _ _
      · exact IsOut
    refine ⟨fun u W hb hd K hK => ?_, ?_⟩
    · simp only [Facts, nthR, Is, and_true] at hd
      simp only [hd] at hK ⊢
      clear hd
      go_simp
      apply hK
      · simp only [Act.put, List.setIfInBounds_toArray, List.set_cons_zero, List.set_cons_succ]
        exact rfl
      · exact Below.refl _ _
      · exact IsOut
    refine ⟨fun u W hb hd K hK => ?_, ?_⟩
    · simp only [Facts, nthR, Is, and_true] at hd
      simp only [hd] at hK ⊢
      clear hd
      go_simp
      apply hK
      · simp only [Act.put, List.setIfInBounds_toArray, List.set_cons_zero, List.set_cons_succ]
        exact rfl
      · exact Below.refl _ _
      · exact IsOut
    refine ⟨fun u W hb hd K hK => ?_, ?_⟩
    · simp only [Facts, nthR, Is, and_true] at hd
      simp only [hd] at hK ⊢
      clear hd
      go_simp
      apply hK
      · simp only [Act.put, List.setIfInBounds_toArray, List.set_cons_zero, List.set_cons_succ]
        exact rfl
      · exact Below.refl _ _
      · exact IsOut
    refine ⟨fun u W hb hd K hK => ?_, ?_⟩
    · simp only [Facts, nthR, Is, and_true] at hd
      simp only [hd] at hK ⊢
      clear hd
      go_simp
      apply hK
      · simp only [Act.put, List.setIfInBounds_toArray, List.set_cons_zero, List.set_cons_succ]
        exact rfl
      · exact Below.refl _ _
      · exact IsOut
    refine ⟨fun u W hb hd K hK => ?_, ?_⟩
    · simp only [Facts, nthR, Is, and_true] at hd
      simp only [hd] at hK ⊢
      clear hd
      go_simp
      apply hK
      · simp only [Act.put, List.setIfInBounds_toArray, List.set_cons_zero, List.set_cons_succ]
        exact rfl
      · exact Below.refl _ _
      · exact IsOut
    refine ⟨fun u W hb hd K hK => ?_, ?_⟩
    · simp only [Facts, nthR, Is, and_true] at hd
      simp only [hd] at hK ⊢
      clear hd
      go_simp
      apply hK
      · simp only [Act.put, List.setIfInBounds_toArray, List.set_cons_zero, List.set_cons_succ]
        exact rfl
      · exact Below.refl _ _
      · exact IsOut
    refine ⟨fun u W hb hd K hK => ?_, ?_⟩
    · simp only [Facts, nthR, Is, and_true] at hd
      simp only [hd] at hK ⊢
      clear hd
      go_simp
      apply hK
      · simp only [Act.put, List.setIfInBounds_toArray, List.set_cons_zero, List.set_cons_succ]
        exact rfl
      · exact Below.refl _ _
      · exact IsOut
    refine ⟨fun u W hb hd K hK => ?_, ?_⟩
    · simp only [Facts, nthR, Is, and_true] at hd
      simp only [hd] at hK ⊢
      clear hd
      go_simp
      apply hK
      · simp only [Act.put, List.setIfInBounds_toArray, List.set_cons_zero, List.set_cons_succ]
        exact rfl
      · exact Below.refl _ _
      · exact IsOut
    refine ⟨fun u W hb hd K hK => ?_, ?_⟩
    · simp only [Facts, nthR, Is, and_true] at hd
      simp only [hd] at hK ⊢
      clear hd
      go_simp
      apply hK
      · simp only [Act.put, List.setIfInBounds_toArray, List.set_cons_zero, List.set_cons_succ]
        exact rfl
      · exact Below.refl _ _
      · exact IsOut
    refine ⟨fun u W hb hd K hK => ?_, ?_⟩
    · simp only [Facts, nthR, Is, and_true] at hd
      simp only [hd] at hK ⊢
      clear hd
      go_simp
      apply hK
      · simp only [Act.put, List.setIfInBounds_toArray, List.set_cons_zero, List.set_cons_succ]
        exact rfl
      · exact Below.refl _ _
      · exact IsOut
    refine ⟨fun u W hb hd K hK => ?_, ?_⟩
    · simp only [Facts, nthR, Is, and_true] at hd
      simp only [hd] at hK ⊢
      clear hd
      go_simp
      apply hK
      · simp only [Act.put, List.setIfInBounds_toArray, List.set_cons_zero, List.set_cons_succ]
        exact rfl
      · exact Below.refl _ _
      · exact IsOut
    refine ⟨fun u W hb hd K hK => ?_, ?_⟩
    · simp only [Facts, nthR, Is, and_true] at hd
      simp only [hd] at hK ⊢
      clear hd
      go_simp
      refine (R3.out _).mono ?_
      rintro e wy ⟨rfl, hby⟩
      exact hK _ _ _ rfl hby IsOut
    refine ⟨fun u W hb hd K hK => ?_, ?_⟩
    · simp only [Facts, nthR, Is, and_true] at hd
      simp only [hd] at hK ⊢
      clear hd
      go_simp
      apply hK
      · simp only [Act.put, List.setIfInBounds_toArray, List.set_cons_zero, List.set_cons_succ]
        exact rfl
      · exact Below.refl _ _
      · exact IsOut
    refine ⟨fun u W hb hd K hK => ?_, ?_⟩
    · simp only [Facts, nthR, Is, and_true] at hd
      simp only [hd] at hK ⊢
      clear hd
      go_simp
      apply hK
      · simp only [Act.put, List.setIfInBounds_toArray, List.set_cons_zero, List.set_cons_succ]
        exact rfl
      · exact Below.refl _ _
      · exact IsOut
    refine ⟨fun u W hb hd K hK => ?_, ?_⟩
    · simp only [Facts, nthR, Is, and_true] at hd
      simp only [hd] at hK ⊢
      clear hd
      go_simp
      apply hK
      · simp only [Act.put, List.setIfInBounds_toArray, List.set_cons_zero, List.set_cons_succ]
        exact rfl
      · exact Below.refl _ _
      · exact IsOut
    exact trivial
  · exact (.is (.is (.is (.is (.is (.is (.is (.is (.is (.is (.is (.is (.is (.is (.is (.is (.is (.is (.is (.is (.is .nil)))))))))))))))))))))
  · intro u W hb hd
    simp only [Facts, nthR, Is, and_true] at hd
    simp only [hd]
    have hfin := hbw.trans (hb.mono hbw.size)
    go_wp2
    go_ret
    exact ⟨rfl, hfin⟩
end Go.Proofs.YtdjhempfpgcigaaDoor
