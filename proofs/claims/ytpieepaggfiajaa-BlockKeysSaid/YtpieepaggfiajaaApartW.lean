/-
  The walk of BlockApart.
-/
import Derived.Test.YtpieepaggfiajaaBBlocks
namespace Go.Proofs.Ytpieepaggfiajaa
open Go.RowKit

theorem new_blk {w : World} {g n : Nat} {t : TypeId} {key : List UInt8} (h : Blk w g t (key.map B8)) (hl : key.length = 4 * n) (hn : n = 4 ∨ n = 8) :
    Calls Try.prog 7 #[.slice (some ⟨g, 0, none⟩) (4 * n) (4 * n)] w fun e w' => ∃ gk gr, e = .returned (.tuple #[.pointer (some ⟨gk, 0, none⟩), .int .i64 0]) ∧ w.heap.size ≤ gk ∧ KeyAt w' gk gr (n + 7) (keyL n key) ∧ Below w.heap.size w w' := by
  have := new_any (some ⟨g, 0, none⟩) (4 * n) w.heap.size n key w (Nat.le_refl _) ⟨by omega, by omega, fun _ => ⟨g, 0, rfl, h.lt, fun j hj => by rw [Nat.zero_add]; exact h.at8 j hj⟩⟩ hl hn
  rw [hl] at this
  exact this
set_option maxRecDepth 100000 in
set_option maxHeartbeats 4000000 in
theorem apart_any (key a b : List UInt8) (w : World) (l0 : key.length = 16) (l1 : a.length = 16) (l2 : b.length = 16) :
    Calls Try.prog 5 #[BV key, BV a, BV b] w fun e w' => e = .returned (.bool true) ∧ Below w.heap.size w w' := by
  obtain ⟨q, hq⟩ : ∃ q, q = (a == b) := ⟨_, rfl⟩
  have hF := keyL_four 4 key
  have hE0 : ∀ W : World, (Op.equalIn 10000 23 (BV a) (BV b)).run Try.prog W = .ok q W := fun W => by rw [equal_blocks _ _ l1 l2, hq]
  have hE1 : ∀ W : World, (Op.equalIn 10000 23 (BV (sealS (keyL 4 key) 11 a)) (BV (sealS (keyL 4 key) 11 b))).run Try.prog W = .ok q W := fun W => by
    rw [equal_blocks _ _ (sealS_length _ _ _) (sealS_length _ _ _), hq]
    congr 1
    rw [Bool.eq_iff_iff, beq_iff_eq, beq_iff_eq]
    exact sealS_inj hF (by omega) l1 l2
  have hE2 : ∀ W : World, (Op.equalIn 10000 23 (BV (openS (keyL 4 key) 11 a)) (BV (openS (keyL 4 key) 11 b))).run Try.prog W = .ok q W := fun W => by
    rw [equal_blocks _ _ (openS_length _ _ _) (openS_length _ _ _), hq]
    congr 1
    rw [Bool.eq_iff_iff, beq_iff_eq, beq_iff_eq]
    exact openS_inj hF (by omega) l1 l2
  have hK0 := Blk.new_of w 23 (key.map B8).toArray (key.map B8) rfl
  have hA0 := Blk.new2_of w (.cells (key.map B8).toArray 23) 23 (a.map B8).toArray (a.map B8) rfl
  have hB0 := Blk.new3_of w (.cells (key.map B8).toArray 23) (.cells (a.map B8).toArray 23) 23 (b.map B8).toArray (b.map B8) rfl
  have hA1 := hA0.alloc (.cells (b.map B8).toArray 23)
  have hK1 := (hK0.alloc (.cells (a.map B8).toArray 23)).alloc (.cells (b.map B8).toArray 23)
  have hbx := (((Below.refl w.heap.size w).alloc (Nat.le_refl _) (.cells (key.map B8).toArray 23)).alloc (by simp) (.cells (a.map B8).toArray 23)).alloc (by simp; omega) (.cells (b.map B8).toArray 23)
  have HLa := Lib.hid l1
  have HLb := Lib.hid l2
  have HLk := Lib.hid l0
  clear hq hF hK0 hA0 l0 l1 l2
  go_enter Try.func5, Try.ntmps5
  go_wp2_with (go_at_call 7; go_loud (refine (new_blk (n := 4) hK1 HLk.out (.inl rfl)).mono ?_; rintro e w2 ⟨gk, gr, rfl, hgk, hk, hb2⟩))
  have hga := hA1.below hb2 hA1.lt
  have hgb := hB0.below hb2 hB0.lt
  have hbw := hbx.trans (hb2.mono hbx.size)
  have HSA := Lib.hid (fun (W : World) (hb : Below w2.heap.size w2 W) => seal_any gk gr 11 (keyL 4 key) a W (hk.below hb) (by omega) (by omega) HLa.out)
  have HSB := Lib.hid (fun (W : World) (hb : Below w2.heap.size w2 W) => seal_any gk gr 11 (keyL 4 key) b W (hk.below hb) (by omega) (by omega) HLb.out)
  have HOA := Lib.hid (fun (W : World) (hb : Below w2.heap.size w2 W) => open_any gk gr 11 (keyL 4 key) a W (hk.below hb) (by omega) (by omega) HLa.out)
  have HOB := Lib.hid (fun (W : World) (hb : Below w2.heap.size w2 W) => open_any gk gr 11 (keyL 4 key) b W (hk.below hb) (by omega) (by omega) HLb.out)
  clear hA1 hB0 hK1 hbx hb2
  generalize sealS (keyL 4 key) 11 a = sa at *
  generalize sealS (keyL 4 key) 11 b = sb at *
  generalize openS (keyL 4 key) 11 a = oa at *
  generalize openS (keyL 4 key) 11 b = ob at *
  generalize w.heap.size + 1 + 1 = gb at *
  generalize w.heap.size + 1 = ga at *
  apply wp_region_once (D := [[], [0], [0, 1], [0, 1, 2], [0, 1, 2, 3], [0, 1, 2, 3, 4], [0, 1, 2, 3, 4, 5], [0, 1, 2, 3, 4, 5], [0, 1, 2, 3, 4, 5, 6, 7], [0, 1, 2, 3, 4, 5], [0, 1, 2, 3, 4, 5], [0, 1, 2, 3, 4, 5, 6, 7, 8, 9, 10], [0, 1, 2, 3, 4, 5, 6, 7, 8, 9, 10, 11], [0, 1, 2, 3, 4, 5], [0, 1, 2, 3, 4, 5], [0, 1, 2, 3, 4, 5, 13, 14], [0, 1, 2, 3, 4, 5, 6, 7, 8, 9, 10, 11, 12, 13, 14, 15], [0, 1, 2, 3, 4, 5, 6, 7, 8, 9, 10, 11, 12, 13, 14, 15, 16], [0, 1, 2, 3, 4, 5, 6, 7, 8, 9, 10, 11, 12, 13, 14, 15, 16, 17], [0, 1, 2, 3, 4, 5, 6, 7, 8, 9, 10, 11, 12, 13, 14, 15, 16, 17, 18], [0, 1, 2, 3, 4, 5, 6, 7, 8, 9, 10, 11, 12, 13, 14, 15, 16, 17, 18], [0, 1, 2, 3, 4, 5, 6, 7, 8, 9, 10, 11, 12, 13, 14, 15, 16, 17, 18, 19, 20], [0, 1, 2, 3, 4, 5, 6, 7, 8, 9, 10, 11, 12, 13, 14, 15, 16, 17, 18], [0, 1, 2, 3, 4, 5, 6, 7, 8, 9, 10, 11, 12, 13, 14, 15, 16, 17, 18], [0, 1, 2, 3, 4, 5, 6, 7, 8, 9, 10, 11, 12, 13, 14, 15, 16, 17, 18, 19, 20, 21, 22, 23], [0, 1, 2, 3, 4, 5, 6, 7, 8, 9, 10, 11, 12, 13, 14, 15, 16, 17, 18, 19, 20, 21, 22, 23, 24], [0, 1, 2, 3, 4, 5, 6, 7, 8, 9, 10, 11, 12, 13, 14, 15, 16, 17, 18], [0, 1, 2, 3, 4, 5, 6, 7, 8, 9, 10, 11, 12, 13, 14, 15, 16, 17, 18], [0, 1, 2, 3, 4, 5, 6, 7, 8, 9, 10, 11, 12, 13, 14, 15, 16, 17, 18, 26, 27], [0, 1, 2, 3, 4, 5, 6, 7, 8, 9, 10, 11, 12, 13, 14, 15, 16, 17, 18, 19, 20, 21, 22, 23, 24, 25, 26, 27, 28], [0, 1, 2, 3, 4, 5, 6, 7, 8, 9, 10, 11, 12, 13, 14, 15, 16, 17, 18, 19, 20, 21, 22, 23, 24, 25, 26, 27, 28, 29], [0, 1, 2, 3, 4, 5, 6, 7, 8, 9, 10, 11, 12, 13, 14, 15, 16, 17, 18, 19, 20, 21, 22, 23, 24, 25, 26, 27, 28, 29, 30]]) (J := [[], [0], [1], [1, 2], [1, 3], [4], [5], [5], [5, 6, 7], [5], [5], [5, 9, 10], [5, 8, 11], [5], [5], [5, 13, 14], [5, 12, 15], [5, 16], [17], [18], [18], [18, 19, 20], [18], [18], [18, 22, 23], [18, 21, 24], [18], [18], [18, 26, 27], [18, 25, 28], [18, 29], [30]]) (Je := [31]) (Rs := [Is _, Is _, Is _, Is _, Is _, Is _, Is _, Is _, Is _, Is _, Is _, Is _, Is _, Is _, Is _, Is _, Is _, Is _, Is _, Is _, Is _, Is _, Is _, Is _, Is _, Is _, Is _, Is _, Is _, Is _, Is _, Is _])
  · kernel_rfl
  · kernel_rfl
  · kernel_rfl
  · kernel_rfl
  · kernel_rfl
  · kernel_rfl
  · intro u
    simp only [List.map_cons, List.map_nil, fillU, List.setIfInBounds_toArray, List.set_cons_zero, List.set_cons_succ, Nat.zero_add, Nat.reduceAdd]
    exact rfl
  · skip
    refine ⟨fun u W hb hd K hK => ?_, ?_⟩
    · clear hd
      go_simp
      with_reducible refine (blocks_any W).mono ?_
      rintro e wy ⟨rfl, hby⟩
      exact hK _ _ _ rfl hby IsOut
    refine ⟨fun u W hb hd K hK => ?_, ?_⟩
    · simp only [Facts, nthR, Is, and_true] at hd
      simp only [hd] at hK ⊢
      clear hd
      go_simp
      apply hK
      · simp only [Act.put, List.setIfInBounds_toArray, List.set_cons_zero, List.set_cons_succ]
        exact rfl
      · exact Below.refl _ _
      · exact IsOut
    refine ⟨fun u W hb hd K hK => ?_, ?_⟩
    · simp only [Facts, nthR, Is, and_true] at hd
      simp only [hd] at hK ⊢
      clear hd
      go_simp
      apply hK
      · simp only [Act.put, List.setIfInBounds_toArray, List.set_cons_zero, List.set_cons_succ]
        exact rfl
      · exact Below.refl _ _
      · exact IsOut
    refine ⟨fun u W hb hd K hK => ?_, ?_⟩
    · simp only [Facts, nthR, Is, and_true] at hd
      simp only [hd] at hK ⊢
      clear hd
      go_simp
      apply hK
      · simp only [Act.put, List.setIfInBounds_toArray, List.set_cons_zero, List.set_cons_succ]
        exact rfl
      · exact Below.refl _ _
      · exact IsOut
    refine ⟨fun u W hb hd K hK => ?_, ?_⟩
    · simp only [Facts, nthR, Is, and_true] at hd
      simp only [hd] at hK ⊢
      clear hd
      go_simp
      apply hK
      · simp only [Act.put, List.setIfInBounds_toArray, List.set_cons_zero, List.set_cons_succ]
        exact rfl
      · exact Below.refl _ _
      · exact IsOut
    refine ⟨fun u W hb hd K hK => ?_, ?_⟩
    · simp only [Facts, nthR, Is, and_true] at hd
      simp only [hd] at hK ⊢
      clear hd
      go_simp
      apply hK
      · simp only [Act.put, List.setIfInBounds_toArray, List.set_cons_zero, List.set_cons_succ]
        exact rfl
      · exact Below.refl _ _
      · exact IsOut
    refine ⟨fun u W hb hd K hK => ?_, ?_⟩
    · simp only [Facts, nthR, Is, and_true] at hd
      simp only [hd] at hK ⊢
      clear hd
      go_simp
      apply hK
      · simp only [Act.put, List.setIfInBounds_toArray, List.set_cons_zero, List.set_cons_succ]
        exact rfl
      · exact Below.refl _ _
      · exact IsOut
    refine ⟨fun u W hb hd K hK => ?_, ?_⟩
    · simp only [Facts, nthR, Is, and_true] at hd
      simp only [hd] at hK ⊢
      clear hd
      rw [if_pos (by rfl)]
      refine wp_load_mid 23 (.tmp 4) rfl (ga) (0) rfl (a.map B8) _ (rangeAt_blk (hga.below hb hga.lt)) Try.underlying23 rfl (infoBk.trans (by rw [List.length_map, HLa.out])) ?_
      exact hK _ _ _ rfl (Below.refl _ _) IsOut
    refine ⟨fun u W hb hd K hK => ?_, ?_⟩
    · simp only [Facts, nthR, Is, and_true] at hd
      simp only [hd] at hK ⊢
      clear hd
      go_simp
      with_reducible refine (HSA.out W hb).mono ?_
      rintro e wy ⟨rfl, hby⟩
      exact hK _ _ _ rfl hby IsOut
    refine ⟨fun u W hb hd K hK => ?_, ?_⟩
    · simp only [Facts, nthR, Is, and_true] at hd
      simp only [hd] at hK ⊢
      clear hd
      go_simp
      apply hK
      · simp only [Act.put, List.setIfInBounds_toArray, List.set_cons_zero, List.set_cons_succ]
        exact rfl
      · exact Below.refl _ _
      · exact IsOut
    refine ⟨fun u W hb hd K hK => ?_, ?_⟩
    · simp only [Facts, nthR, Is, and_true] at hd
      simp only [hd] at hK ⊢
      clear hd
      rw [if_pos (by rfl)]
      refine wp_load_mid 23 (.tmp 5) rfl (gb) (0) rfl (b.map B8) _ (rangeAt_blk (hgb.below hb hgb.lt)) Try.underlying23 rfl (infoBk.trans (by rw [List.length_map, HLb.out])) ?_
      exact hK _ _ _ rfl (Below.refl _ _) IsOut
    refine ⟨fun u W hb hd K hK => ?_, ?_⟩
    · simp only [Facts, nthR, Is, and_true] at hd
      simp only [hd] at hK ⊢
      clear hd
      go_simp
      with_reducible refine (HSB.out W hb).mono ?_
      rintro e wy ⟨rfl, hby⟩
      exact hK _ _ _ rfl hby IsOut
    refine ⟨fun u W hb hd K hK => ?_, ?_⟩
    · simp only [Facts, nthR, Is, and_true] at hd
      simp only [hd] at hK ⊢
      clear hd
      go_simp
      apply hK
      · simp only [Act.put, List.setIfInBounds_toArray, List.set_cons_zero, List.set_cons_succ]
        exact rfl
      · exact Below.refl _ _
      · exact IsOut
    refine ⟨fun u W hb hd K hK => ?_, ?_⟩
    · simp only [Facts, nthR, Is, and_true] at hd
      simp only [hd] at hK ⊢
      clear hd
      rw [if_pos (by rfl)]
      refine wp_load_mid 23 (.tmp 4) rfl (ga) (0) rfl (a.map B8) _ (rangeAt_blk (hga.below hb hga.lt)) Try.underlying23 rfl (infoBk.trans (by rw [List.length_map, HLa.out])) ?_
      exact hK _ _ _ rfl (Below.refl _ _) IsOut
    refine ⟨fun u W hb hd K hK => ?_, ?_⟩
    · simp only [Facts, nthR, Is, and_true] at hd
      simp only [hd] at hK ⊢
      clear hd
      rw [if_pos (by rfl)]
      refine wp_load_mid 23 (.tmp 5) rfl (gb) (0) rfl (b.map B8) _ (rangeAt_blk (hgb.below hb hgb.lt)) Try.underlying23 rfl (infoBk.trans (by rw [List.length_map, HLb.out])) ?_
      exact hK _ _ _ rfl (Below.refl _ _) IsOut
    refine ⟨fun u W hb hd K hK => ?_, ?_⟩
    · simp only [Facts, nthR, Is, and_true] at hd
      simp only [hd] at hK ⊢
      clear hd
      go_simp
      apply hK
      · simp only [Act.put, List.setIfInBounds_toArray, List.set_cons_zero, List.set_cons_succ]
        exact rfl
      · exact Below.refl _ _
      · exact IsOut
    refine ⟨fun u W hb hd K hK => ?_, ?_⟩
    · simp only [Facts, nthR, Is, and_true] at hd
      simp only [hd] at hK ⊢
      clear hd
      go_simp
      apply hK
      · simp only [Act.put, List.setIfInBounds_toArray, List.set_cons_zero, List.set_cons_succ]
        exact rfl
      · exact Below.refl _ _
      · exact IsOut
    refine ⟨fun u W hb hd K hK => ?_, ?_⟩
    · simp only [Facts, nthR, Is, and_true] at hd
      simp only [hd] at hK ⊢
      clear hd
      go_simp
      apply hK
      · simp only [Act.put, List.setIfInBounds_toArray, List.set_cons_zero, List.set_cons_succ]
        exact rfl
      · exact Below.refl _ _
      · exact IsOut
    refine ⟨fun u W hb hd K hK => ?_, ?_⟩
    · simp only [Facts, nthR, Is, and_true] at hd
      simp only [hd] at hK ⊢
      clear hd
      go_simp
      apply hK
      · simp only [Act.put, List.setIfInBounds_toArray, List.set_cons_zero, List.set_cons_succ]
        exact rfl
      · exact Below.refl _ _
      · exact IsOut
    refine ⟨fun u W hb hd K hK => ?_, ?_⟩
    · simp only [Facts, nthR, Is, and_true] at hd
      simp only [hd] at hK ⊢
      clear hd
      go_simp
      apply hK
      · simp only [Act.put, List.setIfInBounds_toArray, List.set_cons_zero, List.set_cons_succ]
        exact rfl
      · exact Below.refl _ _
      · exact IsOut
    refine ⟨fun u W hb hd K hK => ?_, ?_⟩
    · simp only [Facts, nthR, Is, and_true] at hd
      simp only [hd] at hK ⊢
      clear hd
      rw [if_pos (by rfl)]
      refine wp_load_mid 23 (.tmp 4) rfl (ga) (0) rfl (a.map B8) _ (rangeAt_blk (hga.below hb hga.lt)) Try.underlying23 rfl (infoBk.trans (by rw [List.length_map, HLa.out])) ?_
      exact hK _ _ _ rfl (Below.refl _ _) IsOut
    refine ⟨fun u W hb hd K hK => ?_, ?_⟩
    · simp only [Facts, nthR, Is, and_true] at hd
      simp only [hd] at hK ⊢
      clear hd
      go_simp
      with_reducible refine (HOA.out W hb).mono ?_
      rintro e wy ⟨rfl, hby⟩
      exact hK _ _ _ rfl hby IsOut
    refine ⟨fun u W hb hd K hK => ?_, ?_⟩
    · simp only [Facts, nthR, Is, and_true] at hd
      simp only [hd] at hK ⊢
      clear hd
      go_simp
      apply hK
      · simp only [Act.put, List.setIfInBounds_toArray, List.set_cons_zero, List.set_cons_succ]
        exact rfl
      · exact Below.refl _ _
      · exact IsOut
    refine ⟨fun u W hb hd K hK => ?_, ?_⟩
    · simp only [Facts, nthR, Is, and_true] at hd
      simp only [hd] at hK ⊢
      clear hd
      rw [if_pos (by rfl)]
      refine wp_load_mid 23 (.tmp 5) rfl (gb) (0) rfl (b.map B8) _ (rangeAt_blk (hgb.below hb hgb.lt)) Try.underlying23 rfl (infoBk.trans (by rw [List.length_map, HLb.out])) ?_
      exact hK _ _ _ rfl (Below.refl _ _) IsOut
    refine ⟨fun u W hb hd K hK => ?_, ?_⟩
    · simp only [Facts, nthR, Is, and_true] at hd
      simp only [hd] at hK ⊢
      clear hd
      go_simp
      with_reducible refine (HOB.out W hb).mono ?_
      rintro e wy ⟨rfl, hby⟩
      exact hK _ _ _ rfl hby IsOut
    refine ⟨fun u W hb hd K hK => ?_, ?_⟩
    · simp only [Facts, nthR, Is, and_true] at hd
      simp only [hd] at hK ⊢
      clear hd
      go_simp
      apply hK
      · simp only [Act.put, List.setIfInBounds_toArray, List.set_cons_zero, List.set_cons_succ]
        exact rfl
      · exact Below.refl _ _
      · exact IsOut
    refine ⟨fun u W hb hd K hK => ?_, ?_⟩
    · simp only [Facts, nthR, Is, and_true] at hd
      simp only [hd] at hK ⊢
      clear hd
      rw [if_pos (by rfl)]
      refine wp_load_mid 23 (.tmp 4) rfl (ga) (0) rfl (a.map B8) _ (rangeAt_blk (hga.below hb hga.lt)) Try.underlying23 rfl (infoBk.trans (by rw [List.length_map, HLa.out])) ?_
      exact hK _ _ _ rfl (Below.refl _ _) IsOut
    refine ⟨fun u W hb hd K hK => ?_, ?_⟩
    · simp only [Facts, nthR, Is, and_true] at hd
      simp only [hd] at hK ⊢
      clear hd
      rw [if_pos (by rfl)]
      refine wp_load_mid 23 (.tmp 5) rfl (gb) (0) rfl (b.map B8) _ (rangeAt_blk (hgb.below hb hgb.lt)) Try.underlying23 rfl (infoBk.trans (by rw [List.length_map, HLb.out])) ?_
      exact hK _ _ _ rfl (Below.refl _ _) IsOut
    refine ⟨fun u W hb hd K hK => ?_, ?_⟩
    · simp only [Facts, nthR, Is, and_true] at hd
      simp only [hd] at hK ⊢
      clear hd
      go_simp
      apply hK
      · simp only [Act.put, List.setIfInBounds_toArray, List.set_cons_zero, List.set_cons_succ]
        exact rfl
      · exact Below.refl _ _
      · exact IsOut
    refine ⟨fun u W hb hd K hK => ?_, ?_⟩
    · simp only [Facts, nthR, Is, and_true] at hd
      simp only [hd] at hK ⊢
      clear hd
      go_simp
      apply hK
      · simp only [Act.put, List.setIfInBounds_toArray, List.set_cons_zero, List.set_cons_succ]
        exact rfl
      · exact Below.refl _ _
      · exact IsOut
    refine ⟨fun u W hb hd K hK => ?_, ?_⟩
    · simp only [Facts, nthR, Is, and_true] at hd
      simp only [hd] at hK ⊢
      clear hd
      go_simp
      apply hK
      · simp only [Act.put, List.setIfInBounds_toArray, List.set_cons_zero, List.set_cons_succ]
        exact rfl
      · exact Below.refl _ _
      · exact IsOut
    refine ⟨fun u W hb hd K hK => ?_, ?_⟩
    · simp only [Facts, nthR, Is, and_true] at hd
      simp only [hd] at hK ⊢
      clear hd
      go_simp
      apply hK
      · simp only [Act.put, List.setIfInBounds_toArray, List.set_cons_zero, List.set_cons_succ]
        exact rfl
      · exact Below.refl _ _
      · exact IsOut
    exact trivial
  · exact (.is (.is (.is (.is (.is (.is (.is (.is (.is (.is (.is (.is (.is (.is (.is (.is (.is (.is (.is (.is (.is (.is (.is (.is (.is (.is (.is (.is (.is (.is (.is (.is .nil))))))))))))))))))))))))))))))))
  · intro u W hb hd
    simp only [Facts, nthR, Is, and_true] at hd
    simp only [hd]
    have hbF := hbw.trans (hb.mono hbw.size)
    go_wp2
    go_ret
    exact ⟨by simp, hbF⟩
end Go.Proofs.Ytpieepaggfiajaa
