/-
  The walk of BlockKeys.
-/
import Derived.Test.YtpieepaggfiajaaKy
namespace Go.Proofs.Ytpieepaggfiajaa
open Go.RowKit

set_option maxRecDepth 100000 in
set_option maxHeartbeats 4000000 in
theorem bkeys_bad (A : Option Addr) (ck : Nat) (xs b : List UInt8) (w : World) (iK : InK w w.heap.size A ck xs) (l1 : b.length = 16) (n1 : (xs.take 70).length ≠ 16) (n2 : (xs.take 70).length ≠ 32) :
    Calls Try.prog 4 #[.slice A xs.length ck, BV b] w fun e w' => e = .returned (.bool true) ∧ Below w.heap.size w w' := by
  have mk : min (xs.length : Int) 70 = ((xs.take 70).length : Int) := by rw [List.length_take]; omega
  have jK := iK.take 70
  have lk : (xs.take 70).length ≤ 70 := by rw [List.length_take]; omega
  obtain ⟨hk1, hk2, _⟩ := iK
  have kk := jK.1
  have hlx : (xs.take 70).length ≤ xs.length := by rw [List.length_take]; omega
  generalize xs.take 70 = key at *
  have HBL := Lib.hid l1
  have hB0 := Blk.new_of w 23 (b.map B8).toArray (b.map B8) rfl
  have hbx := (Below.refl w.heap.size w).alloc (Nat.le_refl _) (.cells (b.map B8).toArray 23)
  have hby := hbx.alloc (by simp) (.cells #[] 5)
  have hbuf := buf_empty (w.alloc (.cells (b.map B8).toArray 23))
  rw [show (w.alloc (.cells (b.map B8).toArray 23)).heap.size = w.heap.size + 1 by simp] at hbuf
  have hsrc := src_ink (jK.below hby) rfl
  obtain ⟨Z, hZ⟩ : ∃ Z, Z = zero16 := ⟨_, rfl⟩
  have hE0 : ∀ W : World, (Op.equalIn 10000 23 (.agg (Z.map B8).toArray) (.agg #[.int .u8 0, .int .u8 0, .int .u8 0, .int .u8 0, .int .u8 0, .int .u8 0, .int .u8 0, .int .u8 0, .int .u8 0, .int .u8 0, .int .u8 0, .int .u8 0, .int .u8 0, .int .u8 0, .int .u8 0, .int .u8 0])).run Try.prog W = .ok true W := fun W => by
    have h : (Op.equalIn 10000 23 (BV zero16) (BV zero16)).run Try.prog W = .ok true W := by rw [equal_blocks _ _ (by rfl) (by rfl), beq_self_eq_true]
    rw [hZ]; exact h
  have cSN := Lib.hid (fun W => seal_nil b W l1)
  have cON := Lib.hid (fun W => open_nil b W l1)
  rw [← hZ] at cSN cON
  clear hZ
  have hle1 : w.heap.size + 1 ≤ ((w.alloc (.cells (b.map B8).toArray 23)).alloc (.cells #[] 5)).heap.size := by simp
  clear l1 jK
  go_enter Try.func4, Try.ntmps4
  go_wp2_with (refine wpList_append_buf rfl (.tmp 9) (.tmp 14) 24 rfl (w.heap.size + 1) _ 0 0 [] key _ rfl hbuf rfl hsrc (by omega) hle1 ?_; rw [List.nil_append, Nat.zero_add]; intro A1 c1 w1 hK1 hg1)
  have hB1 := (hB0.alloc (.cells #[] 5)).grown hg1 (by simp [ownOf])
  have hb1 : Below w.heap.size w w1 := hby.trans ⟨hg1.os, hg1.tape, hg1.output, hg1.size, fun k hk => hg1.block k (Nat.lt_of_lt_of_le hk hby.size) (by simp [ownOf]; omega)⟩
  clear hbuf hsrc hbx hby hB0 hg1 hle1 mk hk1 hk2 kk hlx
  have d1 : ((key.length : Int) != 16) = true := by simp; omega
  have d2 : ((key.length : Int) != 32) = true := by simp; omega
  have d3 : ¬ ((key.length : Int) = 16) := by omega
  have d4 : ¬ ((key.length : Int) = 32) := by omega
  go_wp2_with (go_at_call 7; go_loud (refine (new_bad A1 c1 key.length w1 n1 n2).mono ?_; rintro e w2 ⟨rfl, hb2⟩))
  have hB := hB1.below hb2 hB1.lt
  have hbw := hb1.trans (hb2.mono hb1.size)
  apply wp_region_once (D := [[], [0], [0, 1], [0, 1, 2], [0, 1, 2], [0, 1, 2, 3, 4], [0, 1, 2], [0, 1, 2, 3, 4, 5, 6], [0, 1, 2, 3, 4, 5, 6, 7], [0, 1, 2, 3, 4, 5, 6, 7, 8], [0, 1, 2, 3, 4, 5, 6, 7, 8, 9], [0, 1, 2, 3, 4, 5, 6, 7, 8, 9], [0, 1, 2, 3, 4, 5, 6, 7, 8, 9, 10, 11], [0, 1, 2, 3, 4, 5, 6, 7, 8, 9], [0, 1, 2, 3, 4, 5, 6, 7, 8, 9, 10, 11, 12, 13], [0, 1, 2, 3, 4, 5, 6, 7, 8, 9, 10, 11, 12, 13, 14]]) (J := [[], [0], [1], [2], [2], [2, 3, 4], [2], [2, 5, 6], [2, 7], [8], [9], [9], [9, 10, 11], [9], [9, 12, 13], [9, 14]]) (Je := [15]) (Rs := [Is _, Is _, Is _, Is _, Is _, Is _, Is _, Is _, Is _, Is _, Is _, Is _, Is _, Is _, Is _, Is _])
  · kernel_rfl
  · kernel_rfl
  · kernel_rfl
  · kernel_rfl
  · kernel_rfl
  · kernel_rfl
  · intro u
    simp only [List.map_cons, List.map_nil, fillU, List.setIfInBounds_toArray, List.set_cons_zero, List.set_cons_succ, Nat.zero_add, Nat.reduceAdd]
    exact rfl
  · skip
    refine ⟨fun u W hb hd K hK => ?_, ?_⟩
    · clear hd
      go_simp
      with_reducible refine (blocks_any W).mono ?_
      rintro e wy ⟨rfl, hby⟩
      exact hK _ _ _ rfl hby IsOut
    refine ⟨fun u W hb hd K hK => ?_, ?_⟩
    · simp only [Facts, nthR, Is, and_true] at hd
      simp only [hd] at hK ⊢
      clear hd
      go_simp
      apply hK
      · simp only [Act.put, List.setIfInBounds_toArray, List.set_cons_zero, List.set_cons_succ]
        exact rfl
      · exact Below.refl _ _
      · exact IsOut
    refine ⟨fun u W hb hd K hK => ?_, ?_⟩
    · simp only [Facts, nthR, Is, and_true] at hd
      simp only [hd] at hK ⊢
      clear hd
      go_simp
      apply hK
      · simp only [Act.put, List.setIfInBounds_toArray, List.set_cons_zero, List.set_cons_succ]
        exact rfl
      · exact Below.refl _ _
      · exact IsOut
    refine ⟨fun u W hb hd K hK => ?_, ?_⟩
    · simp only [Facts, nthR, Is, and_true] at hd
      simp only [hd] at hK ⊢
      clear hd
      go_simp
      refine (none_any W).mono ?_
      rintro e wy ⟨rfl, hwy⟩
      subst hwy
      exact hK _ _ _ rfl (Below.refl _ _) IsOut
    refine ⟨fun u W hb hd K hK => ?_, ?_⟩
    · simp only [Facts, nthR, Is, and_true] at hd
      simp only [hd] at hK ⊢
      clear hd
      rw [if_pos (by rfl)]
      refine wp_load_mid 23 (.tmp 3) rfl (w.heap.size) (0) rfl (b.map B8) _ (rangeAt_blk (hB.below hb hB.lt)) Try.underlying23 rfl (infoBk.trans (by rw [List.length_map, HBL.out])) ?_
      exact hK _ _ _ rfl (Below.refl _ _) IsOut
    refine ⟨fun u W hb hd K hK => ?_, ?_⟩
    · simp only [Facts, nthR, Is, and_true] at hd
      simp only [hd] at hK ⊢
      clear hd
      go_simp
      with_reducible refine (cSN.out W).mono ?_
      rintro e wy ⟨rfl, hby⟩
      exact hK _ _ _ rfl hby IsOut
    refine ⟨fun u W hb hd K hK => ?_, ?_⟩
    · simp only [Facts, nthR, Is, and_true] at hd
      simp only [hd] at hK ⊢
      clear hd
      go_simp
      apply hK
      · simp only [Act.put, List.setIfInBounds_toArray, List.set_cons_zero, List.set_cons_succ]
        exact rfl
      · exact Below.refl _ _
      · exact IsOut
    refine ⟨fun u W hb hd K hK => ?_, ?_⟩
    · simp only [Facts, nthR, Is, and_true] at hd
      simp only [hd] at hK ⊢
      clear hd
      go_simp
      apply hK
      · simp only [Act.put, List.setIfInBounds_toArray, List.set_cons_zero, List.set_cons_succ]
        exact rfl
      · exact Below.refl _ _
      · exact IsOut
    refine ⟨fun u W hb hd K hK => ?_, ?_⟩
    · simp only [Facts, nthR, Is, and_true] at hd
      simp only [hd] at hK ⊢
      clear hd
      go_simp
      apply hK
      · simp only [Act.put, List.setIfInBounds_toArray, List.set_cons_zero, List.set_cons_succ]
        exact rfl
      · exact Below.refl _ _
      · exact IsOut
    refine ⟨fun u W hb hd K hK => ?_, ?_⟩
    · simp only [Facts, nthR, Is, and_true] at hd
      simp only [hd] at hK ⊢
      clear hd
      go_simp
      apply hK
      · simp only [Act.put, List.setIfInBounds_toArray, List.set_cons_zero, List.set_cons_succ]
        exact rfl
      · exact Below.refl _ _
      · exact IsOut
    refine ⟨fun u W hb hd K hK => ?_, ?_⟩
    · simp only [Facts, nthR, Is, and_true] at hd
      simp only [hd] at hK ⊢
      clear hd
      go_simp
      refine (none_any W).mono ?_
      rintro e wy ⟨rfl, hwy⟩
      subst hwy
      exact hK _ _ _ rfl (Below.refl _ _) IsOut
    refine ⟨fun u W hb hd K hK => ?_, ?_⟩
    · simp only [Facts, nthR, Is, and_true] at hd
      simp only [hd] at hK ⊢
      clear hd
      rw [if_pos (by rfl)]
      refine wp_load_mid 23 (.tmp 3) rfl (w.heap.size) (0) rfl (b.map B8) _ (rangeAt_blk (hB.below hb hB.lt)) Try.underlying23 rfl (infoBk.trans (by rw [List.length_map, HBL.out])) ?_
      exact hK _ _ _ rfl (Below.refl _ _) IsOut
    refine ⟨fun u W hb hd K hK => ?_, ?_⟩
    · simp only [Facts, nthR, Is, and_true] at hd
      simp only [hd] at hK ⊢
      clear hd
      go_simp
      with_reducible refine (cON.out W).mono ?_
      rintro e wy ⟨rfl, hby⟩
      exact hK _ _ _ rfl hby IsOut
    refine ⟨fun u W hb hd K hK => ?_, ?_⟩
    · simp only [Facts, nthR, Is, and_true] at hd
      simp only [hd] at hK ⊢
      clear hd
      go_simp
      apply hK
      · simp only [Act.put, List.setIfInBounds_toArray, List.set_cons_zero, List.set_cons_succ]
        exact rfl
      · exact Below.refl _ _
      · exact IsOut
    refine ⟨fun u W hb hd K hK => ?_, ?_⟩
    · simp only [Facts, nthR, Is, and_true] at hd
      simp only [hd] at hK ⊢
      clear hd
      go_simp
      apply hK
      · simp only [Act.put, List.setIfInBounds_toArray, List.set_cons_zero, List.set_cons_succ]
        exact rfl
      · exact Below.refl _ _
      · exact IsOut
    refine ⟨fun u W hb hd K hK => ?_, ?_⟩
    · simp only [Facts, nthR, Is, and_true] at hd
      simp only [hd] at hK ⊢
      clear hd
      go_simp
      apply hK
      · simp only [Act.put, List.setIfInBounds_toArray, List.set_cons_zero, List.set_cons_succ]
        exact rfl
      · exact Below.refl _ _
      · exact IsOut
    exact trivial
  · exact (.is (.is (.is (.is (.is (.is (.is (.is (.is (.is (.is (.is (.is (.is (.is (.is .nil))))))))))))))))
  · intro u W hb hd
    simp only [Facts, nthR, Is, and_true] at hd
    simp only [hd]
    have hbF := hbw.trans (hb.mono hbw.size)
    go_wp2
    go_ret
    exact ⟨by simp, hbF⟩
set_option maxRecDepth 100000 in
set_option maxHeartbeats 4000000 in
theorem bkeys_4 (A : Option Addr) (ck : Nat) (xs b : List UInt8) (w : World) (iK : InK w w.heap.size A ck xs) (l1 : b.length = 16) (hkl : (xs.take 70).length = 16) :
    Calls Try.prog 4 #[.slice A xs.length ck, BV b] w fun e w' => e = .returned (.bool true) ∧ Below w.heap.size w w' := by
  have mk : min (xs.length : Int) 70 = ((xs.take 70).length : Int) := by rw [List.length_take]; omega
  have jK := iK.take 70
  have lk : (xs.take 70).length ≤ 70 := by rw [List.length_take]; omega
  obtain ⟨hk1, hk2, _⟩ := iK
  have kk := jK.1
  have hlx : (xs.take 70).length ≤ xs.length := by rw [List.length_take]; omega
  generalize xs.take 70 = key at *
  have HBL := Lib.hid l1
  have hB0 := Blk.new_of w 23 (b.map B8).toArray (b.map B8) rfl
  have hbx := (Below.refl w.heap.size w).alloc (Nat.le_refl _) (.cells (b.map B8).toArray 23)
  have hby := hbx.alloc (by simp) (.cells #[] 5)
  have hbuf := buf_empty (w.alloc (.cells (b.map B8).toArray 23))
  rw [show (w.alloc (.cells (b.map B8).toArray 23)).heap.size = w.heap.size + 1 by simp] at hbuf
  have hsrc := src_ink (jK.below hby) rfl
  obtain ⟨Z, hZ⟩ : ∃ Z, Z = zero16 := ⟨_, rfl⟩
  have hE0 : ∀ W : World, (Op.equalIn 10000 23 (.agg (Z.map B8).toArray) (.agg #[.int .u8 0, .int .u8 0, .int .u8 0, .int .u8 0, .int .u8 0, .int .u8 0, .int .u8 0, .int .u8 0, .int .u8 0, .int .u8 0, .int .u8 0, .int .u8 0, .int .u8 0, .int .u8 0, .int .u8 0, .int .u8 0])).run Try.prog W = .ok true W := fun W => by
    have h : (Op.equalIn 10000 23 (BV zero16) (BV zero16)).run Try.prog W = .ok true W := by rw [equal_blocks _ _ (by rfl) (by rfl), beq_self_eq_true]
    rw [hZ]; exact h
  have cSN := Lib.hid (fun W => seal_nil b W l1)
  have cON := Lib.hid (fun W => open_nil b W l1)
  rw [← hZ] at cSN cON
  clear hZ
  have hle1 : w.heap.size + 1 ≤ ((w.alloc (.cells (b.map B8).toArray 23)).alloc (.cells #[] 5)).heap.size := by simp
  clear l1 jK
  have HKL := Lib.hid hkl
  clear hkl
  go_enter Try.func4, Try.ntmps4
  go_wp2_with (refine wpList_append_buf rfl (.tmp 9) (.tmp 14) 24 rfl (w.heap.size + 1) _ 0 0 [] key _ rfl hbuf rfl hsrc (by omega) hle1 ?_; rw [List.nil_append, Nat.zero_add]; intro A1 c1 w1 hK1 hg1)
  have hB1 := (hB0.alloc (.cells #[] 5)).grown hg1 (by simp [ownOf])
  have hb1 : Below w.heap.size w w1 := hby.trans ⟨hg1.os, hg1.tape, hg1.output, hg1.size, fun k hk => hg1.block k (Nat.lt_of_lt_of_le hk hby.size) (by simp [ownOf]; omega)⟩
  clear hbuf hsrc hbx hby hB0 hg1 hle1 mk hk1 hk2 kk hlx
  have hkl := HKL.out
  rw [hkl] at hK1 ⊢
  obtain ⟨g1, rfl, hbg, hlg, hby1⟩ := hK1.at (by omega)
  have hok := hK1.ok (by omega)
  obtain ⟨c, hc⟩ : ∃ c, c = sealS (keyL 4 key) 11 b := ⟨_, rfl⟩
  have HCL := Lib.hid (show c.length = 16 by rw [hc]; exact sealS_length _ _ _)
  have hE1 : ∀ W : World, (Op.equalIn 10000 23 (BV c) (BV c)).run Try.prog W = .ok true W := fun W => by rw [equal_blocks _ _ HCL.out HCL.out, beq_self_eq_true]
  have HRF := Lib.hid (fun W => refSeal_any 4 (.inl rfl) key b hkl HBL.out W)
  rw [show 4 + 7 = 11 from rfl, ← hc] at HRF
  have HN := new_part (n := 4) (c := c1) (key := key) hby1 hlg hkl hK1.le.1 hK1.le.2 (.inl rfl)
  go_wp2_with (go_at_call 7; go_loud (refine HN.mono ?_; rintro e w2 ⟨gk, gr, rfl, hgk, hk, hb2⟩))
  have hB := hB1.below hb2 hB1.lt
  have hok2 := hok.below hb2
  have hy2 := hby1.below hb2 hlg
  have hbw := hb1.trans (hb2.mono hb1.size)
  have hne := (show gk ≠ g1 ∧ gr ≠ g1 ∧ w.heap.size ≠ g1 ∧ w.heap.size ≤ g1 from ⟨by omega, Ne.symm (not_round hk hok2 (by omega) (by omega)), by omega, by omega⟩)
  have HC := Lib.hid hc
  clear hok hby1 hK1 HN hB1 hb1 hb2 hgk hbg hlg hc hkl
  apply wp_region_once (D := [[], [0], [0, 1], [0, 1, 2], [0, 1, 2], [0, 1, 2, 3, 4], [0, 1, 2], [0, 1, 2, 3, 4, 5, 6], [0, 1, 2, 3, 4, 5, 6, 7], [0, 1, 2, 3, 4, 5, 6, 7, 8], [0, 1, 2, 3, 4, 5, 6, 7, 8, 9], [0, 1, 2, 3, 4, 5, 6, 7, 8, 9], [0, 1, 2, 3, 4, 5, 6, 7, 8, 9, 10, 11], [0, 1, 2, 3, 4, 5, 6, 7, 8, 9], [0, 1, 2, 3, 4, 5, 6, 7, 8, 9, 10, 11, 12, 13], [0, 1, 2, 3, 4, 5, 6, 7, 8, 9, 10, 11, 12, 13, 14]]) (J := [[], [0], [1], [2], [2], [2, 3, 4], [2], [2, 5, 6], [2, 7], [8], [9], [9], [9, 10, 11], [9], [9, 12, 13], [9, 14]]) (Je := [15]) (Rs := [Is _, Is _, Is _, Is _, Is _, Is _, Is _, Is _, Is _, Is _, Is _, Is _, Is _, Is _, Is _, Is _])
  · kernel_rfl
  · kernel_rfl
  · kernel_rfl
  · kernel_rfl
  · kernel_rfl
  · kernel_rfl
  · intro u
    simp only [List.map_cons, List.map_nil, fillU, List.setIfInBounds_toArray, List.set_cons_zero, List.set_cons_succ, Nat.zero_add, Nat.reduceAdd]
    exact rfl
  · skip
    refine ⟨fun u W hb hd K hK => ?_, ?_⟩
    · clear hd
      go_simp
      with_reducible refine (blocks_any W).mono ?_
      rintro e wy ⟨rfl, hby⟩
      exact hK _ _ _ rfl hby IsOut
    refine ⟨fun u W hb hd K hK => ?_, ?_⟩
    · simp only [Facts, nthR, Is, and_true] at hd
      simp only [hd] at hK ⊢
      clear hd
      go_simp
      apply hK
      · simp only [Act.put, List.setIfInBounds_toArray, List.set_cons_zero, List.set_cons_succ]
        exact rfl
      · exact Below.refl _ _
      · exact IsOut
    refine ⟨fun u W hb hd K hK => ?_, ?_⟩
    · simp only [Facts, nthR, Is, and_true] at hd
      simp only [hd] at hK ⊢
      clear hd
      go_simp
      apply hK
      · simp only [Act.put, List.setIfInBounds_toArray, List.set_cons_zero, List.set_cons_succ]
        exact rfl
      · exact Below.refl _ _
      · exact IsOut
    refine ⟨fun u W hb hd K hK => ?_, ?_⟩
    · simp only [Facts, nthR, Is, and_true] at hd
      simp only [hd] at hK ⊢
      clear hd
      go_simp
      refine (none_any W).mono ?_
      rintro e wy ⟨rfl, hwy⟩
      subst hwy
      exact hK _ _ _ rfl (Below.refl _ _) IsOut
    refine ⟨fun u W hb hd K hK => ?_, ?_⟩
    · simp only [Facts, nthR, Is, and_true] at hd
      simp only [hd] at hK ⊢
      clear hd
      rw [if_pos (by rfl)]
      refine wp_load_mid 23 (.tmp 3) rfl (w.heap.size) (0) rfl (b.map B8) _ (rangeAt_blk (hB.below hb hB.lt)) Try.underlying23 rfl (infoBk.trans (by rw [List.length_map, HBL.out])) ?_
      exact hK _ _ _ rfl (Below.refl _ _) IsOut
    refine ⟨fun u W hb hd K hK => ?_, ?_⟩
    · simp only [Facts, nthR, Is, and_true] at hd
      simp only [hd] at hK ⊢
      clear hd
      go_simp
      with_reducible refine (cSN.out W).mono ?_
      rintro e wy ⟨rfl, hby⟩
      exact hK _ _ _ rfl hby IsOut
    refine ⟨fun u W hb hd K hK => ?_, ?_⟩
    · simp only [Facts, nthR, Is, and_true] at hd
      simp only [hd] at hK ⊢
      clear hd
      go_simp
      apply hK
      · simp only [Act.put, List.setIfInBounds_toArray, List.set_cons_zero, List.set_cons_succ]
        exact rfl
      · exact Below.refl _ _
      · exact IsOut
    refine ⟨fun u W hb hd K hK => ?_, ?_⟩
    · simp only [Facts, nthR, Is, and_true] at hd
      simp only [hd] at hK ⊢
      clear hd
      go_simp
      apply hK
      · simp only [Act.put, List.setIfInBounds_toArray, List.set_cons_zero, List.set_cons_succ]
        exact rfl
      · exact Below.refl _ _
      · exact IsOut
    refine ⟨fun u W hb hd K hK => ?_, ?_⟩
    · simp only [Facts, nthR, Is, and_true] at hd
      simp only [hd] at hK ⊢
      clear hd
      go_simp
      apply hK
      · simp only [Act.put, List.setIfInBounds_toArray, List.set_cons_zero, List.set_cons_succ]
        exact rfl
      · exact Below.refl _ _
      · exact IsOut
    refine ⟨fun u W hb hd K hK => ?_, ?_⟩
    · simp only [Facts, nthR, Is, and_true] at hd
      simp only [hd] at hK ⊢
      clear hd
      go_simp
      apply hK
      · simp only [Act.put, List.setIfInBounds_toArray, List.set_cons_zero, List.set_cons_succ]
        exact rfl
      · exact Below.refl _ _
      · exact IsOut
    refine ⟨fun u W hb hd K hK => ?_, ?_⟩
    · simp only [Facts, nthR, Is, and_true] at hd
      simp only [hd] at hK ⊢
      clear hd
      go_simp
      refine (none_any W).mono ?_
      rintro e wy ⟨rfl, hwy⟩
      subst hwy
      exact hK _ _ _ rfl (Below.refl _ _) IsOut
    refine ⟨fun u W hb hd K hK => ?_, ?_⟩
    · simp only [Facts, nthR, Is, and_true] at hd
      simp only [hd] at hK ⊢
      clear hd
      rw [if_pos (by rfl)]
      refine wp_load_mid 23 (.tmp 3) rfl (w.heap.size) (0) rfl (b.map B8) _ (rangeAt_blk (hB.below hb hB.lt)) Try.underlying23 rfl (infoBk.trans (by rw [List.length_map, HBL.out])) ?_
      exact hK _ _ _ rfl (Below.refl _ _) IsOut
    refine ⟨fun u W hb hd K hK => ?_, ?_⟩
    · simp only [Facts, nthR, Is, and_true] at hd
      simp only [hd] at hK ⊢
      clear hd
      go_simp
      with_reducible refine (cON.out W).mono ?_
      rintro e wy ⟨rfl, hby⟩
      exact hK _ _ _ rfl hby IsOut
    refine ⟨fun u W hb hd K hK => ?_, ?_⟩
    · simp only [Facts, nthR, Is, and_true] at hd
      simp only [hd] at hK ⊢
      clear hd
      go_simp
      apply hK
      · simp only [Act.put, List.setIfInBounds_toArray, List.set_cons_zero, List.set_cons_succ]
        exact rfl
      · exact Below.refl _ _
      · exact IsOut
    refine ⟨fun u W hb hd K hK => ?_, ?_⟩
    · simp only [Facts, nthR, Is, and_true] at hd
      simp only [hd] at hK ⊢
      clear hd
      go_simp
      apply hK
      · simp only [Act.put, List.setIfInBounds_toArray, List.set_cons_zero, List.set_cons_succ]
        exact rfl
      · exact Below.refl _ _
      · exact IsOut
    refine ⟨fun u W hb hd K hK => ?_, ?_⟩
    · simp only [Facts, nthR, Is, and_true] at hd
      simp only [hd] at hK ⊢
      clear hd
      go_simp
      apply hK
      · simp only [Act.put, List.setIfInBounds_toArray, List.set_cons_zero, List.set_cons_succ]
        exact rfl
      · exact Below.refl _ _
      · exact IsOut
    exact trivial
  · exact (.is (.is (.is (.is (.is (.is (.is (.is (.is (.is (.is (.is (.is (.is (.is (.is .nil))))))))))))))))
  · intro u W hb hd
    simp only [Facts, nthR, Is, and_true] at hd
    simp only [hd]
    replace hB := hB.below hb hB.lt
    replace hy2 := hy2.below hb hok2.l
    replace hok2 := hok2.below hb
    replace hk := hk.below hb
    replace hbw := hbw.trans (hb.mono hbw.size)
    clear hb
    have hcv := conv_key hy2 16 c1 HKL.out
    go_wp2
    clear hcv hy2
    go_loopw [8] (fun i wr => ∃ k : Nat, k ≤ 16 ∧ i = .int .i64 (k : Int) ∧ RowOk wr g1 16 ∧ Blk wr w.heap.size 23 (b.map B8) ∧ KeyAt wr gk gr 11 (keyL 4 key) ∧ Below w.heap.size w wr) (fun i _ => 16 - (intOf i).toNat)
    case atStart => exact ⟨0, by omega, rfl, hok2, hB, hk, hbw⟩
    case round =>
      clear hok2 hB hk hbw
      obtain ⟨k, hkL, rfl, hok, hB, hk, hbw⟩ := hrel
      by_cases hlt : k < 16
      · have hd : decide ((k : Int) < 16) = true := by simp; omega
        obtain ⟨y, hcc⟩ := hok.c k hlt
        have hfr := hok.f k hlt
        obtain ⟨z, hz⟩ : ∃ z, z = y ^^^ 255 := ⟨_, rfl⟩
        have hxx : bits .xor .u8 (y.toNat : Int) 255 = (z.toNat : Int) := by rw [hz, r_xor255]
        have hk0 : (0 : Int) ≤ (k : Int) := by omega
        have hk1 : (k : Int) < 16 := by omega
        clear hz
        go_wp2
        go_roundw
        case rel => exact ⟨k + 1, by omega, by go_num, hok.set k z, hB.far (by simp; exact hne.2.2.1) _, ⟨hk.key.far (by simp; exact hne.1) _, hk.rounds.far (by simp; exact hne.2.1) _, hk.len⟩, hbw.setCell (by simp; exact hne.2.2.2) _⟩
        case measure => simp [intOf]; omega
      · have hd : decide ((k : Int) < 16) = false := by simp; omega
        rw [show (k : Int) = 16 by omega]
        have H24 := Lib.hid (fun (W : World) (hb : Below wr.heap.size wr W) => seal_any gk gr 11 (keyL 4 key) b W (hk.below hb) (by omega) (by omega) HBL.out)
        rw [← HC.out] at H24
        clear hok hk hE0
        go_wp2
        apply wp_region_once (D := [[], [0], [0, 1], [0, 1, 2], [0, 1, 2], [0, 1, 2, 3, 4], [0, 1, 2], [0, 1, 2], [0, 1, 2, 3, 4, 5, 6, 7], [0, 1, 2, 3, 4, 5, 6, 7, 8], [0, 1, 2, 3, 4, 5, 6, 7, 8, 9], [0, 1, 2, 3, 4, 5, 6, 7, 8, 9, 10]]) (J := [[], [0], [1], [2], [2], [2, 3, 4], [2], [2], [2, 6, 7], [2, 5, 8], [2, 9], [10]]) (Je := [11]) (Rs := [Is _, Is _, Is _, Is _, Is _, Is _, Is _, Is _, Is _, Is _, Is _, Is _])
        · kernel_rfl
        · kernel_rfl
        · kernel_rfl
        · kernel_rfl
        · kernel_rfl
        · kernel_rfl
        · intro u
          simp only [List.map_cons, List.map_nil, fillU, List.setIfInBounds_toArray, List.set_cons_zero, List.set_cons_succ, Nat.zero_add, Nat.reduceAdd]
          exact rfl
        · skip
          refine ⟨fun u W hb hd K hK => ?_, ?_⟩
          · clear hd
            go_simp
            apply hK
            · simp only [Act.put, List.setIfInBounds_toArray, List.set_cons_zero, List.set_cons_succ]
              exact rfl
            · exact Below.refl _ _
            · exact IsOut
          refine ⟨fun u W hb hd K hK => ?_, ?_⟩
          · simp only [Facts, nthR, Is, and_true] at hd
            simp only [hd] at hK ⊢
            clear hd
            go_simp
            apply hK
            · simp only [Act.put, List.setIfInBounds_toArray, List.set_cons_zero, List.set_cons_succ]
              exact rfl
            · exact Below.refl _ _
            · exact IsOut
          refine ⟨fun u W hb hd K hK => ?_, ?_⟩
          · simp only [Facts, nthR, Is, and_true] at hd
            simp only [hd] at hK ⊢
            clear hd
            go_simp
            apply hK
            · simp only [Act.put, List.setIfInBounds_toArray, List.set_cons_zero, List.set_cons_succ]
              exact rfl
            · exact Below.refl _ _
            · exact IsOut
          refine ⟨fun u W hb hd K hK => ?_, ?_⟩
          · simp only [Facts, nthR, Is, and_true] at hd
            simp only [hd] at hK ⊢
            clear hd
            go_simp
            apply hK
            · simp only [Act.put, List.setIfInBounds_toArray, List.set_cons_zero, List.set_cons_succ]
              exact rfl
            · exact Below.refl _ _
            · exact IsOut
          refine ⟨fun u W hb hd K hK => ?_, ?_⟩
          · simp only [Facts, nthR, Is, and_true] at hd
            simp only [hd] at hK ⊢
            clear hd
            rw [if_pos (by rfl)]
            refine wp_load_mid 23 (.tmp 3) rfl (w.heap.size) (0) rfl (b.map B8) _ (rangeAt_blk (hB.below hb hB.lt)) Try.underlying23 rfl (infoBk.trans (by rw [List.length_map, HBL.out])) ?_
            exact hK _ _ _ rfl (Below.refl _ _) IsOut
          refine ⟨fun u W hb hd K hK => ?_, ?_⟩
          · simp only [Facts, nthR, Is, and_true] at hd
            simp only [hd] at hK ⊢
            clear hd
            go_simp
            with_reducible refine (H24.out W hb).mono ?_
            rintro e wy ⟨rfl, hby⟩
            exact hK _ _ _ rfl hby IsOut
          refine ⟨fun u W hb hd K hK => ?_, ?_⟩
          · simp only [Facts, nthR, Is, and_true] at hd
            simp only [hd] at hK ⊢
            clear hd
            go_simp
            apply hK
            · simp only [Act.put, List.setIfInBounds_toArray, List.set_cons_zero, List.set_cons_succ]
              exact rfl
            · exact Below.refl _ _
            · exact IsOut
          refine ⟨fun u W hb hd K hK => ?_, ?_⟩
          · simp only [Facts, nthR, Is, and_true] at hd
            simp only [hd] at hK ⊢
            clear hd
            rw [if_pos (by rfl)]
            refine wp_load_mid 23 (.tmp 3) rfl (w.heap.size) (0) rfl (b.map B8) _ (rangeAt_blk (hB.below hb hB.lt)) Try.underlying23 rfl (infoBk.trans (by rw [List.length_map, HBL.out])) ?_
            exact hK _ _ _ rfl (Below.refl _ _) IsOut
          refine ⟨fun u W hb hd K hK => ?_, ?_⟩
          · simp only [Facts, nthR, Is, and_true] at hd
            simp only [hd] at hK ⊢
            clear hd
            go_simp
            with_reducible refine (HRF.out W).mono ?_
            rintro e wy ⟨rfl, hby⟩
            exact hK _ _ _ rfl hby IsOut
          refine ⟨fun u W hb hd K hK => ?_, ?_⟩
          · simp only [Facts, nthR, Is, and_true] at hd
            simp only [hd] at hK ⊢
            clear hd
            go_simp
            apply hK
            · simp only [Act.put, List.setIfInBounds_toArray, List.set_cons_zero, List.set_cons_succ]
              exact rfl
            · exact Below.refl _ _
            · exact IsOut
          refine ⟨fun u W hb hd K hK => ?_, ?_⟩
          · simp only [Facts, nthR, Is, and_true] at hd
            simp only [hd] at hK ⊢
            clear hd
            go_simp
            apply hK
            · simp only [Act.put, List.setIfInBounds_toArray, List.set_cons_zero, List.set_cons_succ]
              exact rfl
            · exact Below.refl _ _
            · exact IsOut
          refine ⟨fun u W hb hd K hK => ?_, ?_⟩
          · simp only [Facts, nthR, Is, and_true] at hd
            simp only [hd] at hK ⊢
            clear hd
            go_simp
            apply hK
            · simp only [Act.put, List.setIfInBounds_toArray, List.set_cons_zero, List.set_cons_succ]
              exact rfl
            · exact Below.refl _ _
            · exact IsOut
          exact trivial
        · exact (.is (.is (.is (.is (.is (.is (.is (.is (.is (.is (.is (.is .nil))))))))))))
        · intro u W hb hd
          simp only [Facts, nthR, Is, and_true] at hd
          simp only [hd]
          have hbF := hbw.trans (hb.mono hbw.size)
          go_wp2
          go_ret
          exact ⟨by simp, hbF⟩
set_option maxRecDepth 100000 in
set_option maxHeartbeats 4000000 in
theorem bkeys_8 (A : Option Addr) (ck : Nat) (xs b : List UInt8) (w : World) (iK : InK w w.heap.size A ck xs) (l1 : b.length = 16) (hkl : (xs.take 70).length = 32) :
    Calls Try.prog 4 #[.slice A xs.length ck, BV b] w fun e w' => e = .returned (.bool true) ∧ Below w.heap.size w w' := by
  have mk : min (xs.length : Int) 70 = ((xs.take 70).length : Int) := by rw [List.length_take]; omega
  have jK := iK.take 70
  have lk : (xs.take 70).length ≤ 70 := by rw [List.length_take]; omega
  obtain ⟨hk1, hk2, _⟩ := iK
  have kk := jK.1
  have hlx : (xs.take 70).length ≤ xs.length := by rw [List.length_take]; omega
  generalize xs.take 70 = key at *
  have HBL := Lib.hid l1
  have hB0 := Blk.new_of w 23 (b.map B8).toArray (b.map B8) rfl
  have hbx := (Below.refl w.heap.size w).alloc (Nat.le_refl _) (.cells (b.map B8).toArray 23)
  have hby := hbx.alloc (by simp) (.cells #[] 5)
  have hbuf := buf_empty (w.alloc (.cells (b.map B8).toArray 23))
  rw [show (w.alloc (.cells (b.map B8).toArray 23)).heap.size = w.heap.size + 1 by simp] at hbuf
  have hsrc := src_ink (jK.below hby) rfl
  obtain ⟨Z, hZ⟩ : ∃ Z, Z = zero16 := ⟨_, rfl⟩
  have hE0 : ∀ W : World, (Op.equalIn 10000 23 (.agg (Z.map B8).toArray) (.agg #[.int .u8 0, .int .u8 0, .int .u8 0, .int .u8 0, .int .u8 0, .int .u8 0, .int .u8 0, .int .u8 0, .int .u8 0, .int .u8 0, .int .u8 0, .int .u8 0, .int .u8 0, .int .u8 0, .int .u8 0, .int .u8 0])).run Try.prog W = .ok true W := fun W => by
    have h : (Op.equalIn 10000 23 (BV zero16) (BV zero16)).run Try.prog W = .ok true W := by rw [equal_blocks _ _ (by rfl) (by rfl), beq_self_eq_true]
    rw [hZ]; exact h
  have cSN := Lib.hid (fun W => seal_nil b W l1)
  have cON := Lib.hid (fun W => open_nil b W l1)
  rw [← hZ] at cSN cON
  clear hZ
  have hle1 : w.heap.size + 1 ≤ ((w.alloc (.cells (b.map B8).toArray 23)).alloc (.cells #[] 5)).heap.size := by simp
  clear l1 jK
  have HKL := Lib.hid hkl
  clear hkl
  go_enter Try.func4, Try.ntmps4
  go_wp2_with (refine wpList_append_buf rfl (.tmp 9) (.tmp 14) 24 rfl (w.heap.size + 1) _ 0 0 [] key _ rfl hbuf rfl hsrc (by omega) hle1 ?_; rw [List.nil_append, Nat.zero_add]; intro A1 c1 w1 hK1 hg1)
  have hB1 := (hB0.alloc (.cells #[] 5)).grown hg1 (by simp [ownOf])
  have hb1 : Below w.heap.size w w1 := hby.trans ⟨hg1.os, hg1.tape, hg1.output, hg1.size, fun k hk => hg1.block k (Nat.lt_of_lt_of_le hk hby.size) (by simp [ownOf]; omega)⟩
  clear hbuf hsrc hbx hby hB0 hg1 hle1 mk hk1 hk2 kk hlx
  have hkl := HKL.out
  rw [hkl] at hK1 ⊢
  obtain ⟨g1, rfl, hbg, hlg, hby1⟩ := hK1.at (by omega)
  have hok := hK1.ok (by omega)
  obtain ⟨c, hc⟩ : ∃ c, c = sealS (keyL 8 key) 15 b := ⟨_, rfl⟩
  have HCL := Lib.hid (show c.length = 16 by rw [hc]; exact sealS_length _ _ _)
  have hE1 : ∀ W : World, (Op.equalIn 10000 23 (BV c) (BV c)).run Try.prog W = .ok true W := fun W => by rw [equal_blocks _ _ HCL.out HCL.out, beq_self_eq_true]
  have HRF := Lib.hid (fun W => refSeal_any 8 (.inr rfl) key b hkl HBL.out W)
  rw [show 8 + 7 = 15 from rfl, ← hc] at HRF
  have HN := new_part (n := 8) (c := c1) (key := key) hby1 hlg hkl hK1.le.1 hK1.le.2 (.inr rfl)
  go_wp2_with (go_at_call 7; go_loud (refine HN.mono ?_; rintro e w2 ⟨gk, gr, rfl, hgk, hk, hb2⟩))
  have hB := hB1.below hb2 hB1.lt
  have hok2 := hok.below hb2
  have hy2 := hby1.below hb2 hlg
  have hbw := hb1.trans (hb2.mono hb1.size)
  have hne := (show gk ≠ g1 ∧ gr ≠ g1 ∧ w.heap.size ≠ g1 ∧ w.heap.size ≤ g1 from ⟨by omega, Ne.symm (not_round hk hok2 (by omega) (by omega)), by omega, by omega⟩)
  have HC := Lib.hid hc
  clear hok hby1 hK1 HN hB1 hb1 hb2 hgk hbg hlg hc hkl
  apply wp_region_once (D := [[], [0], [0, 1], [0, 1, 2], [0, 1, 2], [0, 1, 2, 3, 4], [0, 1, 2], [0, 1, 2, 3, 4, 5, 6], [0, 1, 2, 3, 4, 5, 6, 7], [0, 1, 2, 3, 4, 5, 6, 7, 8], [0, 1, 2, 3, 4, 5, 6, 7, 8, 9], [0, 1, 2, 3, 4, 5, 6, 7, 8, 9], [0, 1, 2, 3, 4, 5, 6, 7, 8, 9, 10, 11], [0, 1, 2, 3, 4, 5, 6, 7, 8, 9], [0, 1, 2, 3, 4, 5, 6, 7, 8, 9, 10, 11, 12, 13], [0, 1, 2, 3, 4, 5, 6, 7, 8, 9, 10, 11, 12, 13, 14]]) (J := [[], [0], [1], [2], [2], [2, 3, 4], [2], [2, 5, 6], [2, 7], [8], [9], [9], [9, 10, 11], [9], [9, 12, 13], [9, 14]]) (Je := [15]) (Rs := [Is _, Is _, Is _, Is _, Is _, Is _, Is _, Is _, Is _, Is _, Is _, Is _, Is _, Is _, Is _, Is _])
  · kernel_rfl
  · kernel_rfl
  · kernel_rfl
  · kernel_rfl
  · kernel_rfl
  · kernel_rfl
  · intro u
    simp only [List.map_cons, List.map_nil, fillU, List.setIfInBounds_toArray, List.set_cons_zero, List.set_cons_succ, Nat.zero_add, Nat.reduceAdd]
    exact rfl
  · skip
    refine ⟨fun u W hb hd K hK => ?_, ?_⟩
    · clear hd
      go_simp
      with_reducible refine (blocks_any W).mono ?_
      rintro e wy ⟨rfl, hby⟩
      exact hK _ _ _ rfl hby IsOut
    refine ⟨fun u W hb hd K hK => ?_, ?_⟩
    · simp only [Facts, nthR, Is, and_true] at hd
      simp only [hd] at hK ⊢
      clear hd
      go_simp
      apply hK
      · simp only [Act.put, List.setIfInBounds_toArray, List.set_cons_zero, List.set_cons_succ]
        exact rfl
      · exact Below.refl _ _
      · exact IsOut
    refine ⟨fun u W hb hd K hK => ?_, ?_⟩
    · simp only [Facts, nthR, Is, and_true] at hd
      simp only [hd] at hK ⊢
      clear hd
      go_simp
      apply hK
      · simp only [Act.put, List.setIfInBounds_toArray, List.set_cons_zero, List.set_cons_succ]
        exact rfl
      · exact Below.refl _ _
      · exact IsOut
    refine ⟨fun u W hb hd K hK => ?_, ?_⟩
    · simp only [Facts, nthR, Is, and_true] at hd
      simp only [hd] at hK ⊢
      clear hd
      go_simp
      refine (none_any W).mono ?_
      rintro e wy ⟨rfl, hwy⟩
      subst hwy
      exact hK _ _ _ rfl (Below.refl _ _) IsOut
    refine ⟨fun u W hb hd K hK => ?_, ?_⟩
    · simp only [Facts, nthR, Is, and_true] at hd
      simp only [hd] at hK ⊢
      clear hd
      rw [if_pos (by rfl)]
      refine wp_load_mid 23 (.tmp 3) rfl (w.heap.size) (0) rfl (b.map B8) _ (rangeAt_blk (hB.below hb hB.lt)) Try.underlying23 rfl (infoBk.trans (by rw [List.length_map, HBL.out])) ?_
      exact hK _ _ _ rfl (Below.refl _ _) IsOut
    refine ⟨fun u W hb hd K hK => ?_, ?_⟩
    · simp only [Facts, nthR, Is, and_true] at hd
      simp only [hd] at hK ⊢
      clear hd
      go_simp
      with_reducible refine (cSN.out W).mono ?_
      rintro e wy ⟨rfl, hby⟩
      exact hK _ _ _ rfl hby IsOut
    refine ⟨fun u W hb hd K hK => ?_, ?_⟩
    · simp only [Facts, nthR, Is, and_true] at hd
      simp only [hd] at hK ⊢
      clear hd
      go_simp
      apply hK
      · simp only [Act.put, List.setIfInBounds_toArray, List.set_cons_zero, List.set_cons_succ]
        exact rfl
      · exact Below.refl _ _
      · exact IsOut
    refine ⟨fun u W hb hd K hK => ?_, ?_⟩
    · simp only [Facts, nthR, Is, and_true] at hd
      simp only [hd] at hK ⊢
      clear hd
      go_simp
      apply hK
      · simp only [Act.put, List.setIfInBounds_toArray, List.set_cons_zero, List.set_cons_succ]
        exact rfl
      · exact Below.refl _ _
      · exact IsOut
    refine ⟨fun u W hb hd K hK => ?_, ?_⟩
    · simp only [Facts, nthR, Is, and_true] at hd
      simp only [hd] at hK ⊢
      clear hd
      go_simp
      apply hK
      · simp only [Act.put, List.setIfInBounds_toArray, List.set_cons_zero, List.set_cons_succ]
        exact rfl
      · exact Below.refl _ _
      · exact IsOut
    refine ⟨fun u W hb hd K hK => ?_, ?_⟩
    · simp only [Facts, nthR, Is, and_true] at hd
      simp only [hd] at hK ⊢
      clear hd
      go_simp
      apply hK
      · simp only [Act.put, List.setIfInBounds_toArray, List.set_cons_zero, List.set_cons_succ]
        exact rfl
      · exact Below.refl _ _
      · exact IsOut
    refine ⟨fun u W hb hd K hK => ?_, ?_⟩
    · simp only [Facts, nthR, Is, and_true] at hd
      simp only [hd] at hK ⊢
      clear hd
      go_simp
      refine (none_any W).mono ?_
      rintro e wy ⟨rfl, hwy⟩
      subst hwy
      exact hK _ _ _ rfl (Below.refl _ _) IsOut
    refine ⟨fun u W hb hd K hK => ?_, ?_⟩
    · simp only [Facts, nthR, Is, and_true] at hd
      simp only [hd] at hK ⊢
      clear hd
      rw [if_pos (by rfl)]
      refine wp_load_mid 23 (.tmp 3) rfl (w.heap.size) (0) rfl (b.map B8) _ (rangeAt_blk (hB.below hb hB.lt)) Try.underlying23 rfl (infoBk.trans (by rw [List.length_map, HBL.out])) ?_
      exact hK _ _ _ rfl (Below.refl _ _) IsOut
    refine ⟨fun u W hb hd K hK => ?_, ?_⟩
    · simp only [Facts, nthR, Is, and_true] at hd
      simp only [hd] at hK ⊢
      clear hd
      go_simp
      with_reducible refine (cON.out W).mono ?_
      rintro e wy ⟨rfl, hby⟩
      exact hK _ _ _ rfl hby IsOut
    refine ⟨fun u W hb hd K hK => ?_, ?_⟩
    · simp only [Facts, nthR, Is, and_true] at hd
      simp only [hd] at hK ⊢
      clear hd
      go_simp
      apply hK
      · simp only [Act.put, List.setIfInBounds_toArray, List.set_cons_zero, List.set_cons_succ]
        exact rfl
      · exact Below.refl _ _
      · exact IsOut
    refine ⟨fun u W hb hd K hK => ?_, ?_⟩
    · simp only [Facts, nthR, Is, and_true] at hd
      simp only [hd] at hK ⊢
      clear hd
      go_simp
      apply hK
      · simp only [Act.put, List.setIfInBounds_toArray, List.set_cons_zero, List.set_cons_succ]
        exact rfl
      · exact Below.refl _ _
      · exact IsOut
    refine ⟨fun u W hb hd K hK => ?_, ?_⟩
    · simp only [Facts, nthR, Is, and_true] at hd
      simp only [hd] at hK ⊢
      clear hd
      go_simp
      apply hK
      · simp only [Act.put, List.setIfInBounds_toArray, List.set_cons_zero, List.set_cons_succ]
        exact rfl
      · exact Below.refl _ _
      · exact IsOut
    exact trivial
  · exact (.is (.is (.is (.is (.is (.is (.is (.is (.is (.is (.is (.is (.is (.is (.is (.is .nil))))))))))))))))
  · intro u W hb hd
    simp only [Facts, nthR, Is, and_true] at hd
    simp only [hd]
    replace hB := hB.below hb hB.lt
    replace hy2 := hy2.below hb hok2.l
    replace hok2 := hok2.below hb
    replace hk := hk.below hb
    replace hbw := hbw.trans (hb.mono hbw.size)
    clear hb
    have hcv := conv_key hy2 32 c1 HKL.out
    go_wp2
    clear hcv hy2
    go_loopw [8] (fun i wr => ∃ k : Nat, k ≤ 32 ∧ i = .int .i64 (k : Int) ∧ RowOk wr g1 32 ∧ Blk wr w.heap.size 23 (b.map B8) ∧ KeyAt wr gk gr 15 (keyL 8 key) ∧ Below w.heap.size w wr) (fun i _ => 32 - (intOf i).toNat)
    case atStart => exact ⟨0, by omega, rfl, hok2, hB, hk, hbw⟩
    case round =>
      clear hok2 hB hk hbw
      obtain ⟨k, hkL, rfl, hok, hB, hk, hbw⟩ := hrel
      by_cases hlt : k < 32
      · have hd : decide ((k : Int) < 32) = true := by simp; omega
        obtain ⟨y, hcc⟩ := hok.c k hlt
        have hfr := hok.f k hlt
        obtain ⟨z, hz⟩ : ∃ z, z = y ^^^ 255 := ⟨_, rfl⟩
        have hxx : bits .xor .u8 (y.toNat : Int) 255 = (z.toNat : Int) := by rw [hz, r_xor255]
        have hk0 : (0 : Int) ≤ (k : Int) := by omega
        have hk1 : (k : Int) < 32 := by omega
        clear hz
        go_wp2
        go_roundw
        case rel => exact ⟨k + 1, by omega, by go_num, hok.set k z, hB.far (by simp; exact hne.2.2.1) _, ⟨hk.key.far (by simp; exact hne.1) _, hk.rounds.far (by simp; exact hne.2.1) _, hk.len⟩, hbw.setCell (by simp; exact hne.2.2.2) _⟩
        case measure => simp [intOf]; omega
      · have hd : decide ((k : Int) < 32) = false := by simp; omega
        rw [show (k : Int) = 32 by omega]
        have H24 := Lib.hid (fun (W : World) (hb : Below wr.heap.size wr W) => seal_any gk gr 15 (keyL 8 key) b W (hk.below hb) (by omega) (by omega) HBL.out)
        rw [← HC.out] at H24
        clear hok hk hE0
        go_wp2
        apply wp_region_once (D := [[], [0], [0, 1], [0, 1, 2], [0, 1, 2], [0, 1, 2, 3, 4], [0, 1, 2], [0, 1, 2], [0, 1, 2, 3, 4, 5, 6, 7], [0, 1, 2, 3, 4, 5, 6, 7, 8], [0, 1, 2, 3, 4, 5, 6, 7, 8, 9], [0, 1, 2, 3, 4, 5, 6, 7, 8, 9, 10]]) (J := [[], [0], [1], [2], [2], [2, 3, 4], [2], [2], [2, 6, 7], [2, 5, 8], [2, 9], [10]]) (Je := [11]) (Rs := [Is _, Is _, Is _, Is _, Is _, Is _, Is _, Is _, Is _, Is _, Is _, Is _])
        · kernel_rfl
        · kernel_rfl
        · kernel_rfl
        · kernel_rfl
        · kernel_rfl
        · kernel_rfl
        · intro u
          simp only [List.map_cons, List.map_nil, fillU, List.setIfInBounds_toArray, List.set_cons_zero, List.set_cons_succ, Nat.zero_add, Nat.reduceAdd]
          exact rfl
        · skip
          refine ⟨fun u W hb hd K hK => ?_, ?_⟩
          · clear hd
            go_simp
            apply hK
            · simp only [Act.put, List.setIfInBounds_toArray, List.set_cons_zero, List.set_cons_succ]
              exact rfl
            · exact Below.refl _ _
            · exact IsOut
          refine ⟨fun u W hb hd K hK => ?_, ?_⟩
          · simp only [Facts, nthR, Is, and_true] at hd
            simp only [hd] at hK ⊢
            clear hd
            go_simp
            apply hK
            · simp only [Act.put, List.setIfInBounds_toArray, List.set_cons_zero, List.set_cons_succ]
              exact rfl
            · exact Below.refl _ _
            · exact IsOut
          refine ⟨fun u W hb hd K hK => ?_, ?_⟩
          · simp only [Facts, nthR, Is, and_true] at hd
            simp only [hd] at hK ⊢
            clear hd
            go_simp
            apply hK
            · simp only [Act.put, List.setIfInBounds_toArray, List.set_cons_zero, List.set_cons_succ]
              exact rfl
            · exact Below.refl _ _
            · exact IsOut
          refine ⟨fun u W hb hd K hK => ?_, ?_⟩
          · simp only [Facts, nthR, Is, and_true] at hd
            simp only [hd] at hK ⊢
            clear hd
            go_simp
            apply hK
            · simp only [Act.put, List.setIfInBounds_toArray, List.set_cons_zero, List.set_cons_succ]
              exact rfl
            · exact Below.refl _ _
            · exact IsOut
          refine ⟨fun u W hb hd K hK => ?_, ?_⟩
          · simp only [Facts, nthR, Is, and_true] at hd
            simp only [hd] at hK ⊢
            clear hd
            rw [if_pos (by rfl)]
            refine wp_load_mid 23 (.tmp 3) rfl (w.heap.size) (0) rfl (b.map B8) _ (rangeAt_blk (hB.below hb hB.lt)) Try.underlying23 rfl (infoBk.trans (by rw [List.length_map, HBL.out])) ?_
            exact hK _ _ _ rfl (Below.refl _ _) IsOut
          refine ⟨fun u W hb hd K hK => ?_, ?_⟩
          · simp only [Facts, nthR, Is, and_true] at hd
            simp only [hd] at hK ⊢
            clear hd
            go_simp
            with_reducible refine (H24.out W hb).mono ?_
            rintro e wy ⟨rfl, hby⟩
            exact hK _ _ _ rfl hby IsOut
          refine ⟨fun u W hb hd K hK => ?_, ?_⟩
          · simp only [Facts, nthR, Is, and_true] at hd
            simp only [hd] at hK ⊢
            clear hd
            go_simp
            apply hK
            · simp only [Act.put, List.setIfInBounds_toArray, List.set_cons_zero, List.set_cons_succ]
              exact rfl
            · exact Below.refl _ _
            · exact IsOut
          refine ⟨fun u W hb hd K hK => ?_, ?_⟩
          · simp only [Facts, nthR, Is, and_true] at hd
            simp only [hd] at hK ⊢
            clear hd
            rw [if_pos (by rfl)]
            refine wp_load_mid 23 (.tmp 3) rfl (w.heap.size) (0) rfl (b.map B8) _ (rangeAt_blk (hB.below hb hB.lt)) Try.underlying23 rfl (infoBk.trans (by rw [List.length_map, HBL.out])) ?_
            exact hK _ _ _ rfl (Below.refl _ _) IsOut
          refine ⟨fun u W hb hd K hK => ?_, ?_⟩
          · simp only [Facts, nthR, Is, and_true] at hd
            simp only [hd] at hK ⊢
            clear hd
            go_simp
            with_reducible refine (HRF.out W).mono ?_
            rintro e wy ⟨rfl, hby⟩
            exact hK _ _ _ rfl hby IsOut
          refine ⟨fun u W hb hd K hK => ?_, ?_⟩
          · simp only [Facts, nthR, Is, and_true] at hd
            simp only [hd] at hK ⊢
            clear hd
            go_simp
            apply hK
            · simp only [Act.put, List.setIfInBounds_toArray, List.set_cons_zero, List.set_cons_succ]
              exact rfl
            · exact Below.refl _ _
            · exact IsOut
          refine ⟨fun u W hb hd K hK => ?_, ?_⟩
          · simp only [Facts, nthR, Is, and_true] at hd
            simp only [hd] at hK ⊢
            clear hd
            go_simp
            apply hK
            · simp only [Act.put, List.setIfInBounds_toArray, List.set_cons_zero, List.set_cons_succ]
              exact rfl
            · exact Below.refl _ _
            · exact IsOut
          refine ⟨fun u W hb hd K hK => ?_, ?_⟩
          · simp only [Facts, nthR, Is, and_true] at hd
            simp only [hd] at hK ⊢
            clear hd
            go_simp
            apply hK
            · simp only [Act.put, List.setIfInBounds_toArray, List.set_cons_zero, List.set_cons_succ]
              exact rfl
            · exact Below.refl _ _
            · exact IsOut
          exact trivial
        · exact (.is (.is (.is (.is (.is (.is (.is (.is (.is (.is (.is (.is .nil))))))))))))
        · intro u W hb hd
          simp only [Facts, nthR, Is, and_true] at hd
          simp only [hd]
          have hbF := hbw.trans (hb.mono hbw.size)
          go_wp2
          go_ret
          exact ⟨by simp, hbF⟩
theorem bkeys_any (A : Option Addr) (ck : Nat) (xs b : List UInt8) (w : World) (iK : InK w w.heap.size A ck xs) (l1 : b.length = 16) :
    Calls Try.prog 4 #[.slice A xs.length ck, BV b] w fun e w' => e = .returned (.bool true) ∧ Below w.heap.size w w' := by
  by_cases h1 : (xs.take 70).length = 16
  · exact bkeys_4 A ck xs b w iK l1 h1
  by_cases h2 : (xs.take 70).length = 32
  · exact bkeys_8 A ck xs b w iK l1 h2
  exact bkeys_bad A ck xs b w iK l1 h1 h2
end Go.Proofs.Ytpieepaggfiajaa
