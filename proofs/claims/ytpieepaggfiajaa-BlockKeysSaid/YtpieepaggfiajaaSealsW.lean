/-
  The walk of BlockSeals.
-/
import Derived.Test.YtpieepaggfiajaaApartW
import Derived.Test.YtpieepaggfiajaaRv2
namespace Go.Proofs.Ytpieepaggfiajaa
open Go.RowKit

theorem conv_key {W : World} {g : Nat} {y : List UInt8} (h : Bytes W g 0 y) (n c : Nat) (hn : y.length = n) : (convert 24 9 (.slice (some ⟨g, 0, none⟩) n c)).run Try.prog W = .ok (.string ⟨y.toArray⟩) W := by
  subst hn
  refine run_convert_bytes_back W 24 9 5 ⟨g, 0, none⟩ c y Try.underlying24 Try.underlying5 Try.underlying9 (fun j hj => ?_)
  have h1 := h j hj
  rw [List.getD_eq_getElem?_getD, List.getElem?_eq_getElem hj] at h1
  rw [add_row]
  exact h1
theorem refSeal_any (n : Nat) (hn : n = 4 ∨ n = 8) (key b : List UInt8) (hl : key.length = 4 * n) (hb : b.length = 16) (w : World) :
    Calls Try.prog 10 #[.string ⟨key.toArray⟩, BV b] w fun e w' => e = .returned (BV (sealS (keyL n key) (n + 7) b)) ∧ Below w.heap.size w w' := by
  rw [← seal_out n key b hb]
  exact refSeal_out n hn key b hl hb w
theorem new_part {w : World} {g n c : Nat} {key : List UInt8} (h : Bytes w g 0 key) (hg : g < w.heap.size) (hl : key.length = 4 * n) (hc : 4 * n ≤ c) (hc2 : c ≤ 9223372036854775807) (hn : n = 4 ∨ n = 8) :
    Calls Try.prog 7 #[.slice (some ⟨g, 0, none⟩) (4 * n) c] w fun e w' => ∃ gk gr, e = .returned (.tuple #[.pointer (some ⟨gk, 0, none⟩), .int .i64 0]) ∧ w.heap.size ≤ gk ∧ KeyAt w' gk gr (n + 7) (keyL n key) ∧ Below w.heap.size w w' := by
  have := new_any (some ⟨g, 0, none⟩) c w.heap.size n key w (Nat.le_refl _) ⟨by omega, by omega, fun _ => ⟨g, 0, rfl, hg, h⟩⟩ hl hn
  rw [hl] at this
  exact this
set_option maxRecDepth 100000 in
set_option maxHeartbeats 4000000 in
theorem seals_4 (key b : List UInt8) (w : World) (l0 : key.length = 32) (l1 : b.length = 16) :
    Calls Try.prog 3 #[.agg (key.map B8).toArray, BV b, .bool true] w fun e w' => e = .returned (.bool true) ∧ Below w.heap.size w w' := by
  obtain ⟨K, hK⟩ : ∃ K, K = key.take 16 := ⟨_, rfl⟩
  have hKL : K.length = 4 * 4 := by rw [hK]; simp [l0]
  obtain ⟨c, hc⟩ : ∃ c, c = sealS (keyL 4 K) 11 b := ⟨_, rfl⟩
  obtain ⟨d, hd0⟩ : ∃ d, d = openS (keyL 4 K) 11 b := ⟨_, rfl⟩
  have hF := keyL_four 4 K
  have HCL := Lib.hid (show c.length = 16 by rw [hc]; exact sealS_length _ _ _)
  have HDL := Lib.hid (show d.length = 16 by rw [hd0]; exact openS_length _ _ _)
  have HOO := Lib.hid (show openS (keyL 4 K) 11 c = b by rw [hc]; exact open_seal _ _ hF (by omega) b l1)
  have HSS := Lib.hid (show sealS (keyL 4 K) 11 d = b by rw [hd0]; exact seal_open _ _ hF (by omega) b l1)
  have hE0 : ∀ W : World, (Op.equalIn 10000 23 (BV c) (BV c)).run Try.prog W = .ok true W := fun W => by rw [equal_blocks _ _ HCL.out HCL.out, beq_self_eq_true]
  have hE1 : ∀ W : World, (Op.equalIn 10000 23 (BV b) (BV b)).run Try.prog W = .ok true W := fun W => by rw [equal_blocks _ _ l1 l1, beq_self_eq_true]
  have hz : ∀ W : World, (zeroValue 23).run Try.prog W = .ok (BV zero16) W := fun W => by kernel_rfl
  have hK0 := Blk.new_of w 22 (key.map B8).toArray (key.map B8) rfl
  have hB0 := Blk.new2_of w (.cells (key.map B8).toArray 22) 23 (b.map B8).toArray (b.map B8) rfl
  have hK1 := hK0.alloc (.cells (b.map B8).toArray 23)
  have hbx := ((Below.refl w.heap.size w).alloc (Nat.le_refl _) (.cells (key.map B8).toArray 22)).alloc (by simp) (.cells (b.map B8).toArray 23)
  have hby : Bytes ((w.alloc (.cells (key.map B8).toArray 22)).alloc (.cells (b.map B8).toArray 23)) w.heap.size 0 K := fun j hj => by
    rw [Nat.zero_add]
    have h := hK1.at8 j (by rw [l0]; omega)
    rw [h]
    congr 3
    rw [hK]
    rw [List.getD_eq_getElem?_getD, List.getD_eq_getElem?_getD, List.getElem?_take, if_pos (by simpa [hKL] using hj)]
  have HBL := Lib.hid l1
  have HRF := Lib.hid (fun W => refSeal_any 4 (.inl rfl) K b hKL l1 W)
  rw [show 4 + 7 = 11 from rfl, ← hc] at HRF
  have HN := (fun W g hg hB => new_part (w := W) (g := g) (n := 4) (c := 32) (key := K) hB hg hKL (by omega) (by omega) (.inl rfl))
  have HKL := Lib.hid hKL
  have HC := Lib.hid hc
  have HD := Lib.hid hd0
  clear hF hK hK0 l0 l1 hc hd0 hKL
  go_enter Try.func3, Try.ntmps3
  go_wp2_with (first
    | (go_at_call 7; go_loud (refine (HN _ w.heap.size hK1.lt hby).mono ?_; rintro e w2 ⟨gk, gr, rfl, hgk, hk, hb2⟩))
    | (go_at_call 8; go_loud (refine (blocks_any _).mono ?_; rintro e w3 ⟨rfl, hb3⟩))
    | (refine wpList_load_blk rfl 23 (.tmp 4) rfl (w.heap.size + 1) rfl 23 _ _ ((hB0.below hb2 hB0.lt).below hb3 (hB0.below hb2 hB0.lt).lt) Try.underlying23 rfl (infoBk.trans (by rw [List.length_map, HBL.out])) ?_)
    | (go_at_call 9; go_loud (refine (seal_any gk gr 11 (keyL 4 K) b w3 (hk.below hb3) (by omega) (by omega) HBL.out).mono ?_; rintro e w4 ⟨rfl, hb4⟩; rw [← HC.out]))
    | (refine wpList_store_blk rfl 23 (.tmp 10) (.tmp 27) rfl rfl w4.heap.size _ rfl rfl 23 _ (Blk.new_of w4 23 _ (zero16.map B8) (by rfl)) (infoBk.trans (by rw [List.length_map, HCL.out])) (by rw [List.length_map, List.length_map, HCL.out]; rfl) (one8 _) ?_; intro w5 hC hg5))
  have hB2 := hB0.below hb2 hB0.lt
  have hB3 := hB2.below hb3 hB2.lt
  have hB4 := hB3.below hb4 hB3.lt
  have hlB := hB4.lt
  have hB := (hB4.alloc (.cells (zero16.map B8).toArray 23)).grown hg5 (by simp; omega)
  have hk3 := hk.below hb3
  have hk4 := hk3.below hb4
  have hk5 : KeyAt w5 gk gr 11 (keyL 4 K) := ⟨(hk4.key.alloc _).grown hg5 (by have := hk4.key.lt; simp; omega), (hk4.rounds.alloc _).grown hg5 (by have := hk4.rounds.lt; simp; omega), hk4.len⟩
  have hy2 := hby.below hb2 hK1.lt
  have hl2 := Nat.lt_of_lt_of_le hK1.lt hb2.size
  have hy3 := hy2.below hb3 hl2
  have hl3 := Nat.lt_of_lt_of_le hl2 hb3.size
  have hy4 := hy3.below hb4 hl3
  have hl4 := Nat.lt_of_lt_of_le hl3 hb4.size
  have hy5 := (hy4.below ((Below.refl _ _).alloc (Nat.le_refl _) (.cells (zero16.map B8).toArray 23)) hl4).grown hg5 (by simp; omega) (by simp; omega)
  have hl5 := Nat.lt_of_lt_of_le hl4 (show w4.heap.size ≤ w5.heap.size from Nat.le_trans (by simp) hg5.size)
  have hb2' := hbx.trans (hb2.mono hbx.size)
  have hb3' := hb2'.trans (hb3.mono hb2'.size)
  have hb4' := hb3'.trans (hb4.mono hb3'.size)
  have hbw := below_new (hb4'.alloc hb4'.size (.cells (zero16.map B8).toArray 23)) hg5 hb4'.size (by have := hb4'.size; simp; omega)
  clear hB0 hB2 hB3 hB4 hk hk3 hk4 hy2 hy3 hy4 hl2 hl3 hl4 hlB hb2' hb3' hb4' hbx hb2 hb3 hb4 hg5 hby hK1
  have HV := Lib.hid (fun (W : World) (hb : Below w5.heap.size w5 W) => conv_key (hy5.below hb hl5) (4 * 4) 32 HKL.out)
  have HOC := Lib.hid (fun (W : World) (hb : Below w5.heap.size w5 W) => open_any gk gr 11 (keyL 4 K) c W (hk5.below hb) (by omega) (by omega) HCL.out)
  rw [HOO.out] at HOC
  have HOB := Lib.hid (fun (W : World) (hb : Below w5.heap.size w5 W) => open_any gk gr 11 (keyL 4 K) b W (hk5.below hb) (by omega) (by omega) HBL.out)
  rw [← HD.out] at HOB
  have HSD := Lib.hid (fun (W : World) (hb : Below w5.heap.size w5 W) => seal_any gk gr 11 (keyL 4 K) d W (hk5.below hb) (by omega) (by omega) HDL.out)
  rw [HSS.out] at HSD
  generalize w.heap.size + 1 = gb at *
  generalize w4.heap.size = gc at *
  apply wp_region_once (D := [[], [], [1], [], [1, 2, 3], [0, 1, 2, 3, 4], [0, 1, 2, 3, 4, 5], [0, 1, 2, 3, 4, 5, 6], [0, 1, 2, 3, 4, 5, 6], [0, 1, 2, 3, 4, 5, 6, 7, 8], [0, 1, 2, 3, 4, 5, 6], [0, 1, 2, 3, 4, 5, 6, 7, 8, 9, 10], [0, 1, 2, 3, 4, 5, 6, 7, 8, 9, 10, 11], [0, 1, 2, 3, 4, 5, 6, 7, 8, 9, 10, 11, 12], [0, 1, 2, 3, 4, 5, 6, 7, 8, 9, 10, 11, 12, 13], [0, 1, 2, 3, 4, 5, 6, 7, 8, 9, 10, 11, 12, 13], [0, 1, 2, 3, 4, 5, 6, 7, 8, 9, 10, 11, 12, 13], [0, 1, 2, 3, 4, 5, 6, 7, 8, 9, 10, 11, 12, 13, 15, 16], [0, 1, 2, 3, 4, 5, 6, 7, 8, 9, 10, 11, 12, 13, 14, 15, 16, 17], [0, 1, 2, 3, 4, 5, 6, 7, 8, 9, 10, 11, 12, 13], [0, 1, 2, 3, 4, 5, 6, 7, 8, 9, 10, 11, 12, 13, 14, 15, 16, 17, 18, 19], [0, 1, 2, 3, 4, 5, 6, 7, 8, 9, 10, 11, 12, 13, 14, 15, 16, 17, 18, 19, 20], [0, 1, 2, 3, 4, 5, 6, 7, 8, 9, 10, 11, 12, 13, 14, 15, 16, 17, 18, 19, 20, 21]]) (J := [[], [], [1], [], [2, 3], [0, 4], [5], [6], [6], [6, 7, 8], [6], [6, 9, 10], [6, 11], [12], [13], [13], [13], [13, 15, 16], [13, 14, 17], [13], [13, 18, 19], [13, 20], [21]]) (Je := [22]) (Rs := [Is _, Is _, Is _, Is _, Is _, Is _, Is _, Is _, Is _, Is _, Is _, Is _, Is _, Is _, Is _, Is _, Is _, Is _, Is _, Is _, Is _, Is _, Is _])
  · kernel_rfl
  · kernel_rfl
  · kernel_rfl
  · kernel_rfl
  · kernel_rfl
  · kernel_rfl
  · intro u
    simp only [List.map_cons, List.map_nil, fillU, List.setIfInBounds_toArray, List.set_cons_zero, List.set_cons_succ, Nat.zero_add, Nat.reduceAdd]
    exact rfl
  · skip
    refine ⟨fun u W hb hd K hK => ?_, ?_⟩
    · clear hd
      rw [if_pos (by rfl)]
      refine wp_load_mid 23 (.tmp 10) rfl (gc) (0) rfl (c.map B8) _ (rangeAt_blk (hC.below hb hC.lt)) Try.underlying23 rfl (infoBk.trans (by rw [List.length_map, HCL.out])) ?_
      exact hK _ _ _ rfl (Below.refl _ _) IsOut
    refine ⟨fun u W hb hd K hK => ?_, ?_⟩
    · clear hd
      go_simp
      apply hK
      · simp only [Act.put, List.setIfInBounds_toArray, List.set_cons_zero, List.set_cons_succ]
        exact rfl
      · exact Below.refl _ _
      · exact IsOut
    refine ⟨fun u W hb hd K hK => ?_, ?_⟩
    · simp only [Facts, nthR, Is, and_true] at hd
      simp only [hd] at hK ⊢
      clear hd
      have hcv := HV.out W hb
      go_simp
      apply hK
      · simp only [Act.put, List.setIfInBounds_toArray, List.set_cons_zero, List.set_cons_succ]
        exact rfl
      · exact Below.refl _ _
      · exact IsOut
    refine ⟨fun u W hb hd K hK => ?_, ?_⟩
    · clear hd
      rw [if_pos (by rfl)]
      refine wp_load_mid 23 (.tmp 4) rfl (gb) (0) rfl (b.map B8) _ (rangeAt_blk (hB.below hb hB.lt)) Try.underlying23 rfl (infoBk.trans (by rw [List.length_map, HBL.out])) ?_
      exact hK _ _ _ rfl (Below.refl _ _) IsOut
    refine ⟨fun u W hb hd K hK => ?_, ?_⟩
    · simp only [Facts, nthR, Is, and_true] at hd
      simp only [hd] at hK ⊢
      clear hd
      go_simp
      with_reducible refine (HRF.out W).mono ?_
      rintro e wy ⟨rfl, hby⟩
      exact hK _ _ _ rfl hby IsOut
    refine ⟨fun u W hb hd K hK => ?_, ?_⟩
    · simp only [Facts, nthR, Is, and_true] at hd
      simp only [hd] at hK ⊢
      clear hd
      go_simp
      apply hK
      · simp only [Act.put, List.setIfInBounds_toArray, List.set_cons_zero, List.set_cons_succ]
        exact rfl
      · exact Below.refl _ _
      · exact IsOut
    refine ⟨fun u W hb hd K hK => ?_, ?_⟩
    · simp only [Facts, nthR, Is, and_true] at hd
      simp only [hd] at hK ⊢
      clear hd
      go_simp
      apply hK
      · simp only [Act.put, List.setIfInBounds_toArray, List.set_cons_zero, List.set_cons_succ]
        exact rfl
      · exact Below.refl _ _
      · exact IsOut
    refine ⟨fun u W hb hd K hK => ?_, ?_⟩
    · simp only [Facts, nthR, Is, and_true] at hd
      simp only [hd] at hK ⊢
      clear hd
      go_simp
      apply hK
      · simp only [Act.put, List.setIfInBounds_toArray, List.set_cons_zero, List.set_cons_succ]
        exact rfl
      · exact Below.refl _ _
      · exact IsOut
    refine ⟨fun u W hb hd K hK => ?_, ?_⟩
    · simp only [Facts, nthR, Is, and_true] at hd
      simp only [hd] at hK ⊢
      clear hd
      rw [if_pos (by rfl)]
      refine wp_load_mid 23 (.tmp 10) rfl (gc) (0) rfl (c.map B8) _ (rangeAt_blk (hC.below hb hC.lt)) Try.underlying23 rfl (infoBk.trans (by rw [List.length_map, HCL.out])) ?_
      exact hK _ _ _ rfl (Below.refl _ _) IsOut
    refine ⟨fun u W hb hd K hK => ?_, ?_⟩
    · simp only [Facts, nthR, Is, and_true] at hd
      simp only [hd] at hK ⊢
      clear hd
      go_simp
      with_reducible refine (HOC.out W hb).mono ?_
      rintro e wy ⟨rfl, hby⟩
      exact hK _ _ _ rfl hby IsOut
    refine ⟨fun u W hb hd K hK => ?_, ?_⟩
    · simp only [Facts, nthR, Is, and_true] at hd
      simp only [hd] at hK ⊢
      clear hd
      rw [if_pos (by rfl)]
      refine wp_load_mid 23 (.tmp 4) rfl (gb) (0) rfl (b.map B8) _ (rangeAt_blk (hB.below hb hB.lt)) Try.underlying23 rfl (infoBk.trans (by rw [List.length_map, HBL.out])) ?_
      exact hK _ _ _ rfl (Below.refl _ _) IsOut
    refine ⟨fun u W hb hd K hK => ?_, ?_⟩
    · simp only [Facts, nthR, Is, and_true] at hd
      simp only [hd] at hK ⊢
      clear hd
      go_simp
      apply hK
      · simp only [Act.put, List.setIfInBounds_toArray, List.set_cons_zero, List.set_cons_succ]
        exact rfl
      · exact Below.refl _ _
      · exact IsOut
    refine ⟨fun u W hb hd K hK => ?_, ?_⟩
    · simp only [Facts, nthR, Is, and_true] at hd
      simp only [hd] at hK ⊢
      clear hd
      go_simp
      apply hK
      · simp only [Act.put, List.setIfInBounds_toArray, List.set_cons_zero, List.set_cons_succ]
        exact rfl
      · exact Below.refl _ _
      · exact IsOut
    refine ⟨fun u W hb hd K hK => ?_, ?_⟩
    · simp only [Facts, nthR, Is, and_true] at hd
      simp only [hd] at hK ⊢
      clear hd
      go_simp
      apply hK
      · simp only [Act.put, List.setIfInBounds_toArray, List.set_cons_zero, List.set_cons_succ]
        exact rfl
      · exact Below.refl _ _
      · exact IsOut
    refine ⟨fun u W hb hd K hK => ?_, ?_⟩
    · simp only [Facts, nthR, Is, and_true] at hd
      simp only [hd] at hK ⊢
      clear hd
      go_simp
      apply hK
      · simp only [Act.put, List.setIfInBounds_toArray, List.set_cons_zero, List.set_cons_succ]
        exact rfl
      · exact Below.refl _ _
      · exact IsOut
    refine ⟨fun u W hb hd K hK => ?_, ?_⟩
    · simp only [Facts, nthR, Is, and_true] at hd
      simp only [hd] at hK ⊢
      clear hd
      go_simp
      apply hK
      · simp only [Act.put, List.setIfInBounds_toArray, List.set_cons_zero, List.set_cons_succ]
        exact rfl
      · exact Below.refl _ _
      · exact IsOut
    refine ⟨fun u W hb hd K hK => ?_, ?_⟩
    · simp only [Facts, nthR, Is, and_true] at hd
      simp only [hd] at hK ⊢
      clear hd
      rw [if_pos (by rfl)]
      refine wp_load_mid 23 (.tmp 4) rfl (gb) (0) rfl (b.map B8) _ (rangeAt_blk (hB.below hb hB.lt)) Try.underlying23 rfl (infoBk.trans (by rw [List.length_map, HBL.out])) ?_
      exact hK _ _ _ rfl (Below.refl _ _) IsOut
    refine ⟨fun u W hb hd K hK => ?_, ?_⟩
    · simp only [Facts, nthR, Is, and_true] at hd
      simp only [hd] at hK ⊢
      clear hd
      go_simp
      with_reducible refine (HOB.out W hb).mono ?_
      rintro e wy ⟨rfl, hby⟩
      exact hK _ _ _ rfl hby IsOut
    refine ⟨fun u W hb hd K hK => ?_, ?_⟩
    · simp only [Facts, nthR, Is, and_true] at hd
      simp only [hd] at hK ⊢
      clear hd
      go_simp
      with_reducible refine (HSD.out W hb).mono ?_
      rintro e wy ⟨rfl, hby⟩
      exact hK _ _ _ rfl hby IsOut
    refine ⟨fun u W hb hd K hK => ?_, ?_⟩
    · simp only [Facts, nthR, Is, and_true] at hd
      simp only [hd] at hK ⊢
      clear hd
      rw [if_pos (by rfl)]
      refine wp_load_mid 23 (.tmp 4) rfl (gb) (0) rfl (b.map B8) _ (rangeAt_blk (hB.below hb hB.lt)) Try.underlying23 rfl (infoBk.trans (by rw [List.length_map, HBL.out])) ?_
      exact hK _ _ _ rfl (Below.refl _ _) IsOut
    refine ⟨fun u W hb hd K hK => ?_, ?_⟩
    · simp only [Facts, nthR, Is, and_true] at hd
      simp only [hd] at hK ⊢
      clear hd
      go_simp
      apply hK
      · simp only [Act.put, List.setIfInBounds_toArray, List.set_cons_zero, List.set_cons_succ]
        exact rfl
      · exact Below.refl _ _
      · exact IsOut
    refine ⟨fun u W hb hd K hK => ?_, ?_⟩
    · simp only [Facts, nthR, Is, and_true] at hd
      simp only [hd] at hK ⊢
      clear hd
      go_simp
      apply hK
      · simp only [Act.put, List.setIfInBounds_toArray, List.set_cons_zero, List.set_cons_succ]
        exact rfl
      · exact Below.refl _ _
      · exact IsOut
    refine ⟨fun u W hb hd K hK => ?_, ?_⟩
    · simp only [Facts, nthR, Is, and_true] at hd
      simp only [hd] at hK ⊢
      clear hd
      go_simp
      apply hK
      · simp only [Act.put, List.setIfInBounds_toArray, List.set_cons_zero, List.set_cons_succ]
        exact rfl
      · exact Below.refl _ _
      · exact IsOut
    exact trivial
  · exact (.is (.is (.is (.is (.is (.is (.is (.is (.is (.is (.is (.is (.is (.is (.is (.is (.is (.is (.is (.is (.is (.is (.is .nil)))))))))))))))))))))))
  · intro u W hb hd
    simp only [Facts, nthR, Is, and_true] at hd
    simp only [hd]
    have hbF := hbw.trans (hb.mono hbw.size)
    go_wp2
    go_ret
    exact ⟨by simp, hbF⟩
set_option maxRecDepth 100000 in
set_option maxHeartbeats 4000000 in
theorem seals_8 (key b : List UInt8) (w : World) (l0 : key.length = 32) (l1 : b.length = 16) :
    Calls Try.prog 3 #[.agg (key.map B8).toArray, BV b, .bool false] w fun e w' => e = .returned (.bool true) ∧ Below w.heap.size w w' := by
  obtain ⟨K, hK⟩ : ∃ K, K = key := ⟨_, rfl⟩
  have hKL : K.length = 4 * 8 := by rw [hK]; simp [l0]
  obtain ⟨c, hc⟩ : ∃ c, c = sealS (keyL 8 K) 15 b := ⟨_, rfl⟩
  obtain ⟨d, hd0⟩ : ∃ d, d = openS (keyL 8 K) 15 b := ⟨_, rfl⟩
  have hF := keyL_four 8 K
  have HCL := Lib.hid (show c.length = 16 by rw [hc]; exact sealS_length _ _ _)
  have HDL := Lib.hid (show d.length = 16 by rw [hd0]; exact openS_length _ _ _)
  have HOO := Lib.hid (show openS (keyL 8 K) 15 c = b by rw [hc]; exact open_seal _ _ hF (by omega) b l1)
  have HSS := Lib.hid (show sealS (keyL 8 K) 15 d = b by rw [hd0]; exact seal_open _ _ hF (by omega) b l1)
  have hE0 : ∀ W : World, (Op.equalIn 10000 23 (BV c) (BV c)).run Try.prog W = .ok true W := fun W => by rw [equal_blocks _ _ HCL.out HCL.out, beq_self_eq_true]
  have hE1 : ∀ W : World, (Op.equalIn 10000 23 (BV b) (BV b)).run Try.prog W = .ok true W := fun W => by rw [equal_blocks _ _ l1 l1, beq_self_eq_true]
  have hz : ∀ W : World, (zeroValue 23).run Try.prog W = .ok (BV zero16) W := fun W => by kernel_rfl
  have hK0 := Blk.new_of w 22 (key.map B8).toArray (key.map B8) rfl
  have hB0 := Blk.new2_of w (.cells (key.map B8).toArray 22) 23 (b.map B8).toArray (b.map B8) rfl
  have hK1 := hK0.alloc (.cells (b.map B8).toArray 23)
  have hbx := ((Below.refl w.heap.size w).alloc (Nat.le_refl _) (.cells (key.map B8).toArray 22)).alloc (by simp) (.cells (b.map B8).toArray 23)
  have hby : Bytes ((w.alloc (.cells (key.map B8).toArray 22)).alloc (.cells (b.map B8).toArray 23)) w.heap.size 0 K := fun j hj => by
    rw [Nat.zero_add]
    have h := hK1.at8 j (by rw [l0]; omega)
    rw [h]
    congr 3
    rw [hK]
    skip
  have HBL := Lib.hid l1
  have HRF := Lib.hid (fun W => refSeal_any 8 (.inr rfl) K b hKL l1 W)
  rw [show 8 + 7 = 15 from rfl, ← hc] at HRF
  have HN := (fun W g hg hB => new_part (w := W) (g := g) (n := 8) (c := 32) (key := K) hB hg hKL (by omega) (by omega) (.inr rfl))
  have HKL := Lib.hid hKL
  have HC := Lib.hid hc
  have HD := Lib.hid hd0
  clear hF hK hK0 l0 l1 hc hd0 hKL
  go_enter Try.func3, Try.ntmps3
  go_wp2_with (first
    | (go_at_call 7; go_loud (refine (HN _ w.heap.size hK1.lt hby).mono ?_; rintro e w2 ⟨gk, gr, rfl, hgk, hk, hb2⟩))
    | (go_at_call 8; go_loud (refine (blocks_any _).mono ?_; rintro e w3 ⟨rfl, hb3⟩))
    | (refine wpList_load_blk rfl 23 (.tmp 4) rfl (w.heap.size + 1) rfl 23 _ _ ((hB0.below hb2 hB0.lt).below hb3 (hB0.below hb2 hB0.lt).lt) Try.underlying23 rfl (infoBk.trans (by rw [List.length_map, HBL.out])) ?_)
    | (go_at_call 9; go_loud (refine (seal_any gk gr 15 (keyL 8 K) b w3 (hk.below hb3) (by omega) (by omega) HBL.out).mono ?_; rintro e w4 ⟨rfl, hb4⟩; rw [← HC.out]))
    | (refine wpList_store_blk rfl 23 (.tmp 10) (.tmp 27) rfl rfl w4.heap.size _ rfl rfl 23 _ (Blk.new_of w4 23 _ (zero16.map B8) (by rfl)) (infoBk.trans (by rw [List.length_map, HCL.out])) (by rw [List.length_map, List.length_map, HCL.out]; rfl) (one8 _) ?_; intro w5 hC hg5))
  have hB2 := hB0.below hb2 hB0.lt
  have hB3 := hB2.below hb3 hB2.lt
  have hB4 := hB3.below hb4 hB3.lt
  have hlB := hB4.lt
  have hB := (hB4.alloc (.cells (zero16.map B8).toArray 23)).grown hg5 (by simp; omega)
  have hk3 := hk.below hb3
  have hk4 := hk3.below hb4
  have hk5 : KeyAt w5 gk gr 15 (keyL 8 K) := ⟨(hk4.key.alloc _).grown hg5 (by have := hk4.key.lt; simp; omega), (hk4.rounds.alloc _).grown hg5 (by have := hk4.rounds.lt; simp; omega), hk4.len⟩
  have hy2 := hby.below hb2 hK1.lt
  have hl2 := Nat.lt_of_lt_of_le hK1.lt hb2.size
  have hy3 := hy2.below hb3 hl2
  have hl3 := Nat.lt_of_lt_of_le hl2 hb3.size
  have hy4 := hy3.below hb4 hl3
  have hl4 := Nat.lt_of_lt_of_le hl3 hb4.size
  have hy5 := (hy4.below ((Below.refl _ _).alloc (Nat.le_refl _) (.cells (zero16.map B8).toArray 23)) hl4).grown hg5 (by simp; omega) (by simp; omega)
  have hl5 := Nat.lt_of_lt_of_le hl4 (show w4.heap.size ≤ w5.heap.size from Nat.le_trans (by simp) hg5.size)
  have hb2' := hbx.trans (hb2.mono hbx.size)
  have hb3' := hb2'.trans (hb3.mono hb2'.size)
  have hb4' := hb3'.trans (hb4.mono hb3'.size)
  have hbw := below_new (hb4'.alloc hb4'.size (.cells (zero16.map B8).toArray 23)) hg5 hb4'.size (by have := hb4'.size; simp; omega)
  clear hB0 hB2 hB3 hB4 hk hk3 hk4 hy2 hy3 hy4 hl2 hl3 hl4 hlB hb2' hb3' hb4' hbx hb2 hb3 hb4 hg5 hby hK1
  have HV := Lib.hid (fun (W : World) (hb : Below w5.heap.size w5 W) => conv_key (hy5.below hb hl5) (4 * 8) 32 HKL.out)
  have HOC := Lib.hid (fun (W : World) (hb : Below w5.heap.size w5 W) => open_any gk gr 15 (keyL 8 K) c W (hk5.below hb) (by omega) (by omega) HCL.out)
  rw [HOO.out] at HOC
  have HOB := Lib.hid (fun (W : World) (hb : Below w5.heap.size w5 W) => open_any gk gr 15 (keyL 8 K) b W (hk5.below hb) (by omega) (by omega) HBL.out)
  rw [← HD.out] at HOB
  have HSD := Lib.hid (fun (W : World) (hb : Below w5.heap.size w5 W) => seal_any gk gr 15 (keyL 8 K) d W (hk5.below hb) (by omega) (by omega) HDL.out)
  rw [HSS.out] at HSD
  generalize w.heap.size + 1 = gb at *
  generalize w4.heap.size = gc at *
  apply wp_region_once (D := [[], [], [1], [], [1, 2, 3], [0, 1, 2, 3, 4], [0, 1, 2, 3, 4, 5], [0, 1, 2, 3, 4, 5, 6], [0, 1, 2, 3, 4, 5, 6], [0, 1, 2, 3, 4, 5, 6, 7, 8], [0, 1, 2, 3, 4, 5, 6], [0, 1, 2, 3, 4, 5, 6, 7, 8, 9, 10], [0, 1, 2, 3, 4, 5, 6, 7, 8, 9, 10, 11], [0, 1, 2, 3, 4, 5, 6, 7, 8, 9, 10, 11, 12], [0, 1, 2, 3, 4, 5, 6, 7, 8, 9, 10, 11, 12, 13], [0, 1, 2, 3, 4, 5, 6, 7, 8, 9, 10, 11, 12, 13], [0, 1, 2, 3, 4, 5, 6, 7, 8, 9, 10, 11, 12, 13], [0, 1, 2, 3, 4, 5, 6, 7, 8, 9, 10, 11, 12, 13, 15, 16], [0, 1, 2, 3, 4, 5, 6, 7, 8, 9, 10, 11, 12, 13, 14, 15, 16, 17], [0, 1, 2, 3, 4, 5, 6, 7, 8, 9, 10, 11, 12, 13], [0, 1, 2, 3, 4, 5, 6, 7, 8, 9, 10, 11, 12, 13, 14, 15, 16, 17, 18, 19], [0, 1, 2, 3, 4, 5, 6, 7, 8, 9, 10, 11, 12, 13, 14, 15, 16, 17, 18, 19, 20], [0, 1, 2, 3, 4, 5, 6, 7, 8, 9, 10, 11, 12, 13, 14, 15, 16, 17, 18, 19, 20, 21]]) (J := [[], [], [1], [], [2, 3], [0, 4], [5], [6], [6], [6, 7, 8], [6], [6, 9, 10], [6, 11], [12], [13], [13], [13], [13, 15, 16], [13, 14, 17], [13], [13, 18, 19], [13, 20], [21]]) (Je := [22]) (Rs := [Is _, Is _, Is _, Is _, Is _, Is _, Is _, Is _, Is _, Is _, Is _, Is _, Is _, Is _, Is _, Is _, Is _, Is _, Is _, Is _, Is _, Is _, Is _])
  · kernel_rfl
  · kernel_rfl
  · kernel_rfl
  · kernel_rfl
  · kernel_rfl
  · kernel_rfl
  · intro u
    simp only [List.map_cons, List.map_nil, fillU, List.setIfInBounds_toArray, List.set_cons_zero, List.set_cons_succ, Nat.zero_add, Nat.reduceAdd]
    exact rfl
  · skip
    refine ⟨fun u W hb hd K hK => ?_, ?_⟩
    · clear hd
      rw [if_pos (by rfl)]
      refine wp_load_mid 23 (.tmp 10) rfl (gc) (0) rfl (c.map B8) _ (rangeAt_blk (hC.below hb hC.lt)) Try.underlying23 rfl (infoBk.trans (by rw [List.length_map, HCL.out])) ?_
      exact hK _ _ _ rfl (Below.refl _ _) IsOut
    refine ⟨fun u W hb hd K hK => ?_, ?_⟩
    · clear hd
      go_simp
      apply hK
      · simp only [Act.put, List.setIfInBounds_toArray, List.set_cons_zero, List.set_cons_succ]
        exact rfl
      · exact Below.refl _ _
      · exact IsOut
    refine ⟨fun u W hb hd K hK => ?_, ?_⟩
    · simp only [Facts, nthR, Is, and_true] at hd
      simp only [hd] at hK ⊢
      clear hd
      have hcv := HV.out W hb
      go_simp
      apply hK
      · simp only [Act.put, List.setIfInBounds_toArray, List.set_cons_zero, List.set_cons_succ]
        exact rfl
      · exact Below.refl _ _
      · exact IsOut
    refine ⟨fun u W hb hd K hK => ?_, ?_⟩
    · clear hd
      rw [if_pos (by rfl)]
      refine wp_load_mid 23 (.tmp 4) rfl (gb) (0) rfl (b.map B8) _ (rangeAt_blk (hB.below hb hB.lt)) Try.underlying23 rfl (infoBk.trans (by rw [List.length_map, HBL.out])) ?_
      exact hK _ _ _ rfl (Below.refl _ _) IsOut
    refine ⟨fun u W hb hd K hK => ?_, ?_⟩
    · simp only [Facts, nthR, Is, and_true] at hd
      simp only [hd] at hK ⊢
      clear hd
      go_simp
      with_reducible refine (HRF.out W).mono ?_
      rintro e wy ⟨rfl, hby⟩
      exact hK _ _ _ rfl hby IsOut
    refine ⟨fun u W hb hd K hK => ?_, ?_⟩
    · simp only [Facts, nthR, Is, and_true] at hd
      simp only [hd] at hK ⊢
      clear hd
      go_simp
      apply hK
      · simp only [Act.put, List.setIfInBounds_toArray, List.set_cons_zero, List.set_cons_succ]
        exact rfl
      · exact Below.refl _ _
      · exact IsOut
    refine ⟨fun u W hb hd K hK => ?_, ?_⟩
    · simp only [Facts, nthR, Is, and_true] at hd
      simp only [hd] at hK ⊢
      clear hd
      go_simp
      apply hK
      · simp only [Act.put, List.setIfInBounds_toArray, List.set_cons_zero, List.set_cons_succ]
        exact rfl
      · exact Below.refl _ _
      · exact IsOut
    refine ⟨fun u W hb hd K hK => ?_, ?_⟩
    · simp only [Facts, nthR, Is, and_true] at hd
      simp only [hd] at hK ⊢
      clear hd
      go_simp
      apply hK
      · simp only [Act.put, List.setIfInBounds_toArray, List.set_cons_zero, List.set_cons_succ]
        exact rfl
      · exact Below.refl _ _
      · exact IsOut
    refine ⟨fun u W hb hd K hK => ?_, ?_⟩
    · simp only [Facts, nthR, Is, and_true] at hd
      simp only [hd] at hK ⊢
      clear hd
      rw [if_pos (by rfl)]
      refine wp_load_mid 23 (.tmp 10) rfl (gc) (0) rfl (c.map B8) _ (rangeAt_blk (hC.below hb hC.lt)) Try.underlying23 rfl (infoBk.trans (by rw [List.length_map, HCL.out])) ?_
      exact hK _ _ _ rfl (Below.refl _ _) IsOut
    refine ⟨fun u W hb hd K hK => ?_, ?_⟩
    · simp only [Facts, nthR, Is, and_true] at hd
      simp only [hd] at hK ⊢
      clear hd
      go_simp
      with_reducible refine (HOC.out W hb).mono ?_
      rintro e wy ⟨rfl, hby⟩
      exact hK _ _ _ rfl hby IsOut
    refine ⟨fun u W hb hd K hK => ?_, ?_⟩
    · simp only [Facts, nthR, Is, and_true] at hd
      simp only [hd] at hK ⊢
      clear hd
      rw [if_pos (by rfl)]
      refine wp_load_mid 23 (.tmp 4) rfl (gb) (0) rfl (b.map B8) _ (rangeAt_blk (hB.below hb hB.lt)) Try.underlying23 rfl (infoBk.trans (by rw [List.length_map, HBL.out])) ?_
      exact hK _ _ _ rfl (Below.refl _ _) IsOut
    refine ⟨fun u W hb hd K hK => ?_, ?_⟩
    · simp only [Facts, nthR, Is, and_true] at hd
      simp only [hd] at hK ⊢
      clear hd
      go_simp
      apply hK
      · simp only [Act.put, List.setIfInBounds_toArray, List.set_cons_zero, List.set_cons_succ]
        exact rfl
      · exact Below.refl _ _
      · exact IsOut
    refine ⟨fun u W hb hd K hK => ?_, ?_⟩
    · simp only [Facts, nthR, Is, and_true] at hd
      simp only [hd] at hK ⊢
      clear hd
      go_simp
      apply hK
      · simp only [Act.put, List.setIfInBounds_toArray, List.set_cons_zero, List.set_cons_succ]
        exact rfl
      · exact Below.refl _ _
      · exact IsOut
    refine ⟨fun u W hb hd K hK => ?_, ?_⟩
    · simp only [Facts, nthR, Is, and_true] at hd
      simp only [hd] at hK ⊢
      clear hd
      go_simp
      apply hK
      · simp only [Act.put, List.setIfInBounds_toArray, List.set_cons_zero, List.set_cons_succ]
        exact rfl
      · exact Below.refl _ _
      · exact IsOut
    refine ⟨fun u W hb hd K hK => ?_, ?_⟩
    · simp only [Facts, nthR, Is, and_true] at hd
      simp only [hd] at hK ⊢
      clear hd
      go_simp
      apply hK
      · simp only [Act.put, List.setIfInBounds_toArray, List.set_cons_zero, List.set_cons_succ]
        exact rfl
      · exact Below.refl _ _
      · exact IsOut
    refine ⟨fun u W hb hd K hK => ?_, ?_⟩
    · simp only [Facts, nthR, Is, and_true] at hd
      simp only [hd] at hK ⊢
      clear hd
      go_simp
      apply hK
      · simp only [Act.put, List.setIfInBounds_toArray, List.set_cons_zero, List.set_cons_succ]
        exact rfl
      · exact Below.refl _ _
      · exact IsOut
    refine ⟨fun u W hb hd K hK => ?_, ?_⟩
    · simp only [Facts, nthR, Is, and_true] at hd
      simp only [hd] at hK ⊢
      clear hd
      rw [if_pos (by rfl)]
      refine wp_load_mid 23 (.tmp 4) rfl (gb) (0) rfl (b.map B8) _ (rangeAt_blk (hB.below hb hB.lt)) Try.underlying23 rfl (infoBk.trans (by rw [List.length_map, HBL.out])) ?_
      exact hK _ _ _ rfl (Below.refl _ _) IsOut
    refine ⟨fun u W hb hd K hK => ?_, ?_⟩
    · simp only [Facts, nthR, Is, and_true] at hd
      simp only [hd] at hK ⊢
      clear hd
      go_simp
      with_reducible refine (HOB.out W hb).mono ?_
      rintro e wy ⟨rfl, hby⟩
      exact hK _ _ _ rfl hby IsOut
    refine ⟨fun u W hb hd K hK => ?_, ?_⟩
    · simp only [Facts, nthR, Is, and_true] at hd
      simp only [hd] at hK ⊢
      clear hd
      go_simp
      with_reducible refine (HSD.out W hb).mono ?_
      rintro e wy ⟨rfl, hby⟩
      exact hK _ _ _ rfl hby IsOut
    refine ⟨fun u W hb hd K hK => ?_, ?_⟩
    · simp only [Facts, nthR, Is, and_true] at hd
      simp only [hd] at hK ⊢
      clear hd
      rw [if_pos (by rfl)]
      refine wp_load_mid 23 (.tmp 4) rfl (gb) (0) rfl (b.map B8) _ (rangeAt_blk (hB.below hb hB.lt)) Try.underlying23 rfl (infoBk.trans (by rw [List.length_map, HBL.out])) ?_
      exact hK _ _ _ rfl (Below.refl _ _) IsOut
    refine ⟨fun u W hb hd K hK => ?_, ?_⟩
    · simp only [Facts, nthR, Is, and_true] at hd
      simp only [hd] at hK ⊢
      clear hd
      go_simp
      apply hK
      · simp only [Act.put, List.setIfInBounds_toArray, List.set_cons_zero, List.set_cons_succ]
        exact rfl
      · exact Below.refl _ _
      · exact IsOut
    refine ⟨fun u W hb hd K hK => ?_, ?_⟩
    · simp only [Facts, nthR, Is, and_true] at hd
      simp only [hd] at hK ⊢
      clear hd
      go_simp
      apply hK
      · simp only [Act.put, List.setIfInBounds_toArray, List.set_cons_zero, List.set_cons_succ]
        exact rfl
      · exact Below.refl _ _
      · exact IsOut
    refine ⟨fun u W hb hd K hK => ?_, ?_⟩
    · simp only [Facts, nthR, Is, and_true] at hd
      simp only [hd] at hK ⊢
      clear hd
      go_simp
      apply hK
      · simp only [Act.put, List.setIfInBounds_toArray, List.set_cons_zero, List.set_cons_succ]
        exact rfl
      · exact Below.refl _ _
      · exact IsOut
    exact trivial
  · exact (.is (.is (.is (.is (.is (.is (.is (.is (.is (.is (.is (.is (.is (.is (.is (.is (.is (.is (.is (.is (.is (.is (.is .nil)))))))))))))))))))))))
  · intro u W hb hd
    simp only [Facts, nthR, Is, and_true] at hd
    simp only [hd]
    have hbF := hbw.trans (hb.mono hbw.size)
    go_wp2
    go_ret
    exact ⟨by simp, hbF⟩
theorem seals_any (key b : List UInt8) (sh : Bool) (w : World) (l0 : key.length = 32) (l1 : b.length = 16) :
    Calls Try.prog 3 #[.agg (key.map B8).toArray, BV b, .bool sh] w fun e w' => e = .returned (.bool true) ∧ Below w.heap.size w w' := by
  cases sh
  · exact seals_8 key b w l0 l1
  · exact seals_4 key b w l0 l1
end Go.Proofs.Ytpieepaggfiajaa
