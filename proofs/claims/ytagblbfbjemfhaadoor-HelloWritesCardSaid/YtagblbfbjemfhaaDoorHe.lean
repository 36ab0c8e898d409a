/-
  Package hello's parts of a body: shares, offered, serverShare, acceptedTicket.
-/
import Derived.Test.YtagblbfbjemfhaaDoorHk
namespace Go.Proofs.YtagblbfbjemfhaaDoor
open Go.RowKit
open HelloMath (numB numB_length vecB vecB_length Msg sharesB offeredB)

set_option maxRecDepth 100000 in
set_option maxHeartbeats 400000 in
theorem shares_e (m : Msg) (g : Nat) (w : World) (hM : MAt w g m) (HL : Hid (m.sha.length ≤ 3000)) : Calls Tryd.prog 58 #[.pointer (some ⟨g, 0, none⟩)] w fun e w' => ∃ r, e = .returned r ∧ SlV w' r (sharesB m) ∧ Below w.heap.size w w' := by
  go_enter Tryd.func58, Tryd.ntmps58
  have hb0 : Below w.heap.size w w := Below.refl _ _
  obtain ⟨v1, hc1, hv1⟩ := hM.sha
  obtain ⟨A1, c1, rfl, hi1⟩ := hv1
  by_cases h0 : m.sha = []
  · have hl : m.sha.length = 0 := by rw [h0]; rfl
    rw [hl] at hc1
    clear hi1
    go_wp2
    refine bodyPost_ret (results_tmp Tryd.results58 _ _ _) rfl ?_
    exact ⟨_, rfl, ⟨none, 0, by rw [sharesB, if_pos h0]; rfl, by rw [sharesB, if_pos h0]; exact in_nil _ 0 (by decide) _⟩, hb0⟩
  · obtain ⟨q, hq⟩ : ∃ q, m.sha.length = q := ⟨_, rfl⟩
    rw [hq] at hc1
    have hq0 : ((q : Int) == 0) = false := by rw [beq_eq_false_iff_ne, ← hq]; intro e; exact h0 (List.eq_nil_of_length_eq_zero (by omega))
    replace hq := Lib.hid hq
    clear hi1
    go_upto_region 3 with (fail)
    apply wp_plain_onceK (m := 10) (J := [[], [0], [], [2], [3], [4], [5], [6], [1, 7], [8]]) (Je := [9]) (Rs := [fun v V => FrV w.heap.size V v ([0, 23]), fun v V => FrV w.heap.size V v ([0, 23]), Is _, Is _, Is _, fun v V => SlV V v (m.sha), fun v V => RowV V v ([m.sha]), fun v V => SlV V v (vecB 2 ([m.sha]).flatten), fun v V => RowV V v ([[0, 23], vecB 2 ([m.sha]).flatten]), fun v V => SlV V v (([[0, 23], vecB 2 ([m.sha]).flatten]).flatten)])
    · kernel_rfl
    · kernel_rfl
    · intro u
      simp only [List.take_succ_cons, List.take_zero, List.map_cons, List.map_nil, fillU, List.setIfInBounds_toArray, List.set_cons_zero, List.set_cons_succ, Nat.reduceAdd]
      exact rfl
    · simp only [List.take_succ_cons, List.take_zero]
      refine ⟨fun u W hb hd K hK => ?_, ?_⟩
      · clear hd
        rw [if_pos (by rfl)]
        refine wp_bytescK [0, 23] _ hb.size rfl rfl (by decide) (by kernel_rfl) (fun v w' h1 h2 => ?_)
        exact hK _ _ _ rfl (CB.of h2 hb.size) h1
      refine ⟨fun u W hb hd K hK => ?_, ?_⟩
      · simp only [Facts, nthR, and_true] at hd
        have h0 := hd
        clear hd
        rw [if_pos (by rfl)]
        refine wp_constK rfl rfl h0 (fun v w' h1 h2 => ?_)
        exact hK _ _ _ rfl h2 h1
      refine ⟨fun u W hb hd K hK => ?_, ?_⟩
      · clear hd
        go_simp
        apply hK
        · simp only [Act.put, zSa, zSz, zSs]
          exact rfl
        · exact CB.refl _ _
        · exact IsOut
      refine ⟨fun u W hb hd K hK => ?_, ?_⟩
      · simp only [Facts, nthR, Is, and_true] at hd
        have h2 := hd
        clear hd
        simp only [h2] at hK ⊢
        go_simp
        apply hK
        · simp only [Act.put, zSa, zSz, zSs]
          exact rfl
        · exact CB.refl _ _
        · exact IsOut
      refine ⟨fun u W hb hd K hK => ?_, ?_⟩
      · simp only [Facts, nthR, Is, and_true] at hd
        have h3 := hd
        clear hd
        simp only [h3] at hK ⊢
        go_simp
        apply hK
        · simp only [Act.put, zSa, zSz, zSs]
          exact rfl
        · exact CB.refl _ _
        · exact IsOut
      refine ⟨fun u W hb hd K hK => ?_, ?_⟩
      · simp only [Facts, nthR, Is, and_true] at hd
        have h4 := hd
        clear hd
        simp only [h4] at hK ⊢
        obtain ⟨v, hc, hv⟩ := (hM.below hb).sha
        go_simp
        exact hK _ _ _ rfl (CB.refl _ _) hv
      refine ⟨fun u W hb hd K hK => ?_, ?_⟩
      · simp only [Facts, nthR, and_true] at hd
        have h5 := hd
        clear hd
        obtain ⟨A0, c0, e0, f0⟩ := h5
        simp only [e0] at hK ⊢
        rw [if_pos (by rfl)]
        refine wp_rowsc [.slice A0 (m.sha).length c0] [m.sha] rfl rfl (by decide) [(0, .slice A0 (m.sha).length c0)] (by rw [Array.toList_map]; rfl) (rows1 _ _ _) ⟨⟨_, _, rfl, f0⟩, trivial⟩ (fun v w' h1 h2 => ?_)
        exact hK _ _ _ rfl (CB.of h2 hb.size) h1
      refine ⟨fun u W hb hd K hK => ?_, ?_⟩
      · simp only [Facts, nthR, and_true] at hd
        have h6 := hd
        clear hd
        go_simp
        refine (counted_e 2 [m.sha] _ _ h6 (by decide) (by simp only [List.flatten_cons, List.flatten_nil, List.append_nil]; have hsz := HL.out; omega)).mono ?_
        rintro e wy ⟨r, rfl, hB, hby⟩
        exact hK _ _ _ rfl (CB.of hby hb.size) hB.sl
      refine ⟨fun u W hb hd K hK => ?_, ?_⟩
      · simp only [Facts, nthR, and_true] at hd
        obtain ⟨h1, h7⟩ := hd
        obtain ⟨A0, c0, e0, f0⟩ := h1.sl
        obtain ⟨A1, c1, e1, f1⟩ := h7
        simp only [e0, e1] at hK ⊢
        rw [if_pos (by rfl)]
        refine wp_rowsc [.slice A0 ([0, 23]).length c0, .slice A1 (vecB 2 ([m.sha]).flatten).length c1] [[0, 23], vecB 2 ([m.sha]).flatten] rfl rfl (by decide) [(0, .slice A0 ([0, 23]).length c0), (1, .slice A1 (vecB 2 ([m.sha]).flatten).length c1)] (by rw [Array.toList_map]; rfl) (rows2 _ _ _ _ _ _) ⟨⟨_, _, rfl, f0⟩, ⟨_, _, rfl, f1⟩, trivial⟩ (fun v w' h1 h2 => ?_)
        exact hK _ _ _ rfl (CB.of h2 hb.size) h1
      refine ⟨fun u W hb hd K hK => ?_, ?_⟩
      · simp only [Facts, nthR, and_true] at hd
        have h8 := hd
        clear hd
        go_simp
        refine (concat_e [[0, 23], vecB 2 ([m.sha]).flatten] _ _ h8 (by simp only [List.flatten_cons, List.flatten_nil, List.length_append, List.length_cons, List.length_nil, vecB_length, List.append_nil]; have hsz := HL.out; omega)).mono ?_
        rintro e wy ⟨r, rfl, hB, hby⟩
        exact hK _ _ _ rfl (CB.of hby hb.size) hB.sl
      exact trivial
    · exact (.cons (fun _ _ _ h hb => h.cb hb) (.cons (fun _ _ _ h hb => h.cb hb) (.is (.is (.is (.cons (fun _ _ _ h hb => h.cb hb) (.cons (fun _ _ _ h hb => h.cb hb) (.cons (fun _ _ _ h hb => h.cb hb) (.cons (fun _ _ _ h hb => h.cb hb) (.cons (fun _ _ _ h hb => h.cb hb) .nil))))))))))
    intro u w1 hb hd
    simp only [List.drop_succ_cons, List.drop_zero]
    simp only [Facts, nthR, and_true] at hd
    have h9 := hd
    clear hd
    obtain ⟨vx1, e9⟩ : ∃ v, u 9 = v := ⟨_, rfl⟩
    rw [e9] at h9
    simp only [e9]
    clear e9
    have fx1 := h9
    clear h9
    replace hM := hM.below hb
    replace hb0 := hb0.trans (hb.mono hb0.size)
    clear hb
    go_wp2
    refine bodyPost_ret (results_tmp Tryd.results58 _ _ _) rfl ?_
    exact ⟨_, rfl, by rw [sharesB, if_neg h0]; simpa using fx1, hb0⟩
set_option maxRecDepth 100000 in
set_option maxHeartbeats 400000 in
theorem offered_1 (m : Msg) (g : Nat) (w : World) (hM : MAt w g m) (HL : Hid (m.sha.length ≤ 3000 ∧ m.tic.length ≤ 3000 ∧ m.mark.length = 32)) (hp : m.psk = true) (Hage : Hid (0 ≤ m.age ∧ m.age ≤ 4294967295)) : Calls Tryd.prog 59 #[.pointer (some ⟨g, 0, none⟩)] w fun e w' => ∃ r, e = .returned r ∧ SlV w' r (offeredB m) ∧ Below w.heap.size w w' := by
  go_enter Tryd.func59, Tryd.ntmps59
  have hb0 : Below w.heap.size w w := Below.refl _ _
  have hc1 := hM.psk
  rw [hp] at hc1
  go_upto_region 3 with (fail)
  apply wp_region_once_tailK (m := 13) (Z := []) (D := [[], [0], [0, 1], [0, 1, 2], [0, 1, 2, 3], [0, 1, 2, 3, 4], [], [6], [6, 7], [6, 7, 8], [0, 1, 2, 3, 4, 5, 6, 7, 8, 9], [0, 1, 2, 3, 4, 5, 6, 7, 8, 9, 10], [0, 1, 2, 3, 4, 5, 6, 7, 8, 9, 10, 11], [0, 1, 2, 3, 4, 5, 6, 7, 8, 9, 10, 11, 12]]) (J := [[], [0], [1], [2], [3], [4], [], [6], [7], [8], [9], [5, 10], [11]]) (Je := [12]) (Rs := [Is _, Is _, Is _, fun v V => SlV V v (m.tic), fun v V => RowV V v ([m.tic]), fun v V => SlV V v (vecB 2 ([m.tic]).flatten), Is _, Is _, Is _, Is _, fun v V => SlV V v (numB 4 m.age.toNat), fun v V => RowV V v ([vecB 2 ([m.tic]).flatten, numB 4 m.age.toNat]), fun v V => SlV V v (vecB 2 ([vecB 2 ([m.tic]).flatten, numB 4 m.age.toNat]).flatten)])
  · kernel_rfl
  · kernel_rfl
  · kernel_rfl
  · kernel_rfl
  · kernel_rfl
  · kernel_rfl
  · kernel_rfl
  · exact fun h => absurd rfl h
  · intro u
    simp only [List.take_succ_cons, List.take_zero, List.map_cons, List.map_nil, fillU, List.setIfInBounds_toArray, List.set_cons_zero, List.set_cons_succ, Nat.reduceAdd]
    exact rfl
  · simp only [List.take_succ_cons, List.take_zero]
    refine ⟨fun u W hb hd K hK => ?_, ?_⟩
    · clear hd
      go_simp
      apply hK
      · simp only [Act.put, zSa, zSz, zSs]
        exact rfl
      · exact CB.refl _ _
      · exact IsOut
    refine ⟨fun u W hb hd K hK => ?_, ?_⟩
    · simp only [Facts, nthR, Is, and_true] at hd
      have h0 := hd
      clear hd
      simp only [h0] at hK ⊢
      go_simp
      apply hK
      · simp only [Act.put, zSa, zSz, zSs]
        exact rfl
      · exact CB.refl _ _
      · exact IsOut
    refine ⟨fun u W hb hd K hK => ?_, ?_⟩
    · simp only [Facts, nthR, Is, and_true] at hd
      have h1 := hd
      clear hd
      simp only [h1] at hK ⊢
      go_simp
      apply hK
      · simp only [Act.put, zSa, zSz, zSs]
        exact rfl
      · exact CB.refl _ _
      · exact IsOut
    refine ⟨fun u W hb hd K hK => ?_, ?_⟩
    · simp only [Facts, nthR, Is, and_true] at hd
      have h2 := hd
      clear hd
      simp only [h2] at hK ⊢
      obtain ⟨v, hc, hv⟩ := (hM.below hb).tic
      go_simp
      exact hK _ _ _ rfl (CB.refl _ _) hv
    refine ⟨fun u W hb hd K hK => ?_, ?_⟩
    · simp only [Facts, nthR, and_true] at hd
      have h3 := hd
      clear hd
      obtain ⟨A0, c0, e0, f0⟩ := h3
      simp only [e0] at hK ⊢
      rw [if_pos (by rfl)]
      refine wp_rowsc [.slice A0 (m.tic).length c0] [m.tic] rfl rfl (by decide) [(0, .slice A0 (m.tic).length c0)] (by rw [Array.toList_map]; rfl) (rows1 _ _ _) ⟨⟨_, _, rfl, f0⟩, trivial⟩ (fun v w' h1 h2 => ?_)
      exact hK _ _ _ rfl (CB.of h2 hb.size) h1
    refine ⟨fun u W hb hd K hK => ?_, ?_⟩
    · simp only [Facts, nthR, and_true] at hd
      have h4 := hd
      clear hd
      go_simp
      refine (counted_e 2 [m.tic] _ _ h4 (by decide) (by simp only [List.flatten_cons, List.flatten_nil, List.append_nil]; have hsz := HL.out; omega)).mono ?_
      rintro e wy ⟨r, rfl, hB, hby⟩
      exact hK _ _ _ rfl (CB.of hby hb.size) hB.sl
    refine ⟨fun u W hb hd K hK => ?_, ?_⟩
    · clear hd
      go_simp
      apply hK
      · simp only [Act.put, zSa, zSz, zSs]
        exact rfl
      · exact CB.refl _ _
      · exact IsOut
    refine ⟨fun u W hb hd K hK => ?_, ?_⟩
    · simp only [Facts, nthR, Is, and_true] at hd
      have h6 := hd
      clear hd
      simp only [h6] at hK ⊢
      go_simp
      apply hK
      · simp only [Act.put, zSa, zSz, zSs]
        exact rfl
      · exact CB.refl _ _
      · exact IsOut
    refine ⟨fun u W hb hd K hK => ?_, ?_⟩
    · simp only [Facts, nthR, Is, and_true] at hd
      have h7 := hd
      clear hd
      simp only [h7] at hK ⊢
      go_simp
      apply hK
      · simp only [Act.put, zSa, zSz, zSs]
        exact rfl
      · exact CB.refl _ _
      · exact IsOut
    refine ⟨fun u W hb hd K hK => ?_, ?_⟩
    · simp only [Facts, nthR, Is, and_true] at hd
      have h8 := hd
      clear hd
      simp only [h8] at hK ⊢
      have hc := (hM.below hb).age
      go_simp
      apply hK
      · simp only [Act.put, zSa, zSz, zSs]
        exact rfl
      · exact CB.refl _ _
      · exact IsOut
    refine ⟨fun u W hb hd K hK => ?_, ?_⟩
    · simp only [Facts, nthR, Is, and_true] at hd
      have h9 := hd
      clear hd
      simp only [h9] at hK ⊢
      go_simp
      refine (number_i 4 m.age _ (by decide) Hage.out.1 Hage.out.2).mono ?_
      rintro e wy ⟨r, rfl, hB, hby⟩
      exact hK _ _ _ rfl (CB.of hby hb.size) hB.sl
    refine ⟨fun u W hb hd K hK => ?_, ?_⟩
    · simp only [Facts, nthR, and_true] at hd
      obtain ⟨h5, h10⟩ := hd
      obtain ⟨A0, c0, e0, f0⟩ := h5
      obtain ⟨A1, c1, e1, f1⟩ := h10
      simp only [e0, e1] at hK ⊢
      rw [if_pos (by rfl)]
      refine wp_rowsc [.slice A0 (vecB 2 ([m.tic]).flatten).length c0, .slice A1 (numB 4 m.age.toNat).length c1] [vecB 2 ([m.tic]).flatten, numB 4 m.age.toNat] rfl rfl (by decide) [(0, .slice A0 (vecB 2 ([m.tic]).flatten).length c0), (1, .slice A1 (numB 4 m.age.toNat).length c1)] (by rw [Array.toList_map]; rfl) (rows2 _ _ _ _ _ _) ⟨⟨_, _, rfl, f0⟩, ⟨_, _, rfl, f1⟩, trivial⟩ (fun v w' h1 h2 => ?_)
      exact hK _ _ _ rfl (CB.of h2 hb.size) h1
    refine ⟨fun u W hb hd K hK => ?_, ?_⟩
    · simp only [Facts, nthR, and_true] at hd
      have h11 := hd
      clear hd
      go_simp
      refine (counted_e 2 [vecB 2 ([m.tic]).flatten, numB 4 m.age.toNat] _ _ h11 (by decide) (by simp only [List.flatten_cons, List.flatten_nil, List.length_append, vecB_length, numB_length, List.append_nil]; have hsz := HL.out; omega)).mono ?_
      rintro e wy ⟨r, rfl, hB, hby⟩
      exact hK _ _ _ rfl (CB.of hby hb.size) hB.sl
    exact trivial
  · skip
    exact trivial
  · exact (.is (.is (.is (.cons (fun _ _ _ h hb => h.cb hb) (.cons (fun _ _ _ h hb => h.cb hb) (.cons (fun _ _ _ h hb => h.cb hb) (.is (.is (.is (.is (.cons (fun _ _ _ h hb => h.cb hb) (.cons (fun _ _ _ h hb => h.cb hb) (.cons (fun _ _ _ h hb => h.cb hb) .nil)))))))))))))
  intro u w1 hb hd
  simp only [List.drop_succ_cons, List.drop_zero]
  simp only [Facts, nthR, and_true] at hd
  have h12 := hd
  clear hd
  obtain ⟨vx1, e12⟩ : ∃ v, u 12 = v := ⟨_, rfl⟩
  rw [e12] at h12
  simp only [e12]
  clear e12
  have fx1 := h12
  clear h12
  replace hM := hM.below hb
  replace hb0 := hb0.trans (hb.mono hb0.size)
  clear hb
  go_upto_region 4 with (fail)
  apply wp_plain_onceK (m := 13) (J := [[], [0], [], [], [3], [], [5], [6], [7], [2, 4, 8], [9], [1, 10], [11]]) (Je := [12]) (Rs := [fun v V => FrV w1.heap.size V v ([0, 45, 0, 2, 1, 1, 0, 41]), fun v V => FrV w1.heap.size V v ([0, 45, 0, 2, 1, 1, 0, 41]), Is _, fun v V => FrV w1.heap.size V v ([0, 33, 32]), fun v V => FrV w1.heap.size V v ([0, 33, 32]), Is _, Is _, Is _, fun v V => SlV V v (m.mark), fun v V => RowV V v ([vecB 2 ([vecB 2 ([m.tic]).flatten, numB 4 m.age.toNat]).flatten, [0, 33, 32], m.mark]), fun v V => SlV V v (vecB 2 ([vecB 2 ([vecB 2 ([m.tic]).flatten, numB 4 m.age.toNat]).flatten, [0, 33, 32], m.mark]).flatten), fun v V => RowV V v ([[0, 45, 0, 2, 1, 1, 0, 41], vecB 2 ([vecB 2 ([vecB 2 ([m.tic]).flatten, numB 4 m.age.toNat]).flatten, [0, 33, 32], m.mark]).flatten]), fun v V => SlV V v (([[0, 45, 0, 2, 1, 1, 0, 41], vecB 2 ([vecB 2 ([vecB 2 ([m.tic]).flatten, numB 4 m.age.toNat]).flatten, [0, 33, 32], m.mark]).flatten]).flatten)])
  · kernel_rfl
  · kernel_rfl
  · intro u
    simp only [List.take_succ_cons, List.take_zero, List.map_cons, List.map_nil, fillU, List.setIfInBounds_toArray, List.set_cons_zero, List.set_cons_succ, Nat.reduceAdd]
    exact rfl
  · simp only [List.take_succ_cons, List.take_zero]
    refine ⟨fun u W hb hd K hK => ?_, ?_⟩
    · clear hd
      rw [if_pos (by rfl)]
      refine wp_bytescK [0, 45, 0, 2, 1, 1, 0, 41] _ hb.size rfl rfl (by decide) (by kernel_rfl) (fun v w' h1 h2 => ?_)
      exact hK _ _ _ rfl (CB.of h2 hb.size) h1
    refine ⟨fun u W hb hd K hK => ?_, ?_⟩
    · simp only [Facts, nthR, and_true] at hd
      have h0 := hd
      clear hd
      rw [if_pos (by rfl)]
      refine wp_constK rfl rfl h0 (fun v w' h1 h2 => ?_)
      exact hK _ _ _ rfl h2 h1
    refine ⟨fun u W hb hd K hK => ?_, ?_⟩
    · clear hd
      go_simp
      apply hK
      · simp only [Act.put, zSa, zSz, zSs]
        exact rfl
      · exact CB.refl _ _
      · exact IsOut
    refine ⟨fun u W hb hd K hK => ?_, ?_⟩
    · clear hd
      rw [if_pos (by rfl)]
      refine wp_bytescK [0, 33, 32] _ hb.size rfl rfl (by decide) (by kernel_rfl) (fun v w' h1 h2 => ?_)
      exact hK _ _ _ rfl (CB.of h2 hb.size) h1
    refine ⟨fun u W hb hd K hK => ?_, ?_⟩
    · simp only [Facts, nthR, and_true] at hd
      have h3 := hd
      clear hd
      rw [if_pos (by rfl)]
      refine wp_constK rfl rfl h3 (fun v w' h1 h2 => ?_)
      exact hK _ _ _ rfl h2 h1
    refine ⟨fun u W hb hd K hK => ?_, ?_⟩
    · clear hd
      go_simp
      apply hK
      · simp only [Act.put, zSa, zSz, zSs]
        exact rfl
      · exact CB.refl _ _
      · exact IsOut
    refine ⟨fun u W hb hd K hK => ?_, ?_⟩
    · simp only [Facts, nthR, Is, and_true] at hd
      have h5 := hd
      clear hd
      simp only [h5] at hK ⊢
      go_simp
      apply hK
      · simp only [Act.put, zSa, zSz, zSs]
        exact rfl
      · exact CB.refl _ _
      · exact IsOut
    refine ⟨fun u W hb hd K hK => ?_, ?_⟩
    · simp only [Facts, nthR, Is, and_true] at hd
      have h6 := hd
      clear hd
      simp only [h6] at hK ⊢
      go_simp
      apply hK
      · simp only [Act.put, zSa, zSz, zSs]
        exact rfl
      · exact CB.refl _ _
      · exact IsOut
    refine ⟨fun u W hb hd K hK => ?_, ?_⟩
    · simp only [Facts, nthR, Is, and_true] at hd
      have h7 := hd
      clear hd
      simp only [h7] at hK ⊢
      rw [if_pos (by rfl)]
      refine wp_rowOf rfl Tryd.underlying22 (fun w => size8 w) rfl ?_
      exact hK _ _ _ rfl (CB.refl _ _) (hM.below hb).markV
    refine ⟨fun u W hb hd K hK => ?_, ?_⟩
    · simp only [Facts, nthR, Is, and_true] at hd
      obtain ⟨h2, h4, h8⟩ := hd
      simp only [h2] at hK ⊢
      obtain ⟨A0, c0, e0, f0⟩ := (fx1.below hb)
      obtain ⟨A1, c1, e1, f1⟩ := h4.sl
      obtain ⟨A2, c2, e2, f2⟩ := h8
      simp only [e0, e1, e2] at hK ⊢
      rw [if_pos (by rfl)]
      refine wp_rowsc [.slice A0 (vecB 2 ([vecB 2 ([m.tic]).flatten, numB 4 m.age.toNat]).flatten).length c0, .slice A1 ([0, 33, 32]).length c1, .slice A2 (m.mark).length c2] [vecB 2 ([vecB 2 ([m.tic]).flatten, numB 4 m.age.toNat]).flatten, [0, 33, 32], m.mark] rfl rfl (by decide) [(0, .slice A0 (vecB 2 ([vecB 2 ([m.tic]).flatten, numB 4 m.age.toNat]).flatten).length c0), (1, .slice A1 ([0, 33, 32]).length c1), (2, .slice A2 (m.mark).length c2)] (by rw [Array.toList_map]; rfl) (rows3 _ _ _ _ _ _ _ _ _) ⟨⟨_, _, rfl, f0⟩, ⟨_, _, rfl, f1⟩, ⟨_, _, rfl, f2⟩, trivial⟩ (fun v w' h1 h2 => ?_)
      exact hK _ _ _ rfl (CB.of h2 hb.size) h1
    refine ⟨fun u W hb hd K hK => ?_, ?_⟩
    · simp only [Facts, nthR, and_true] at hd
      have h9 := hd
      clear hd
      go_simp
      refine (counted_e 2 [vecB 2 ([vecB 2 ([m.tic]).flatten, numB 4 m.age.toNat]).flatten, [0, 33, 32], m.mark] _ _ h9 (by decide) (by simp only [List.flatten_cons, List.flatten_nil, List.length_append, List.length_cons, List.length_nil, vecB_length, numB_length, List.append_nil]; have hsz := HL.out; omega)).mono ?_
      rintro e wy ⟨r, rfl, hB, hby⟩
      exact hK _ _ _ rfl (CB.of hby hb.size) hB.sl
    refine ⟨fun u W hb hd K hK => ?_, ?_⟩
    · simp only [Facts, nthR, and_true] at hd
      obtain ⟨h1, h10⟩ := hd
      obtain ⟨A0, c0, e0, f0⟩ := h1.sl
      obtain ⟨A1, c1, e1, f1⟩ := h10
      simp only [e0, e1] at hK ⊢
      rw [if_pos (by rfl)]
      refine wp_rowsc [.slice A0 ([0, 45, 0, 2, 1, 1, 0, 41]).length c0, .slice A1 (vecB 2 ([vecB 2 ([vecB 2 ([m.tic]).flatten, numB 4 m.age.toNat]).flatten, [0, 33, 32], m.mark]).flatten).length c1] [[0, 45, 0, 2, 1, 1, 0, 41], vecB 2 ([vecB 2 ([vecB 2 ([m.tic]).flatten, numB 4 m.age.toNat]).flatten, [0, 33, 32], m.mark]).flatten] rfl rfl (by decide) [(0, .slice A0 ([0, 45, 0, 2, 1, 1, 0, 41]).length c0), (1, .slice A1 (vecB 2 ([vecB 2 ([vecB 2 ([m.tic]).flatten, numB 4 m.age.toNat]).flatten, [0, 33, 32], m.mark]).flatten).length c1)] (by rw [Array.toList_map]; rfl) (rows2 _ _ _ _ _ _) ⟨⟨_, _, rfl, f0⟩, ⟨_, _, rfl, f1⟩, trivial⟩ (fun v w' h1 h2 => ?_)
      exact hK _ _ _ rfl (CB.of h2 hb.size) h1
    refine ⟨fun u W hb hd K hK => ?_, ?_⟩
    · simp only [Facts, nthR, and_true] at hd
      have h11 := hd
      clear hd
      go_simp
      refine (concat_e [[0, 45, 0, 2, 1, 1, 0, 41], vecB 2 ([vecB 2 ([vecB 2 ([m.tic]).flatten, numB 4 m.age.toNat]).flatten, [0, 33, 32], m.mark]).flatten] _ _ h11 (by simp only [List.flatten_cons, List.flatten_nil, List.length_append, List.length_cons, List.length_nil, vecB_length, numB_length, List.append_nil]; have hsz := HL.out; omega)).mono ?_
      rintro e wy ⟨r, rfl, hB, hby⟩
      exact hK _ _ _ rfl (CB.of hby hb.size) hB.sl
    exact trivial
  · exact (.cons (fun _ _ _ h hb => h.cb hb) (.cons (fun _ _ _ h hb => h.cb hb) (.is (.cons (fun _ _ _ h hb => h.cb hb) (.cons (fun _ _ _ h hb => h.cb hb) (.is (.is (.is (.cons (fun _ _ _ h hb => h.cb hb) (.cons (fun _ _ _ h hb => h.cb hb) (.cons (fun _ _ _ h hb => h.cb hb) (.cons (fun _ _ _ h hb => h.cb hb) (.cons (fun _ _ _ h hb => h.cb hb) .nil)))))))))))))
  intro u w2 hb hd
  simp only [List.drop_succ_cons, List.drop_zero]
  simp only [Facts, nthR, and_true] at hd
  have h12 := hd
  clear hd
  obtain ⟨vx2, e12⟩ : ∃ v, u 12 = v := ⟨_, rfl⟩
  rw [e12] at h12
  simp only [e12]
  clear e12
  have fx2 := h12
  clear h12
  replace hM := hM.below hb
  replace fx1 := fx1.below hb
  replace hb0 := hb0.trans (hb.mono hb0.size)
  clear hb
  go_wp2
  refine bodyPost_ret (results_tmp Tryd.results59 _ _ _) rfl ?_
  exact ⟨_, rfl, by rw [offeredB, if_pos hp]; simpa using fx2, hb0⟩
set_option maxRecDepth 100000 in
set_option maxHeartbeats 400000 in
theorem offered_0 (m : Msg) (g : Nat) (w : World) (hM : MAt w g m) (hp : m.psk = false) : Calls Tryd.prog 59 #[.pointer (some ⟨g, 0, none⟩)] w fun e w' => ∃ r, e = .returned r ∧ SlV w' r (offeredB m) ∧ Below w.heap.size w w' := by
  have hc1 := hM.psk
  rw [hp] at hc1
  go_enter Tryd.func59, Tryd.ntmps59
  go_wp2
  refine bodyPost_ret (results_tmp Tryd.results59 _ _ _) rfl ?_
  exact ⟨_, rfl, ⟨none, 0, by rw [offeredB, hp]; rfl, by rw [offeredB, hp]; exact in_nil _ 0 (by decide) _⟩, Below.refl _ _⟩
end Go.Proofs.YtagblbfbjemfhaaDoor
