/-
  Package hello's body: of a message in form, kind by kind.
-/
import Derived.Test.YtagblbfbjemfhaaDoorHf
namespace Go.Proofs.YtagblbfbjemfhaaDoor
open Go.RowKit
open HelloMath (numB numB_length vecB vecB_length Msg special zero32 chainB formM bodyM sharesB offeredB kinds form_kind okM okF fitM sized wide some8 clientB serverB ticketB abil)

/-- how much a message in form may hold -/
theorem form_sz {m : Msg} (h : formM m = true) : m.ses.length ≤ 32 ∧ m.sha.length ≤ 65 ∧ m.tic.length ≤ 1000 ∧ m.non.length ≤ 8 ∧ m.sig.length ≤ 100 ∧ m.certs.length ≤ 5 ∧ ∀ c ∈ m.certs, c.length ≤ 2048 := by
  have hk := kinds (form_kind h)
  obtain ⟨k, R, M, S, H, T, N, G, C, li, ag, ps, re⟩ := m
  dsimp only at hk
  rcases hk with e | e | e | e | e | e | e | e <;> subst e <;> simp [formM, okM, okF, fitM, sized, wide, some8] at h <;> (try dsimp only) <;> refine ⟨?_, ?_, ?_, ?_, ?_, ?_, ?_⟩
  all_goals (cases ps <;> cases re <;> simp_all <;> (try omega))
  · rcases h.2.2 with e | e <;> simp [e]
  · rcases h.2.1.2 with e | e <;> simp [e]
theorem form_age {m : Msg} (h : formM m = true) : (m.kind = 1 → m.psk = true → 0 ≤ m.age ∧ m.age ≤ 4294967295) ∧ (m.kind = 4 → (0 ≤ m.life ∧ m.life ≤ 4294967295) ∧ 0 ≤ m.age ∧ m.age ≤ 4294967295) := by
  obtain ⟨k, R, M, S, H, T, N, G, C, li, ag, ps, re⟩ := m
  refine ⟨fun e e2 => ?_, fun e => ?_⟩
  · dsimp only at e e2
    subst e e2
    simp [formM, okM, okF, fitM, sized, wide, some8] at h
    exact h.2.2.2
  · dsimp only at e
    subst e
    simp [formM, okM, okF, fitM, sized, wide, some8] at h
    exact h.2.1.1
theorem shares_le (m : Msg) : (sharesB m).length ≤ 4 + m.sha.length := by
  unfold sharesB
  split
  · simp
  · simp [vecB_length]; omega
theorem offered_le (m : Msg) : (offeredB m).length ≤ 100 + m.tic.length + m.mark.length := by
  unfold offeredB
  split
  · simp [vecB_length, numB_length]; omega
  · simp
theorem offered_e (m : Msg) (g : Nat) (w : World) (hM : MAt w g m) (HL : Hid (m.sha.length ≤ 3000 ∧ m.tic.length ≤ 3000 ∧ m.mark.length = 32)) (Hage : Hid (m.psk = true → 0 ≤ m.age ∧ m.age ≤ 4294967295)) : Calls Tryd.prog 59 #[.pointer (some ⟨g, 0, none⟩)] w fun e w' => ∃ r, e = .returned r ∧ SlV w' r (offeredB m) ∧ Below w.heap.size w w' := by
  cases hp : m.psk with
  | false => exact offered_0 m g w hM hp
  | true => exact offered_1 m g w hM HL hp (Lib.hid (Hage.out hp))
theorem serverShare_e (m : Msg) (g : Nat) (w : World) (X : List UInt8) (hX : Hid ((if m.retry = true then [] else vecB 2 m.sha) = X)) (hM : MAt w g m) (HL : Hid (m.sha.length ≤ 3000)) : Calls Tryd.prog 61 #[.pointer (some ⟨g, 0, none⟩)] w fun e w' => ∃ r, e = .returned r ∧ SlV w' r (X) ∧ Below w.heap.size w w' := by
  have h := hX.out
  cases hp : m.retry with
  | false => rw [hp] at h; rw [← h]; exact serverShare_0 m g w hM HL hp
  | true => rw [hp] at h; rw [← h]; exact serverShare_1 m g w hM hp
theorem accepted_e (m : Msg) (g : Nat) (w : World) (X : List UInt8) (hX : Hid ((if m.psk = true then [0, 0x29, 0, 2, 0, 0] else []) = X)) (hM : MAt w g m) : Calls Tryd.prog 62 #[.pointer (some ⟨g, 0, none⟩)] w fun e w' => ∃ r, e = .returned r ∧ SlV w' r (X) ∧ Below w.heap.size w w' := by
  have h := hX.out
  cases hp : m.psk with
  | false => rw [hp] at h; rw [← h]; exact accepted_0 m g w hM hp
  | true => rw [hp] at h; rw [← h]; exact accepted_1 m g w hM hp
set_option maxRecDepth 100000 in
set_option maxHeartbeats 400000 in
theorem body_1 (m : Msg) (g : Nat) (w : World) (_hT : TabH w) (hM : MAt w g m) (hk : m.kind = 1) (hf : formM m = true) : Calls Tryd.prog 38 #[.pointer (some ⟨g, 0, none⟩)] w fun e w' => ∃ r, e = .returned r ∧ SlV w' r (bodyM m) ∧ Below w.heap.size w w' := by
  have hc1 := hM.kind
  rw [hk] at hc1
  have hz := form_sz hf
  have hl := hM.lens
  have HL := Lib.hid (show m.ses.length ≤ 32 ∧ m.sha.length ≤ 65 ∧ m.tic.length ≤ 1000 ∧ m.non.length ≤ 8 ∧ m.sig.length ≤ 100 ∧ (chainB m.certs).length ≤ 20000 ∧ m.rnd.length = 32 ∧ m.mark.length = 32 ∧ (sharesB m).length ≤ 69 ∧ (offeredB m).length ≤ 2000 by
    have h1 := HelloMath.chain_le m.certs hz.2.2.2.2.2.2
    have h2 := shares_le m
    have h3 := offered_le m
    omega)
  have Hage := Lib.hid ((form_age hf).1 hk)
  clear hz hl
  go_enter Tryd.func38, Tryd.ntmps38
  have hb0 : Below w.heap.size w w := Below.refl _ _
  go_upto_region 3 with (fail)
  apply wp_region_once_tailK (m := 28) (Z := []) (D := [[], [0], [], [2], [2, 3], [2, 3, 4], [], [6], [6, 7], [6, 7, 8], [6, 7, 8, 9], [6, 7, 8, 9, 10], [], [12], [], [14], [], [6, 7, 8, 9, 10, 11, 16], [6, 7, 8, 9, 10, 11, 16, 17], [6, 7, 8, 9, 10, 11, 16, 17, 18], [6, 7, 8, 9, 10, 11, 16, 17, 18, 19], [6, 7, 8, 9, 10, 11, 16, 17, 18, 19, 20], [], [6, 7, 8, 9, 10, 11, 16, 17, 18, 19, 20, 21, 22], [6, 7, 8, 9, 10, 11, 14, 15, 16, 17, 18, 19, 20, 21, 22, 23], [6, 7, 8, 9, 10, 11, 14, 15, 16, 17, 18, 19, 20, 21, 22, 23, 24], [0, 1, 2, 3, 4, 5, 6, 7, 8, 9, 10, 11, 12, 13, 14, 15, 16, 17, 18, 19, 20, 21, 22, 23, 24, 25], [0, 1, 2, 3, 4, 5, 6, 7, 8, 9, 10, 11, 12, 13, 14, 15, 16, 17, 18, 19, 20, 21, 22, 23, 24, 25, 26], [0, 1, 2, 3, 4, 5, 6, 7, 8, 9, 10, 11, 12, 13, 14, 15, 16, 17, 18, 19, 20, 21, 22, 23, 24, 25, 26, 27]]) (J := [[], [0], [], [2], [3], [4], [], [6], [7], [8], [9], [10], [], [12], [], [14], [], [16], [17], [18], [19], [20], [], [22], [15, 21, 23], [24], [1, 5, 11, 13, 25], [26]]) (Je := [27]) (Rs := [fun v V => FrV w.heap.size V v ([3, 3]), fun v V => FrV w.heap.size V v ([3, 3]), Is _, Is _, Is _, fun v V => SlV V v (m.rnd), Is _, Is _, Is _, fun v V => SlV V v (m.ses), fun v V => RowV V v ([m.ses]), fun v V => SlV V v (vecB 1 ([m.ses]).flatten), fun v V => FrV w.heap.size V v ([0, 2, 19, 1, 1, 0]), fun v V => FrV w.heap.size V v ([0, 2, 19, 1, 1, 0]), fun v V => FrV w.heap.size V v ([0, 43, 0, 3, 2, 3, 4, 0, 10, 0, 4, 0, 2, 0, 23, 0, 13, 0, 4, 0, 2, 4, 3, 0, 51]), fun v V => FrV w.heap.size V v ([0, 43, 0, 3, 2, 3, 4, 0, 10, 0, 4, 0, 2, 0, 23, 0, 13, 0, 4, 0, 2, 4, 3, 0, 51]), Is _, fun v V => SlV V v (sharesB m), fun v V => RowV V v ([sharesB m]), fun v V => SlV V v (vecB 2 ([sharesB m]).flatten), fun v V => RowV V v ([vecB 2 ([sharesB m]).flatten]), fun v V => SlV V v (vecB 2 ([vecB 2 ([sharesB m]).flatten]).flatten), Is _, fun v V => SlV V v (offeredB m), fun v V => RowV V v ([[0, 43, 0, 3, 2, 3, 4, 0, 10, 0, 4, 0, 2, 0, 23, 0, 13, 0, 4, 0, 2, 4, 3, 0, 51], vecB 2 ([vecB 2 ([sharesB m]).flatten]).flatten, offeredB m]), fun v V => SlV V v (vecB 2 ([[0, 43, 0, 3, 2, 3, 4, 0, 10, 0, 4, 0, 2, 0, 23, 0, 13, 0, 4, 0, 2, 4, 3, 0, 51], vecB 2 ([vecB 2 ([sharesB m]).flatten]).flatten, offeredB m]).flatten), fun v V => RowV V v ([[3, 3], m.rnd, vecB 1 ([m.ses]).flatten, [0, 2, 19, 1, 1, 0], vecB 2 ([[0, 43, 0, 3, 2, 3, 4, 0, 10, 0, 4, 0, 2, 0, 23, 0, 13, 0, 4, 0, 2, 4, 3, 0, 51], vecB 2 ([vecB 2 ([sharesB m]).flatten]).flatten, offeredB m]).flatten]), fun v V => SlV V v (([[3, 3], m.rnd, vecB 1 ([m.ses]).flatten, [0, 2, 19, 1, 1, 0], vecB 2 ([[0, 43, 0, 3, 2, 3, 4, 0, 10, 0, 4, 0, 2, 0, 23, 0, 13, 0, 4, 0, 2, 4, 3, 0, 51], vecB 2 ([vecB 2 ([sharesB m]).flatten]).flatten, offeredB m]).flatten]).flatten)])
  · kernel_rfl
  · kernel_rfl
  · kernel_rfl
  · kernel_rfl
  · kernel_rfl
  · kernel_rfl
  · kernel_rfl
  · exact fun h => absurd rfl h
  · intro u
    simp only [List.take_succ_cons, List.take_zero, List.map_cons, List.map_nil, fillU, List.setIfInBounds_toArray, List.set_cons_zero, List.set_cons_succ, Nat.reduceAdd]
    exact rfl
  · simp only [List.take_succ_cons, List.take_zero]
    refine ⟨fun u W hb hd K hK => ?_, ?_⟩
    · clear hd
      rw [if_pos (by rfl)]
      refine wp_bytescK [3, 3] _ hb.size rfl rfl (by decide) (by kernel_rfl) (fun v w' h1 h2 => ?_)
      exact hK _ _ _ rfl (CB.of h2 hb.size) h1
    refine ⟨fun u W hb hd K hK => ?_, ?_⟩
    · simp only [Facts, nthR, and_true] at hd
      have h0 := hd
      clear hd
      rw [if_pos (by rfl)]
      refine wp_constK rfl rfl h0 (fun v w' h1 h2 => ?_)
      exact hK _ _ _ rfl h2 h1
    refine ⟨fun u W hb hd K hK => ?_, ?_⟩
    · clear hd
      go_simp
      apply hK
      · simp only [Act.put, zSa, zSz, zSs]
        exact rfl
      · exact CB.refl _ _
      · exact IsOut
    refine ⟨fun u W hb hd K hK => ?_, ?_⟩
    · simp only [Facts, nthR, Is, and_true] at hd
      have h2 := hd
      clear hd
      simp only [h2] at hK ⊢
      go_simp
      apply hK
      · simp only [Act.put, zSa, zSz, zSs]
        exact rfl
      · exact CB.refl _ _
      · exact IsOut
    refine ⟨fun u W hb hd K hK => ?_, ?_⟩
    · simp only [Facts, nthR, Is, and_true] at hd
      have h3 := hd
      clear hd
      simp only [h3] at hK ⊢
      go_simp
      apply hK
      · simp only [Act.put, zSa, zSz, zSs]
        exact rfl
      · exact CB.refl _ _
      · exact IsOut
    refine ⟨fun u W hb hd K hK => ?_, ?_⟩
    · simp only [Facts, nthR, Is, and_true] at hd
      have h4 := hd
      clear hd
      simp only [h4] at hK ⊢
      rw [if_pos (by rfl)]
      refine wp_rowOf rfl Tryd.underlying22 (fun w => size8 w) rfl ?_
      exact hK _ _ _ rfl (CB.refl _ _) (hM.below hb).rndV
    refine ⟨fun u W hb hd K hK => ?_, ?_⟩
    · clear hd
      go_simp
      apply hK
      · simp only [Act.put, zSa, zSz, zSs]
        exact rfl
      · exact CB.refl _ _
      · exact IsOut
    refine ⟨fun u W hb hd K hK => ?_, ?_⟩
    · simp only [Facts, nthR, Is, and_true] at hd
      have h6 := hd
      clear hd
      simp only [h6] at hK ⊢
      go_simp
      apply hK
      · simp only [Act.put, zSa, zSz, zSs]
        exact rfl
      · exact CB.refl _ _
      · exact IsOut
    refine ⟨fun u W hb hd K hK => ?_, ?_⟩
    · simp only [Facts, nthR, Is, and_true] at hd
      have h7 := hd
      clear hd
      simp only [h7] at hK ⊢
      go_simp
      apply hK
      · simp only [Act.put, zSa, zSz, zSs]
        exact rfl
      · exact CB.refl _ _
      · exact IsOut
    refine ⟨fun u W hb hd K hK => ?_, ?_⟩
    · simp only [Facts, nthR, Is, and_true] at hd
      have h8 := hd
      clear hd
      simp only [h8] at hK ⊢
      obtain ⟨v, hc, hv⟩ := (hM.below hb).ses
      go_simp
      exact hK _ _ _ rfl (CB.refl _ _) hv
    refine ⟨fun u W hb hd K hK => ?_, ?_⟩
    · simp only [Facts, nthR, and_true] at hd
      have h9 := hd
      clear hd
      obtain ⟨A0, c0, e0, f0⟩ := h9
      simp only [e0] at hK ⊢
      rw [if_pos (by rfl)]
      refine wp_rowsc [.slice A0 (m.ses).length c0] [m.ses] rfl rfl (by decide) [(0, .slice A0 (m.ses).length c0)] (by rw [Array.toList_map]; rfl) (rows1 _ _ _) ⟨⟨_, _, rfl, f0⟩, trivial⟩ (fun v w' h1 h2 => ?_)
      exact hK _ _ _ rfl (CB.of h2 hb.size) h1
    refine ⟨fun u W hb hd K hK => ?_, ?_⟩
    · simp only [Facts, nthR, and_true] at hd
      have h10 := hd
      clear hd
      go_simp
      refine (counted_e 1 [m.ses] _ _ h10 (by decide) (by simp only [List.flatten_cons, List.flatten_nil, List.append_nil]; have hsz := HL.out; omega)).mono ?_
      rintro e wy ⟨r, rfl, hB, hby⟩
      exact hK _ _ _ rfl (CB.of hby hb.size) hB.sl
    refine ⟨fun u W hb hd K hK => ?_, ?_⟩
    · clear hd
      rw [if_pos (by rfl)]
      refine wp_bytescK [0, 2, 19, 1, 1, 0] _ hb.size rfl rfl (by decide) (by kernel_rfl) (fun v w' h1 h2 => ?_)
      exact hK _ _ _ rfl (CB.of h2 hb.size) h1
    refine ⟨fun u W hb hd K hK => ?_, ?_⟩
    · simp only [Facts, nthR, and_true] at hd
      have h12 := hd
      clear hd
      rw [if_pos (by rfl)]
      refine wp_constK rfl rfl h12 (fun v w' h1 h2 => ?_)
      exact hK _ _ _ rfl h2 h1
    refine ⟨fun u W hb hd K hK => ?_, ?_⟩
    · clear hd
      rw [if_pos (by rfl)]
      refine wp_bytescK [0, 43, 0, 3, 2, 3, 4, 0, 10, 0, 4, 0, 2, 0, 23, 0, 13, 0, 4, 0, 2, 4, 3, 0, 51] _ hb.size rfl rfl (by decide) (by kernel_rfl) (fun v w' h1 h2 => ?_)
      exact hK _ _ _ rfl (CB.of h2 hb.size) h1
    refine ⟨fun u W hb hd K hK => ?_, ?_⟩
    · simp only [Facts, nthR, and_true] at hd
      have h14 := hd
      clear hd
      rw [if_pos (by rfl)]
      refine wp_constK rfl rfl h14 (fun v w' h1 h2 => ?_)
      exact hK _ _ _ rfl h2 h1
    refine ⟨fun u W hb hd K hK => ?_, ?_⟩
    · clear hd
      go_simp
      apply hK
      · simp only [Act.put, zSa, zSz, zSs]
        exact rfl
      · exact CB.refl _ _
      · exact IsOut
    refine ⟨fun u W hb hd K hK => ?_, ?_⟩
    · simp only [Facts, nthR, Is, and_true] at hd
      have h16 := hd
      clear hd
      simp only [h16] at hK ⊢
      go_simp
      refine (shares_e m g _ (hM.below hb) (Lib.hid (by have := HL.out; omega))).mono ?_
      rintro e wy ⟨r, rfl, hB, hby⟩
      exact hK _ _ _ rfl (CB.of hby hb.size) hB
    refine ⟨fun u W hb hd K hK => ?_, ?_⟩
    · simp only [Facts, nthR, and_true] at hd
      have h17 := hd
      clear hd
      obtain ⟨A0, c0, e0, f0⟩ := h17
      simp only [e0] at hK ⊢
      rw [if_pos (by rfl)]
      refine wp_rowsc [.slice A0 (sharesB m).length c0] [sharesB m] rfl rfl (by decide) [(0, .slice A0 (sharesB m).length c0)] (by rw [Array.toList_map]; rfl) (rows1 _ _ _) ⟨⟨_, _, rfl, f0⟩, trivial⟩ (fun v w' h1 h2 => ?_)
      exact hK _ _ _ rfl (CB.of h2 hb.size) h1
    refine ⟨fun u W hb hd K hK => ?_, ?_⟩
    · simp only [Facts, nthR, and_true] at hd
      have h18 := hd
      clear hd
      go_simp
      refine (counted_e 2 [sharesB m] _ _ h18 (by decide) (by simp only [List.flatten_cons, List.flatten_nil, List.append_nil]; have hsz := HL.out; omega)).mono ?_
      rintro e wy ⟨r, rfl, hB, hby⟩
      exact hK _ _ _ rfl (CB.of hby hb.size) hB.sl
    refine ⟨fun u W hb hd K hK => ?_, ?_⟩
    · simp only [Facts, nthR, and_true] at hd
      have h19 := hd
      clear hd
      obtain ⟨A0, c0, e0, f0⟩ := h19
      simp only [e0] at hK ⊢
      rw [if_pos (by rfl)]
      refine wp_rowsc [.slice A0 (vecB 2 ([sharesB m]).flatten).length c0] [vecB 2 ([sharesB m]).flatten] rfl rfl (by decide) [(0, .slice A0 (vecB 2 ([sharesB m]).flatten).length c0)] (by rw [Array.toList_map]; rfl) (rows1 _ _ _) ⟨⟨_, _, rfl, f0⟩, trivial⟩ (fun v w' h1 h2 => ?_)
      exact hK _ _ _ rfl (CB.of h2 hb.size) h1
    refine ⟨fun u W hb hd K hK => ?_, ?_⟩
    · simp only [Facts, nthR, and_true] at hd
      have h20 := hd
      clear hd
      go_simp
      refine (counted_e 2 [vecB 2 ([sharesB m]).flatten] _ _ h20 (by decide) (by simp only [List.flatten_cons, List.flatten_nil, vecB_length, List.append_nil]; have hsz := HL.out; omega)).mono ?_
      rintro e wy ⟨r, rfl, hB, hby⟩
      exact hK _ _ _ rfl (CB.of hby hb.size) hB.sl
    refine ⟨fun u W hb hd K hK => ?_, ?_⟩
    · clear hd
      go_simp
      apply hK
      · simp only [Act.put, zSa, zSz, zSs]
        exact rfl
      · exact CB.refl _ _
      · exact IsOut
    refine ⟨fun u W hb hd K hK => ?_, ?_⟩
    · simp only [Facts, nthR, Is, and_true] at hd
      have h22 := hd
      clear hd
      simp only [h22] at hK ⊢
      go_simp
      refine (offered_e m g _ (hM.below hb) (Lib.hid (by have := HL.out; omega)) Hage).mono ?_
      rintro e wy ⟨r, rfl, hB, hby⟩
      exact hK _ _ _ rfl (CB.of hby hb.size) hB
    refine ⟨fun u W hb hd K hK => ?_, ?_⟩
    · simp only [Facts, nthR, and_true] at hd
      obtain ⟨h15, h21, h23⟩ := hd
      obtain ⟨A0, c0, e0, f0⟩ := h15.sl
      obtain ⟨A1, c1, e1, f1⟩ := h21
      obtain ⟨A2, c2, e2, f2⟩ := h23
      simp only [e0, e1, e2] at hK ⊢
      rw [if_pos (by rfl)]
      refine wp_rowsc [.slice A0 ([0, 43, 0, 3, 2, 3, 4, 0, 10, 0, 4, 0, 2, 0, 23, 0, 13, 0, 4, 0, 2, 4, 3, 0, 51]).length c0, .slice A1 (vecB 2 ([vecB 2 ([sharesB m]).flatten]).flatten).length c1, .slice A2 (offeredB m).length c2] [[0, 43, 0, 3, 2, 3, 4, 0, 10, 0, 4, 0, 2, 0, 23, 0, 13, 0, 4, 0, 2, 4, 3, 0, 51], vecB 2 ([vecB 2 ([sharesB m]).flatten]).flatten, offeredB m] rfl rfl (by decide) [(0, .slice A0 ([0, 43, 0, 3, 2, 3, 4, 0, 10, 0, 4, 0, 2, 0, 23, 0, 13, 0, 4, 0, 2, 4, 3, 0, 51]).length c0), (1, .slice A1 (vecB 2 ([vecB 2 ([sharesB m]).flatten]).flatten).length c1), (2, .slice A2 (offeredB m).length c2)] (by rw [Array.toList_map]; rfl) (rows3 _ _ _ _ _ _ _ _ _) ⟨⟨_, _, rfl, f0⟩, ⟨_, _, rfl, f1⟩, ⟨_, _, rfl, f2⟩, trivial⟩ (fun v w' h1 h2 => ?_)
      exact hK _ _ _ rfl (CB.of h2 hb.size) h1
    refine ⟨fun u W hb hd K hK => ?_, ?_⟩
    · simp only [Facts, nthR, and_true] at hd
      have h24 := hd
      clear hd
      go_simp
      refine (counted_e 2 [[0, 43, 0, 3, 2, 3, 4, 0, 10, 0, 4, 0, 2, 0, 23, 0, 13, 0, 4, 0, 2, 4, 3, 0, 51], vecB 2 ([vecB 2 ([sharesB m]).flatten]).flatten, offeredB m] _ _ h24 (by decide) (by simp only [List.flatten_cons, List.flatten_nil, List.length_append, List.length_cons, List.length_nil, vecB_length, List.append_nil]; have hsz := HL.out; omega)).mono ?_
      rintro e wy ⟨r, rfl, hB, hby⟩
      exact hK _ _ _ rfl (CB.of hby hb.size) hB.sl
    refine ⟨fun u W hb hd K hK => ?_, ?_⟩
    · simp only [Facts, nthR, and_true] at hd
      obtain ⟨h1, h5, h11, h13, h25⟩ := hd
      obtain ⟨A0, c0, e0, f0⟩ := h1.sl
      obtain ⟨A1, c1, e1, f1⟩ := h5
      obtain ⟨A2, c2, e2, f2⟩ := h11
      obtain ⟨A3, c3, e3, f3⟩ := h13.sl
      obtain ⟨A4, c4, e4, f4⟩ := h25
      simp only [e0, e1, e2, e3, e4] at hK ⊢
      rw [if_pos (by rfl)]
      refine wp_rowsc [.slice A0 ([3, 3]).length c0, .slice A1 (m.rnd).length c1, .slice A2 (vecB 1 ([m.ses]).flatten).length c2, .slice A3 ([0, 2, 19, 1, 1, 0]).length c3, .slice A4 (vecB 2 ([[0, 43, 0, 3, 2, 3, 4, 0, 10, 0, 4, 0, 2, 0, 23, 0, 13, 0, 4, 0, 2, 4, 3, 0, 51], vecB 2 ([vecB 2 ([sharesB m]).flatten]).flatten, offeredB m]).flatten).length c4] [[3, 3], m.rnd, vecB 1 ([m.ses]).flatten, [0, 2, 19, 1, 1, 0], vecB 2 ([[0, 43, 0, 3, 2, 3, 4, 0, 10, 0, 4, 0, 2, 0, 23, 0, 13, 0, 4, 0, 2, 4, 3, 0, 51], vecB 2 ([vecB 2 ([sharesB m]).flatten]).flatten, offeredB m]).flatten] rfl rfl (by decide) [(0, .slice A0 ([3, 3]).length c0), (1, .slice A1 (m.rnd).length c1), (2, .slice A2 (vecB 1 ([m.ses]).flatten).length c2), (3, .slice A3 ([0, 2, 19, 1, 1, 0]).length c3), (4, .slice A4 (vecB 2 ([[0, 43, 0, 3, 2, 3, 4, 0, 10, 0, 4, 0, 2, 0, 23, 0, 13, 0, 4, 0, 2, 4, 3, 0, 51], vecB 2 ([vecB 2 ([sharesB m]).flatten]).flatten, offeredB m]).flatten).length c4)] (by rw [Array.toList_map]; rfl) (rows5 _ _ _ _ _ _ _ _ _ _ _ _ _ _ _) ⟨⟨_, _, rfl, f0⟩, ⟨_, _, rfl, f1⟩, ⟨_, _, rfl, f2⟩, ⟨_, _, rfl, f3⟩, ⟨_, _, rfl, f4⟩, trivial⟩ (fun v w' h1 h2 => ?_)
      exact hK _ _ _ rfl (CB.of h2 hb.size) h1
    refine ⟨fun u W hb hd K hK => ?_, ?_⟩
    · simp only [Facts, nthR, and_true] at hd
      have h26 := hd
      clear hd
      go_simp
      refine (concat_e [[3, 3], m.rnd, vecB 1 ([m.ses]).flatten, [0, 2, 19, 1, 1, 0], vecB 2 ([[0, 43, 0, 3, 2, 3, 4, 0, 10, 0, 4, 0, 2, 0, 23, 0, 13, 0, 4, 0, 2, 4, 3, 0, 51], vecB 2 ([vecB 2 ([sharesB m]).flatten]).flatten, offeredB m]).flatten] _ _ h26 (by simp only [List.flatten_cons, List.flatten_nil, List.length_append, List.length_cons, List.length_nil, vecB_length, List.append_nil]; have hsz := HL.out; omega)).mono ?_
      rintro e wy ⟨r, rfl, hB, hby⟩
      exact hK _ _ _ rfl (CB.of hby hb.size) hB.sl
    exact trivial
  · skip
    exact trivial
  · exact (.cons (fun _ _ _ h hb => h.cb hb) (.cons (fun _ _ _ h hb => h.cb hb) (.is (.is (.is (.cons (fun _ _ _ h hb => h.cb hb) (.is (.is (.is (.cons (fun _ _ _ h hb => h.cb hb) (.cons (fun _ _ _ h hb => h.cb hb) (.cons (fun _ _ _ h hb => h.cb hb) (.cons (fun _ _ _ h hb => h.cb hb) (.cons (fun _ _ _ h hb => h.cb hb) (.cons (fun _ _ _ h hb => h.cb hb) (.cons (fun _ _ _ h hb => h.cb hb) (.is (.cons (fun _ _ _ h hb => h.cb hb) (.cons (fun _ _ _ h hb => h.cb hb) (.cons (fun _ _ _ h hb => h.cb hb) (.cons (fun _ _ _ h hb => h.cb hb) (.cons (fun _ _ _ h hb => h.cb hb) (.is (.cons (fun _ _ _ h hb => h.cb hb) (.cons (fun _ _ _ h hb => h.cb hb) (.cons (fun _ _ _ h hb => h.cb hb) (.cons (fun _ _ _ h hb => h.cb hb) (.cons (fun _ _ _ h hb => h.cb hb) .nil))))))))))))))))))))))))))))
  intro u w1 hb hd
  simp only [List.drop_succ_cons, List.drop_zero]
  simp only [Facts, nthR, and_true] at hd
  have h27 := hd
  clear hd
  obtain ⟨vx1, e27⟩ : ∃ v, u 27 = v := ⟨_, rfl⟩
  rw [e27] at h27
  simp only [e27]
  clear e27
  have fx1 := h27
  clear h27
  replace hM := hM.below hb
  replace hb0 := hb0.trans (hb.mono hb0.size)
  clear hb
  go_wp2
  refine bodyPost_ret (results_tmp Tryd.results38 _ _ _) rfl ?_
  exact ⟨_, rfl, by simpa [bodyM, hk, clientB, abil] using fx1, hb0⟩
set_option maxRecDepth 100000 in
set_option maxHeartbeats 400000 in
theorem body_2 (m : Msg) (g : Nat) (w : World) (hT : TabH w) (hM : MAt w g m) (hk : m.kind = 2) (hf : formM m = true) : Calls Tryd.prog 38 #[.pointer (some ⟨g, 0, none⟩)] w fun e w' => ∃ r, e = .returned r ∧ SlV w' r (bodyM m) ∧ Below w.heap.size w w' := by
  have hc1 := hM.kind
  rw [hk] at hc1
  have hz := form_sz hf
  have hl := hM.lens
  have HL := Lib.hid (show m.ses.length ≤ 32 ∧ m.sha.length ≤ 65 ∧ m.tic.length ≤ 1000 ∧ m.non.length ≤ 8 ∧ m.sig.length ≤ 100 ∧ (chainB m.certs).length ≤ 20000 ∧ m.rnd.length = 32 ∧ m.mark.length = 32 ∧ (sharesB m).length ≤ 69 ∧ (offeredB m).length ≤ 2000 by
    have h1 := HelloMath.chain_le m.certs hz.2.2.2.2.2.2
    have h2 := shares_le m
    have h3 := offered_le m
    omega)
  obtain ⟨R, hR⟩ : ∃ s, Hid ((if m.retry = true then special else m.rnd) = s) := ⟨_, Lib.hid rfl⟩
  obtain ⟨X, hX⟩ : ∃ s, Hid ((if m.retry = true then [] else vecB 2 m.sha) = s) := ⟨_, Lib.hid rfl⟩
  obtain ⟨Y, hY⟩ : ∃ s : List UInt8, Hid ((if m.psk = true then [0, 0x29, 0, 2, 0, 0] else []) = s) := ⟨_, Lib.hid rfl⟩
  have HL2 := Lib.hid (show m.ses.length ≤ 32 ∧ R.length = 32 ∧ X.length ≤ 67 ∧ Y.length ≤ 6 by
    have h1 := hR.out
    have h2 := hX.out
    have h3 := hY.out
    subst h1 h2 h3
    refine ⟨hz.1, ?_, ?_, ?_⟩
    · split
      · rfl
      · exact hl.1
    · split
      · simp
      · rw [vecB_length]; omega
    · split <;> simp)
  clear hz hl
  go_enter Tryd.func38, Tryd.ntmps38
  have hb0 : Below w.heap.size w w := Below.refl _ _
  go_upto_region 5 with (fail)
  apply wp_region_once_tailK (m := 26) (Z := []) (D := [[], [0], [], [2], [], [4], [4, 5], [4, 5, 6], [4, 5, 6, 7], [2, 3, 4, 5, 6, 7, 8], [], [10], [], [12], [], [14], [], [2, 3, 4, 5, 6, 7, 8, 9, 16], [2, 3, 4, 5, 6, 7, 8, 9, 14, 15, 16, 17], [2, 3, 4, 5, 6, 7, 8, 9, 14, 15, 16, 17, 18], [], [2, 3, 4, 5, 6, 7, 8, 9, 14, 15, 16, 17, 18, 19, 20], [2, 3, 4, 5, 6, 7, 8, 9, 12, 13, 14, 15, 16, 17, 18, 19, 20, 21], [2, 3, 4, 5, 6, 7, 8, 9, 12, 13, 14, 15, 16, 17, 18, 19, 20, 21, 22], [0, 1, 2, 3, 4, 5, 6, 7, 8, 9, 10, 11, 12, 13, 14, 15, 16, 17, 18, 19, 20, 21, 22, 23], [0, 1, 2, 3, 4, 5, 6, 7, 8, 9, 10, 11, 12, 13, 14, 15, 16, 17, 18, 19, 20, 21, 22, 23, 24], [0, 1, 2, 3, 4, 5, 6, 7, 8, 9, 10, 11, 12, 13, 14, 15, 16, 17, 18, 19, 20, 21, 22, 23, 24, 25]]) (J := [[], [0], [], [2], [], [4], [5], [6], [7], [8], [], [10], [], [12], [], [14], [], [16], [15, 17], [18], [], [20], [13, 19, 21], [22], [1, 3, 9, 11, 23], [24]]) (Je := [25]) (Rs := [fun v V => FrV w.heap.size V v ([3, 3]), fun v V => FrV w.heap.size V v ([3, 3]), Is _, fun v V => SlV V v (R), Is _, Is _, Is _, fun v V => SlV V v (m.ses), fun v V => RowV V v ([m.ses]), fun v V => SlV V v (vecB 1 ([m.ses]).flatten), fun v V => FrV w.heap.size V v ([19, 1, 0]), fun v V => FrV w.heap.size V v ([19, 1, 0]), fun v V => FrV w.heap.size V v ([0, 43, 0, 2, 3, 4, 0, 51]), fun v V => FrV w.heap.size V v ([0, 43, 0, 2, 3, 4, 0, 51]), fun v V => FrV w.heap.size V v ([0, 23]), fun v V => FrV w.heap.size V v ([0, 23]), Is _, fun v V => SlV V v (X), fun v V => RowV V v ([[0, 23], X]), fun v V => SlV V v (vecB 2 ([[0, 23], X]).flatten), Is _, fun v V => SlV V v (Y), fun v V => RowV V v ([[0, 43, 0, 2, 3, 4, 0, 51], vecB 2 ([[0, 23], X]).flatten, Y]), fun v V => SlV V v (vecB 2 ([[0, 43, 0, 2, 3, 4, 0, 51], vecB 2 ([[0, 23], X]).flatten, Y]).flatten), fun v V => RowV V v ([[3, 3], R, vecB 1 ([m.ses]).flatten, [19, 1, 0], vecB 2 ([[0, 43, 0, 2, 3, 4, 0, 51], vecB 2 ([[0, 23], X]).flatten, Y]).flatten]), fun v V => SlV V v (([[3, 3], R, vecB 1 ([m.ses]).flatten, [19, 1, 0], vecB 2 ([[0, 43, 0, 2, 3, 4, 0, 51], vecB 2 ([[0, 23], X]).flatten, Y]).flatten]).flatten)])
  · kernel_rfl
  · kernel_rfl
  · kernel_rfl
  · kernel_rfl
  · kernel_rfl
  · kernel_rfl
  · kernel_rfl
  · exact fun h => absurd rfl h
  · intro u
    simp only [List.take_succ_cons, List.take_zero, List.map_cons, List.map_nil, fillU, List.setIfInBounds_toArray, List.set_cons_zero, List.set_cons_succ, Nat.reduceAdd]
    exact rfl
  · simp only [List.take_succ_cons, List.take_zero]
    refine ⟨fun u W hb hd K hK => ?_, ?_⟩
    · clear hd
      rw [if_pos (by rfl)]
      refine wp_bytescK [3, 3] _ hb.size rfl rfl (by decide) (by kernel_rfl) (fun v w' h1 h2 => ?_)
      exact hK _ _ _ rfl (CB.of h2 hb.size) h1
    refine ⟨fun u W hb hd K hK => ?_, ?_⟩
    · simp only [Facts, nthR, and_true] at hd
      have h0 := hd
      clear hd
      rw [if_pos (by rfl)]
      refine wp_constK rfl rfl h0 (fun v w' h1 h2 => ?_)
      exact hK _ _ _ rfl h2 h1
    refine ⟨fun u W hb hd K hK => ?_, ?_⟩
    · clear hd
      go_simp
      apply hK
      · simp only [Act.put, zSa, zSz, zSs]
        exact rfl
      · exact CB.refl _ _
      · exact IsOut
    refine ⟨fun u W hb hd K hK => ?_, ?_⟩
    · simp only [Facts, nthR, Is, and_true] at hd
      have h2 := hd
      clear hd
      simp only [h2] at hK ⊢
      go_simp
      refine (serverRandom_e m g _ R hR (hT.below hb) (hM.below hb)).mono ?_
      rintro e wy ⟨r, rfl, hB, hby⟩
      exact hK _ _ _ rfl (CB.of hby hb.size) hB
    refine ⟨fun u W hb hd K hK => ?_, ?_⟩
    · clear hd
      go_simp
      apply hK
      · simp only [Act.put, zSa, zSz, zSs]
        exact rfl
      · exact CB.refl _ _
      · exact IsOut
    refine ⟨fun u W hb hd K hK => ?_, ?_⟩
    · simp only [Facts, nthR, Is, and_true] at hd
      have h4 := hd
      clear hd
      simp only [h4] at hK ⊢
      go_simp
      apply hK
      · simp only [Act.put, zSa, zSz, zSs]
        exact rfl
      · exact CB.refl _ _
      · exact IsOut
    refine ⟨fun u W hb hd K hK => ?_, ?_⟩
    · simp only [Facts, nthR, Is, and_true] at hd
      have h5 := hd
      clear hd
      simp only [h5] at hK ⊢
      go_simp
      apply hK
      · simp only [Act.put, zSa, zSz, zSs]
        exact rfl
      · exact CB.refl _ _
      · exact IsOut
    refine ⟨fun u W hb hd K hK => ?_, ?_⟩
    · simp only [Facts, nthR, Is, and_true] at hd
      have h6 := hd
      clear hd
      simp only [h6] at hK ⊢
      obtain ⟨v, hc, hv⟩ := (hM.below hb).ses
      go_simp
      exact hK _ _ _ rfl (CB.refl _ _) hv
    refine ⟨fun u W hb hd K hK => ?_, ?_⟩
    · simp only [Facts, nthR, and_true] at hd
      have h7 := hd
      clear hd
      obtain ⟨A0, c0, e0, f0⟩ := h7
      simp only [e0] at hK ⊢
      rw [if_pos (by rfl)]
      refine wp_rowsc [.slice A0 (m.ses).length c0] [m.ses] rfl rfl (by decide) [(0, .slice A0 (m.ses).length c0)] (by rw [Array.toList_map]; rfl) (rows1 _ _ _) ⟨⟨_, _, rfl, f0⟩, trivial⟩ (fun v w' h1 h2 => ?_)
      exact hK _ _ _ rfl (CB.of h2 hb.size) h1
    refine ⟨fun u W hb hd K hK => ?_, ?_⟩
    · simp only [Facts, nthR, and_true] at hd
      have h8 := hd
      clear hd
      go_simp
      refine (counted_e 1 [m.ses] _ _ h8 (by decide) (by simp only [List.flatten_cons, List.flatten_nil, List.append_nil]; have hsz := HL2.out; omega)).mono ?_
      rintro e wy ⟨r, rfl, hB, hby⟩
      exact hK _ _ _ rfl (CB.of hby hb.size) hB.sl
    refine ⟨fun u W hb hd K hK => ?_, ?_⟩
    · clear hd
      rw [if_pos (by rfl)]
      refine wp_bytescK [19, 1, 0] _ hb.size rfl rfl (by decide) (by kernel_rfl) (fun v w' h1 h2 => ?_)
      exact hK _ _ _ rfl (CB.of h2 hb.size) h1
    refine ⟨fun u W hb hd K hK => ?_, ?_⟩
    · simp only [Facts, nthR, and_true] at hd
      have h10 := hd
      clear hd
      rw [if_pos (by rfl)]
      refine wp_constK rfl rfl h10 (fun v w' h1 h2 => ?_)
      exact hK _ _ _ rfl h2 h1
    refine ⟨fun u W hb hd K hK => ?_, ?_⟩
    · clear hd
      rw [if_pos (by rfl)]
      refine wp_bytescK [0, 43, 0, 2, 3, 4, 0, 51] _ hb.size rfl rfl (by decide) (by kernel_rfl) (fun v w' h1 h2 => ?_)
      exact hK _ _ _ rfl (CB.of h2 hb.size) h1
    refine ⟨fun u W hb hd K hK => ?_, ?_⟩
    · simp only [Facts, nthR, and_true] at hd
      have h12 := hd
      clear hd
      rw [if_pos (by rfl)]
      refine wp_constK rfl rfl h12 (fun v w' h1 h2 => ?_)
      exact hK _ _ _ rfl h2 h1
    refine ⟨fun u W hb hd K hK => ?_, ?_⟩
    · clear hd
      rw [if_pos (by rfl)]
      refine wp_bytescK [0, 23] _ hb.size rfl rfl (by decide) (by kernel_rfl) (fun v w' h1 h2 => ?_)
      exact hK _ _ _ rfl (CB.of h2 hb.size) h1
    refine ⟨fun u W hb hd K hK => ?_, ?_⟩
    · simp only [Facts, nthR, and_true] at hd
      have h14 := hd
      clear hd
      rw [if_pos (by rfl)]
      refine wp_constK rfl rfl h14 (fun v w' h1 h2 => ?_)
      exact hK _ _ _ rfl h2 h1
    refine ⟨fun u W hb hd K hK => ?_, ?_⟩
    · clear hd
      go_simp
      apply hK
      · simp only [Act.put, zSa, zSz, zSs]
        exact rfl
      · exact CB.refl _ _
      · exact IsOut
    refine ⟨fun u W hb hd K hK => ?_, ?_⟩
    · simp only [Facts, nthR, Is, and_true] at hd
      have h16 := hd
      clear hd
      simp only [h16] at hK ⊢
      go_simp
      refine (serverShare_e m g _ X hX (hM.below hb) (Lib.hid (by have := HL.out; omega))).mono ?_
      rintro e wy ⟨r, rfl, hB, hby⟩
      exact hK _ _ _ rfl (CB.of hby hb.size) hB
    refine ⟨fun u W hb hd K hK => ?_, ?_⟩
    · simp only [Facts, nthR, and_true] at hd
      obtain ⟨h15, h17⟩ := hd
      obtain ⟨A0, c0, e0, f0⟩ := h15.sl
      obtain ⟨A1, c1, e1, f1⟩ := h17
      simp only [e0, e1] at hK ⊢
      rw [if_pos (by rfl)]
      refine wp_rowsc [.slice A0 ([0, 23]).length c0, .slice A1 (X).length c1] [[0, 23], X] rfl rfl (by decide) [(0, .slice A0 ([0, 23]).length c0), (1, .slice A1 (X).length c1)] (by rw [Array.toList_map]; rfl) (rows2 _ _ _ _ _ _) ⟨⟨_, _, rfl, f0⟩, ⟨_, _, rfl, f1⟩, trivial⟩ (fun v w' h1 h2 => ?_)
      exact hK _ _ _ rfl (CB.of h2 hb.size) h1
    refine ⟨fun u W hb hd K hK => ?_, ?_⟩
    · simp only [Facts, nthR, and_true] at hd
      have h18 := hd
      clear hd
      go_simp
      refine (counted_e 2 [[0, 23], X] _ _ h18 (by decide) (by simp only [List.flatten_cons, List.flatten_nil, List.length_append, List.length_cons, List.length_nil, List.append_nil]; have hsz := HL2.out; omega)).mono ?_
      rintro e wy ⟨r, rfl, hB, hby⟩
      exact hK _ _ _ rfl (CB.of hby hb.size) hB.sl
    refine ⟨fun u W hb hd K hK => ?_, ?_⟩
    · clear hd
      go_simp
      apply hK
      · simp only [Act.put, zSa, zSz, zSs]
        exact rfl
      · exact CB.refl _ _
      · exact IsOut
    refine ⟨fun u W hb hd K hK => ?_, ?_⟩
    · simp only [Facts, nthR, Is, and_true] at hd
      have h20 := hd
      clear hd
      simp only [h20] at hK ⊢
      go_simp
      refine (accepted_e m g _ Y hY (hM.below hb)).mono ?_
      rintro e wy ⟨r, rfl, hB, hby⟩
      exact hK _ _ _ rfl (CB.of hby hb.size) hB
    refine ⟨fun u W hb hd K hK => ?_, ?_⟩
    · simp only [Facts, nthR, and_true] at hd
      obtain ⟨h13, h19, h21⟩ := hd
      obtain ⟨A0, c0, e0, f0⟩ := h13.sl
      obtain ⟨A1, c1, e1, f1⟩ := h19
      obtain ⟨A2, c2, e2, f2⟩ := h21
      simp only [e0, e1, e2] at hK ⊢
      rw [if_pos (by rfl)]
      refine wp_rowsc [.slice A0 ([0, 43, 0, 2, 3, 4, 0, 51]).length c0, .slice A1 (vecB 2 ([[0, 23], X]).flatten).length c1, .slice A2 (Y).length c2] [[0, 43, 0, 2, 3, 4, 0, 51], vecB 2 ([[0, 23], X]).flatten, Y] rfl rfl (by decide) [(0, .slice A0 ([0, 43, 0, 2, 3, 4, 0, 51]).length c0), (1, .slice A1 (vecB 2 ([[0, 23], X]).flatten).length c1), (2, .slice A2 (Y).length c2)] (by rw [Array.toList_map]; rfl) (rows3 _ _ _ _ _ _ _ _ _) ⟨⟨_, _, rfl, f0⟩, ⟨_, _, rfl, f1⟩, ⟨_, _, rfl, f2⟩, trivial⟩ (fun v w' h1 h2 => ?_)
      exact hK _ _ _ rfl (CB.of h2 hb.size) h1
    refine ⟨fun u W hb hd K hK => ?_, ?_⟩
    · simp only [Facts, nthR, and_true] at hd
      have h22 := hd
      clear hd
      go_simp
      refine (counted_e 2 [[0, 43, 0, 2, 3, 4, 0, 51], vecB 2 ([[0, 23], X]).flatten, Y] _ _ h22 (by decide) (by simp only [List.flatten_cons, List.flatten_nil, List.length_append, List.length_cons, List.length_nil, vecB_length, List.append_nil]; have hsz := HL2.out; omega)).mono ?_
      rintro e wy ⟨r, rfl, hB, hby⟩
      exact hK _ _ _ rfl (CB.of hby hb.size) hB.sl
    refine ⟨fun u W hb hd K hK => ?_, ?_⟩
    · simp only [Facts, nthR, and_true] at hd
      obtain ⟨h1, h3, h9, h11, h23⟩ := hd
      obtain ⟨A0, c0, e0, f0⟩ := h1.sl
      obtain ⟨A1, c1, e1, f1⟩ := h3
      obtain ⟨A2, c2, e2, f2⟩ := h9
      obtain ⟨A3, c3, e3, f3⟩ := h11.sl
      obtain ⟨A4, c4, e4, f4⟩ := h23
      simp only [e0, e1, e2, e3, e4] at hK ⊢
      rw [if_pos (by rfl)]
      refine wp_rowsc [.slice A0 ([3, 3]).length c0, .slice A1 (R).length c1, .slice A2 (vecB 1 ([m.ses]).flatten).length c2, .slice A3 ([19, 1, 0]).length c3, .slice A4 (vecB 2 ([[0, 43, 0, 2, 3, 4, 0, 51], vecB 2 ([[0, 23], X]).flatten, Y]).flatten).length c4] [[3, 3], R, vecB 1 ([m.ses]).flatten, [19, 1, 0], vecB 2 ([[0, 43, 0, 2, 3, 4, 0, 51], vecB 2 ([[0, 23], X]).flatten, Y]).flatten] rfl rfl (by decide) [(0, .slice A0 ([3, 3]).length c0), (1, .slice A1 (R).length c1), (2, .slice A2 (vecB 1 ([m.ses]).flatten).length c2), (3, .slice A3 ([19, 1, 0]).length c3), (4, .slice A4 (vecB 2 ([[0, 43, 0, 2, 3, 4, 0, 51], vecB 2 ([[0, 23], X]).flatten, Y]).flatten).length c4)] (by rw [Array.toList_map]; rfl) (rows5 _ _ _ _ _ _ _ _ _ _ _ _ _ _ _) ⟨⟨_, _, rfl, f0⟩, ⟨_, _, rfl, f1⟩, ⟨_, _, rfl, f2⟩, ⟨_, _, rfl, f3⟩, ⟨_, _, rfl, f4⟩, trivial⟩ (fun v w' h1 h2 => ?_)
      exact hK _ _ _ rfl (CB.of h2 hb.size) h1
    refine ⟨fun u W hb hd K hK => ?_, ?_⟩
    · simp only [Facts, nthR, and_true] at hd
      have h24 := hd
      clear hd
      go_simp
      refine (concat_e [[3, 3], R, vecB 1 ([m.ses]).flatten, [19, 1, 0], vecB 2 ([[0, 43, 0, 2, 3, 4, 0, 51], vecB 2 ([[0, 23], X]).flatten, Y]).flatten] _ _ h24 (by simp only [List.flatten_cons, List.flatten_nil, List.length_append, List.length_cons, List.length_nil, vecB_length, List.append_nil]; have hsz := HL2.out; omega)).mono ?_
      rintro e wy ⟨r, rfl, hB, hby⟩
      exact hK _ _ _ rfl (CB.of hby hb.size) hB.sl
    exact trivial
  · skip
    exact trivial
  · exact (.cons (fun _ _ _ h hb => h.cb hb) (.cons (fun _ _ _ h hb => h.cb hb) (.is (.cons (fun _ _ _ h hb => h.cb hb) (.is (.is (.is (.cons (fun _ _ _ h hb => h.cb hb) (.cons (fun _ _ _ h hb => h.cb hb) (.cons (fun _ _ _ h hb => h.cb hb) (.cons (fun _ _ _ h hb => h.cb hb) (.cons (fun _ _ _ h hb => h.cb hb) (.cons (fun _ _ _ h hb => h.cb hb) (.cons (fun _ _ _ h hb => h.cb hb) (.cons (fun _ _ _ h hb => h.cb hb) (.cons (fun _ _ _ h hb => h.cb hb) (.is (.cons (fun _ _ _ h hb => h.cb hb) (.cons (fun _ _ _ h hb => h.cb hb) (.cons (fun _ _ _ h hb => h.cb hb) (.is (.cons (fun _ _ _ h hb => h.cb hb) (.cons (fun _ _ _ h hb => h.cb hb) (.cons (fun _ _ _ h hb => h.cb hb) (.cons (fun _ _ _ h hb => h.cb hb) (.cons (fun _ _ _ h hb => h.cb hb) .nil))))))))))))))))))))))))))
  intro u w1 hb hd
  simp only [List.drop_succ_cons, List.drop_zero]
  simp only [Facts, nthR, and_true] at hd
  have h25 := hd
  clear hd
  obtain ⟨vx1, e25⟩ : ∃ v, u 25 = v := ⟨_, rfl⟩
  rw [e25] at h25
  simp only [e25]
  clear e25
  have fx1 := h25
  clear h25
  replace hM := hM.below hb
  replace hT := hT.below hb
  replace hb0 := hb0.trans (hb.mono hb0.size)
  clear hb
  go_wp2
  refine bodyPost_ret (results_tmp Tryd.results38 _ _ _) rfl ?_
  exact ⟨_, rfl, by have e : bodyM m = [3, 3] ++ (R ++ (vecB 1 m.ses ++ ([0x13, 1, 0] ++ vecB 2 ([0, 0x2B, 0, 2, 3, 4, 0, 0x33] ++ (vecB 2 ([0, 0x17] ++ X) ++ Y))))) := (by rw [bodyM, if_neg (by rw [hk]; decide), if_pos hk, serverB, hR.out, hX.out, hY.out]); rw [e]; simpa using fx1, hb0⟩
set_option maxRecDepth 100000 in
set_option maxHeartbeats 400000 in
theorem body_4 (m : Msg) (g : Nat) (w : World) (_hT : TabH w) (hM : MAt w g m) (hk : m.kind = 4) (hf : formM m = true) : Calls Tryd.prog 38 #[.pointer (some ⟨g, 0, none⟩)] w fun e w' => ∃ r, e = .returned r ∧ SlV w' r (bodyM m) ∧ Below w.heap.size w w' := by
  have hc1 := hM.kind
  rw [hk] at hc1
  have hz := form_sz hf
  have hl := hM.lens
  have HL := Lib.hid (show m.ses.length ≤ 32 ∧ m.sha.length ≤ 65 ∧ m.tic.length ≤ 1000 ∧ m.non.length ≤ 8 ∧ m.sig.length ≤ 100 ∧ (chainB m.certs).length ≤ 20000 ∧ m.rnd.length = 32 ∧ m.mark.length = 32 ∧ (sharesB m).length ≤ 69 ∧ (offeredB m).length ≤ 2000 by
    have h1 := HelloMath.chain_le m.certs hz.2.2.2.2.2.2
    have h2 := shares_le m
    have h3 := offered_le m
    omega)
  have Hlife := Lib.hid ((form_age hf).2 hk).1
  have Hage := Lib.hid ((form_age hf).2 hk).2
  clear hz hl
  go_enter Tryd.func38, Tryd.ntmps38
  have hb0 : Below w.heap.size w w := Below.refl _ _
  go_upto_region 7 with (fail)
  apply wp_region_once_tailK (m := 26) (Z := []) (D := [[], [0], [0, 1], [0, 1, 2], [0, 1, 2, 3], [], [5], [5, 6], [5, 6, 7], [0, 1, 2, 3, 4, 5, 6, 7, 8], [], [10], [10, 11], [10, 11, 12], [10, 11, 12, 13], [0, 1, 2, 3, 4, 5, 6, 7, 8, 9, 10, 11, 12, 13, 14], [], [16], [16, 17], [16, 17, 18], [16, 17, 18, 19], [0, 1, 2, 3, 4, 5, 6, 7, 8, 9, 10, 11, 12, 13, 14, 15, 16, 17, 18, 19, 20], [], [22], [0, 1, 2, 3, 4, 5, 6, 7, 8, 9, 10, 11, 12, 13, 14, 15, 16, 17, 18, 19, 20, 21, 22, 23], [0, 1, 2, 3, 4, 5, 6, 7, 8, 9, 10, 11, 12, 13, 14, 15, 16, 17, 18, 19, 20, 21, 22, 23, 24], [0, 1, 2, 3, 4, 5, 6, 7, 8, 9, 10, 11, 12, 13, 14, 15, 16, 17, 18, 19, 20, 21, 22, 23, 24, 25]]) (J := [[], [0], [1], [2], [3], [], [5], [6], [7], [8], [], [10], [11], [12], [13], [14], [], [16], [17], [18], [19], [20], [], [22], [4, 9, 15, 21, 23], [24]]) (Je := [25]) (Rs := [Is _, Is _, Is _, Is _, fun v V => SlV V v (numB 4 m.life.toNat), Is _, Is _, Is _, Is _, fun v V => SlV V v (numB 4 m.age.toNat), Is _, Is _, Is _, fun v V => SlV V v (m.non), fun v V => RowV V v ([m.non]), fun v V => SlV V v (vecB 1 ([m.non]).flatten), Is _, Is _, Is _, fun v V => SlV V v (m.tic), fun v V => RowV V v ([m.tic]), fun v V => SlV V v (vecB 2 ([m.tic]).flatten), fun v V => FrV w.heap.size V v ([0, 0]), fun v V => FrV w.heap.size V v ([0, 0]), fun v V => RowV V v ([numB 4 m.life.toNat, numB 4 m.age.toNat, vecB 1 ([m.non]).flatten, vecB 2 ([m.tic]).flatten, [0, 0]]), fun v V => SlV V v (([numB 4 m.life.toNat, numB 4 m.age.toNat, vecB 1 ([m.non]).flatten, vecB 2 ([m.tic]).flatten, [0, 0]]).flatten)])
  · kernel_rfl
  · kernel_rfl
  · kernel_rfl
  · kernel_rfl
  · kernel_rfl
  · kernel_rfl
  · kernel_rfl
  · exact fun h => absurd rfl h
  · intro u
    simp only [List.take_succ_cons, List.take_zero, List.map_cons, List.map_nil, fillU, List.setIfInBounds_toArray, List.set_cons_zero, List.set_cons_succ, Nat.reduceAdd]
    exact rfl
  · simp only [List.take_succ_cons, List.take_zero]
    refine ⟨fun u W hb hd K hK => ?_, ?_⟩
    · clear hd
      go_simp
      apply hK
      · simp only [Act.put, zSa, zSz, zSs]
        exact rfl
      · exact CB.refl _ _
      · exact IsOut
    refine ⟨fun u W hb hd K hK => ?_, ?_⟩
    · simp only [Facts, nthR, Is, and_true] at hd
      have h0 := hd
      clear hd
      simp only [h0] at hK ⊢
      go_simp
      apply hK
      · simp only [Act.put, zSa, zSz, zSs]
        exact rfl
      · exact CB.refl _ _
      · exact IsOut
    refine ⟨fun u W hb hd K hK => ?_, ?_⟩
    · simp only [Facts, nthR, Is, and_true] at hd
      have h1 := hd
      clear hd
      simp only [h1] at hK ⊢
      go_simp
      apply hK
      · simp only [Act.put, zSa, zSz, zSs]
        exact rfl
      · exact CB.refl _ _
      · exact IsOut
    refine ⟨fun u W hb hd K hK => ?_, ?_⟩
    · simp only [Facts, nthR, Is, and_true] at hd
      have h2 := hd
      clear hd
      simp only [h2] at hK ⊢
      have hc := (hM.below hb).life
      go_simp
      apply hK
      · simp only [Act.put, zSa, zSz, zSs]
        exact rfl
      · exact CB.refl _ _
      · exact IsOut
    refine ⟨fun u W hb hd K hK => ?_, ?_⟩
    · simp only [Facts, nthR, Is, and_true] at hd
      have h3 := hd
      clear hd
      simp only [h3] at hK ⊢
      go_simp
      refine (number_i 4 m.life _ (by decide) Hlife.out.1 Hlife.out.2).mono ?_
      rintro e wy ⟨r, rfl, hB, hby⟩
      exact hK _ _ _ rfl (CB.of hby hb.size) hB.sl
    refine ⟨fun u W hb hd K hK => ?_, ?_⟩
    · clear hd
      go_simp
      apply hK
      · simp only [Act.put, zSa, zSz, zSs]
        exact rfl
      · exact CB.refl _ _
      · exact IsOut
    refine ⟨fun u W hb hd K hK => ?_, ?_⟩
    · simp only [Facts, nthR, Is, and_true] at hd
      have h5 := hd
      clear hd
      simp only [h5] at hK ⊢
      go_simp
      apply hK
      · simp only [Act.put, zSa, zSz, zSs]
        exact rfl
      · exact CB.refl _ _
      · exact IsOut
    refine ⟨fun u W hb hd K hK => ?_, ?_⟩
    · simp only [Facts, nthR, Is, and_true] at hd
      have h6 := hd
      clear hd
      simp only [h6] at hK ⊢
      go_simp
      apply hK
      · simp only [Act.put, zSa, zSz, zSs]
        exact rfl
      · exact CB.refl _ _
      · exact IsOut
    refine ⟨fun u W hb hd K hK => ?_, ?_⟩
    · simp only [Facts, nthR, Is, and_true] at hd
      have h7 := hd
      clear hd
      simp only [h7] at hK ⊢
      have hc := (hM.below hb).age
      go_simp
      apply hK
      · simp only [Act.put, zSa, zSz, zSs]
        exact rfl
      · exact CB.refl _ _
      · exact IsOut
    refine ⟨fun u W hb hd K hK => ?_, ?_⟩
    · simp only [Facts, nthR, Is, and_true] at hd
      have h8 := hd
      clear hd
      simp only [h8] at hK ⊢
      go_simp
      refine (number_i 4 m.age _ (by decide) Hage.out.1 Hage.out.2).mono ?_
      rintro e wy ⟨r, rfl, hB, hby⟩
      exact hK _ _ _ rfl (CB.of hby hb.size) hB.sl
    refine ⟨fun u W hb hd K hK => ?_, ?_⟩
    · clear hd
      go_simp
      apply hK
      · simp only [Act.put, zSa, zSz, zSs]
        exact rfl
      · exact CB.refl _ _
      · exact IsOut
    refine ⟨fun u W hb hd K hK => ?_, ?_⟩
    · simp only [Facts, nthR, Is, and_true] at hd
      have h10 := hd
      clear hd
      simp only [h10] at hK ⊢
      go_simp
      apply hK
      · simp only [Act.put, zSa, zSz, zSs]
        exact rfl
      · exact CB.refl _ _
      · exact IsOut
    refine ⟨fun u W hb hd K hK => ?_, ?_⟩
    · simp only [Facts, nthR, Is, and_true] at hd
      have h11 := hd
      clear hd
      simp only [h11] at hK ⊢
      go_simp
      apply hK
      · simp only [Act.put, zSa, zSz, zSs]
        exact rfl
      · exact CB.refl _ _
      · exact IsOut
    refine ⟨fun u W hb hd K hK => ?_, ?_⟩
    · simp only [Facts, nthR, Is, and_true] at hd
      have h12 := hd
      clear hd
      simp only [h12] at hK ⊢
      obtain ⟨v, hc, hv⟩ := (hM.below hb).non
      go_simp
      exact hK _ _ _ rfl (CB.refl _ _) hv
    refine ⟨fun u W hb hd K hK => ?_, ?_⟩
    · simp only [Facts, nthR, and_true] at hd
      have h13 := hd
      clear hd
      obtain ⟨A0, c0, e0, f0⟩ := h13
      simp only [e0] at hK ⊢
      rw [if_pos (by rfl)]
      refine wp_rowsc [.slice A0 (m.non).length c0] [m.non] rfl rfl (by decide) [(0, .slice A0 (m.non).length c0)] (by rw [Array.toList_map]; rfl) (rows1 _ _ _) ⟨⟨_, _, rfl, f0⟩, trivial⟩ (fun v w' h1 h2 => ?_)
      exact hK _ _ _ rfl (CB.of h2 hb.size) h1
    refine ⟨fun u W hb hd K hK => ?_, ?_⟩
    · simp only [Facts, nthR, and_true] at hd
      have h14 := hd
      clear hd
      go_simp
      refine (counted_e 1 [m.non] _ _ h14 (by decide) (by simp only [List.flatten_cons, List.flatten_nil, List.append_nil]; have hsz := HL.out; omega)).mono ?_
      rintro e wy ⟨r, rfl, hB, hby⟩
      exact hK _ _ _ rfl (CB.of hby hb.size) hB.sl
    refine ⟨fun u W hb hd K hK => ?_, ?_⟩
    · clear hd
      go_simp
      apply hK
      · simp only [Act.put, zSa, zSz, zSs]
        exact rfl
      · exact CB.refl _ _
      · exact IsOut
    refine ⟨fun u W hb hd K hK => ?_, ?_⟩
    · simp only [Facts, nthR, Is, and_true] at hd
      have h16 := hd
      clear hd
      simp only [h16] at hK ⊢
      go_simp
      apply hK
      · simp only [Act.put, zSa, zSz, zSs]
        exact rfl
      · exact CB.refl _ _
      · exact IsOut
    refine ⟨fun u W hb hd K hK => ?_, ?_⟩
    · simp only [Facts, nthR, Is, and_true] at hd
      have h17 := hd
      clear hd
      simp only [h17] at hK ⊢
      go_simp
      apply hK
      · simp only [Act.put, zSa, zSz, zSs]
        exact rfl
      · exact CB.refl _ _
      · exact IsOut
    refine ⟨fun u W hb hd K hK => ?_, ?_⟩
    · simp only [Facts, nthR, Is, and_true] at hd
      have h18 := hd
      clear hd
      simp only [h18] at hK ⊢
      obtain ⟨v, hc, hv⟩ := (hM.below hb).tic
      go_simp
      exact hK _ _ _ rfl (CB.refl _ _) hv
    refine ⟨fun u W hb hd K hK => ?_, ?_⟩
    · simp only [Facts, nthR, and_true] at hd
      have h19 := hd
      clear hd
      obtain ⟨A0, c0, e0, f0⟩ := h19
      simp only [e0] at hK ⊢
      rw [if_pos (by rfl)]
      refine wp_rowsc [.slice A0 (m.tic).length c0] [m.tic] rfl rfl (by decide) [(0, .slice A0 (m.tic).length c0)] (by rw [Array.toList_map]; rfl) (rows1 _ _ _) ⟨⟨_, _, rfl, f0⟩, trivial⟩ (fun v w' h1 h2 => ?_)
      exact hK _ _ _ rfl (CB.of h2 hb.size) h1
    refine ⟨fun u W hb hd K hK => ?_, ?_⟩
    · simp only [Facts, nthR, and_true] at hd
      have h20 := hd
      clear hd
      go_simp
      refine (counted_e 2 [m.tic] _ _ h20 (by decide) (by simp only [List.flatten_cons, List.flatten_nil, List.append_nil]; have hsz := HL.out; omega)).mono ?_
      rintro e wy ⟨r, rfl, hB, hby⟩
      exact hK _ _ _ rfl (CB.of hby hb.size) hB.sl
    refine ⟨fun u W hb hd K hK => ?_, ?_⟩
    · clear hd
      rw [if_pos (by rfl)]
      refine wp_bytescK [0, 0] _ hb.size rfl rfl (by decide) (by kernel_rfl) (fun v w' h1 h2 => ?_)
      exact hK _ _ _ rfl (CB.of h2 hb.size) h1
    refine ⟨fun u W hb hd K hK => ?_, ?_⟩
    · simp only [Facts, nthR, and_true] at hd
      have h22 := hd
      clear hd
      rw [if_pos (by rfl)]
      refine wp_constK rfl rfl h22 (fun v w' h1 h2 => ?_)
      exact hK _ _ _ rfl h2 h1
    refine ⟨fun u W hb hd K hK => ?_, ?_⟩
    · simp only [Facts, nthR, and_true] at hd
      obtain ⟨h4, h9, h15, h21, h23⟩ := hd
      obtain ⟨A0, c0, e0, f0⟩ := h4
      obtain ⟨A1, c1, e1, f1⟩ := h9
      obtain ⟨A2, c2, e2, f2⟩ := h15
      obtain ⟨A3, c3, e3, f3⟩ := h21
      obtain ⟨A4, c4, e4, f4⟩ := h23.sl
      simp only [e0, e1, e2, e3, e4] at hK ⊢
      rw [if_pos (by rfl)]
      refine wp_rowsc [.slice A0 (numB 4 m.life.toNat).length c0, .slice A1 (numB 4 m.age.toNat).length c1, .slice A2 (vecB 1 ([m.non]).flatten).length c2, .slice A3 (vecB 2 ([m.tic]).flatten).length c3, .slice A4 ([0, 0]).length c4] [numB 4 m.life.toNat, numB 4 m.age.toNat, vecB 1 ([m.non]).flatten, vecB 2 ([m.tic]).flatten, [0, 0]] rfl rfl (by decide) [(0, .slice A0 (numB 4 m.life.toNat).length c0), (1, .slice A1 (numB 4 m.age.toNat).length c1), (2, .slice A2 (vecB 1 ([m.non]).flatten).length c2), (3, .slice A3 (vecB 2 ([m.tic]).flatten).length c3), (4, .slice A4 ([0, 0]).length c4)] (by rw [Array.toList_map]; rfl) (rows5 _ _ _ _ _ _ _ _ _ _ _ _ _ _ _) ⟨⟨_, _, rfl, f0⟩, ⟨_, _, rfl, f1⟩, ⟨_, _, rfl, f2⟩, ⟨_, _, rfl, f3⟩, ⟨_, _, rfl, f4⟩, trivial⟩ (fun v w' h1 h2 => ?_)
      exact hK _ _ _ rfl (CB.of h2 hb.size) h1
    refine ⟨fun u W hb hd K hK => ?_, ?_⟩
    · simp only [Facts, nthR, and_true] at hd
      have h24 := hd
      clear hd
      go_simp
      refine (concat_e [numB 4 m.life.toNat, numB 4 m.age.toNat, vecB 1 ([m.non]).flatten, vecB 2 ([m.tic]).flatten, [0, 0]] _ _ h24 (by simp only [List.flatten_cons, List.flatten_nil, List.length_append, List.length_cons, List.length_nil, vecB_length, numB_length, List.append_nil]; have hsz := HL.out; omega)).mono ?_
      rintro e wy ⟨r, rfl, hB, hby⟩
      exact hK _ _ _ rfl (CB.of hby hb.size) hB.sl
    exact trivial
  · skip
    exact trivial
  · exact (.is (.is (.is (.is (.cons (fun _ _ _ h hb => h.cb hb) (.is (.is (.is (.is (.cons (fun _ _ _ h hb => h.cb hb) (.is (.is (.is (.cons (fun _ _ _ h hb => h.cb hb) (.cons (fun _ _ _ h hb => h.cb hb) (.cons (fun _ _ _ h hb => h.cb hb) (.is (.is (.is (.cons (fun _ _ _ h hb => h.cb hb) (.cons (fun _ _ _ h hb => h.cb hb) (.cons (fun _ _ _ h hb => h.cb hb) (.cons (fun _ _ _ h hb => h.cb hb) (.cons (fun _ _ _ h hb => h.cb hb) (.cons (fun _ _ _ h hb => h.cb hb) (.cons (fun _ _ _ h hb => h.cb hb) .nil))))))))))))))))))))))))))
  intro u w1 hb hd
  simp only [List.drop_succ_cons, List.drop_zero]
  simp only [Facts, nthR, and_true] at hd
  have h25 := hd
  clear hd
  obtain ⟨vx1, e25⟩ : ∃ v, u 25 = v := ⟨_, rfl⟩
  rw [e25] at h25
  simp only [e25]
  clear e25
  have fx1 := h25
  clear h25
  replace hM := hM.below hb
  replace hb0 := hb0.trans (hb.mono hb0.size)
  clear hb
  go_wp2
  refine bodyPost_ret (results_tmp Tryd.results38 _ _ _) rfl ?_
  exact ⟨_, rfl, by simpa [bodyM, hk, ticketB, abil] using fx1, hb0⟩
set_option maxRecDepth 100000 in
set_option maxHeartbeats 400000 in
theorem body_8 (m : Msg) (g : Nat) (w : World) (_hT : TabH w) (hM : MAt w g m) (hk : m.kind = 8) (hf : formM m = true) : Calls Tryd.prog 38 #[.pointer (some ⟨g, 0, none⟩)] w fun e w' => ∃ r, e = .returned r ∧ SlV w' r (bodyM m) ∧ Below w.heap.size w w' := by
  have hc1 := hM.kind
  rw [hk] at hc1
  have hz := form_sz hf
  have hl := hM.lens
  have HL := Lib.hid (show m.ses.length ≤ 32 ∧ m.sha.length ≤ 65 ∧ m.tic.length ≤ 1000 ∧ m.non.length ≤ 8 ∧ m.sig.length ≤ 100 ∧ (chainB m.certs).length ≤ 20000 ∧ m.rnd.length = 32 ∧ m.mark.length = 32 ∧ (sharesB m).length ≤ 69 ∧ (offeredB m).length ≤ 2000 by
    have h1 := HelloMath.chain_le m.certs hz.2.2.2.2.2.2
    have h2 := shares_le m
    have h3 := offered_le m
    omega)
  clear hz hl
  go_enter Tryd.func38, Tryd.ntmps38
  have hb0 : Below w.heap.size w w := Below.refl _ _
  go_upto_region 9 with (fail)
  apply wp_plain_onceK (m := 2) (J := [[], [0]]) (Je := [1]) (Rs := [fun v V => FrV w.heap.size V v ([0, 0]), fun v V => FrV w.heap.size V v ([0, 0])])
  · kernel_rfl
  · kernel_rfl
  · intro u
    simp only [List.take_succ_cons, List.take_zero, List.map_cons, List.map_nil, fillU, List.setIfInBounds_toArray, List.set_cons_zero, List.set_cons_succ, Nat.reduceAdd]
    exact rfl
  · simp only [List.take_succ_cons, List.take_zero]
    refine ⟨fun u W hb hd K hK => ?_, ?_⟩
    · clear hd
      rw [if_pos (by rfl)]
      refine wp_bytescK [0, 0] _ hb.size rfl rfl (by decide) (by kernel_rfl) (fun v w' h1 h2 => ?_)
      exact hK _ _ _ rfl (CB.of h2 hb.size) h1
    refine ⟨fun u W hb hd K hK => ?_, ?_⟩
    · simp only [Facts, nthR, and_true] at hd
      have h0 := hd
      clear hd
      rw [if_pos (by rfl)]
      refine wp_constK rfl rfl h0 (fun v w' h1 h2 => ?_)
      exact hK _ _ _ rfl h2 h1
    exact trivial
  · exact (.cons (fun _ _ _ h hb => h.cb hb) (.cons (fun _ _ _ h hb => h.cb hb) .nil))
  intro u w1 hb hd
  simp only [List.drop_succ_cons, List.drop_zero]
  simp only [Facts, nthR, and_true] at hd
  have h1 := hd
  clear hd
  obtain ⟨vx1, e1⟩ : ∃ v, u 1 = v := ⟨_, rfl⟩
  rw [e1] at h1
  simp only [e1]
  clear e1
  have fx1 := h1
  clear h1
  replace hM := hM.below hb
  replace hb0 := hb0.trans (hb.mono hb0.size)
  clear hb
  go_wp2
  refine bodyPost_ret (results_tmp Tryd.results38 _ _ _) rfl ?_
  exact ⟨_, rfl, by simpa [bodyM, hk] using fx1.sl, hb0⟩
set_option maxRecDepth 100000 in
set_option maxHeartbeats 400000 in
theorem body_11 (m : Msg) (g : Nat) (w : World) (_hT : TabH w) (hM : MAt w g m) (hk : m.kind = 11) (hf : formM m = true) : Calls Tryd.prog 38 #[.pointer (some ⟨g, 0, none⟩)] w fun e w' => ∃ r, e = .returned r ∧ SlV w' r (bodyM m) ∧ Below w.heap.size w w' := by
  have hc1 := hM.kind
  rw [hk] at hc1
  have hz := form_sz hf
  have hl := hM.lens
  have HL := Lib.hid (show m.ses.length ≤ 32 ∧ m.sha.length ≤ 65 ∧ m.tic.length ≤ 1000 ∧ m.non.length ≤ 8 ∧ m.sig.length ≤ 100 ∧ (chainB m.certs).length ≤ 20000 ∧ m.rnd.length = 32 ∧ m.mark.length = 32 ∧ (sharesB m).length ≤ 69 ∧ (offeredB m).length ≤ 2000 by
    have h1 := HelloMath.chain_le m.certs hz.2.2.2.2.2.2
    have h2 := shares_le m
    have h3 := offered_le m
    omega)
  have HC := Lib.hid (show m.certs.length ≤ 5 ∧ ∀ c ∈ m.certs, c.length ≤ 2048 from hz.2.2.2.2.2)
  clear hz hl
  go_enter Tryd.func38, Tryd.ntmps38
  have hb0 : Below w.heap.size w w := Below.refl _ _
  go_upto_region 11 with (fail)
  apply wp_plain_onceK (m := 8) (J := [[], [0], [], [2], [3], [4], [1, 5], [6]]) (Je := [7]) (Rs := [fun v V => FrV w.heap.size V v ([0]), fun v V => FrV w.heap.size V v ([0]), Is _, fun v V => SlV V v (chainB m.certs), fun v V => RowV V v ([chainB m.certs]), fun v V => SlV V v (vecB 3 ([chainB m.certs]).flatten), fun v V => RowV V v ([[0], vecB 3 ([chainB m.certs]).flatten]), fun v V => SlV V v (([[0], vecB 3 ([chainB m.certs]).flatten]).flatten)])
  · kernel_rfl
  · kernel_rfl
  · intro u
    simp only [List.take_succ_cons, List.take_zero, List.map_cons, List.map_nil, fillU, List.setIfInBounds_toArray, List.set_cons_zero, List.set_cons_succ, Nat.reduceAdd]
    exact rfl
  · simp only [List.take_succ_cons, List.take_zero]
    refine ⟨fun u W hb hd K hK => ?_, ?_⟩
    · clear hd
      rw [if_pos (by rfl)]
      refine wp_bytescK [0] _ hb.size rfl rfl (by decide) (by kernel_rfl) (fun v w' h1 h2 => ?_)
      exact hK _ _ _ rfl (CB.of h2 hb.size) h1
    refine ⟨fun u W hb hd K hK => ?_, ?_⟩
    · simp only [Facts, nthR, and_true] at hd
      have h0 := hd
      clear hd
      rw [if_pos (by rfl)]
      refine wp_constK rfl rfl h0 (fun v w' h1 h2 => ?_)
      exact hK _ _ _ rfl h2 h1
    refine ⟨fun u W hb hd K hK => ?_, ?_⟩
    · clear hd
      go_simp
      apply hK
      · simp only [Act.put, zSa, zSz, zSs]
        exact rfl
      · exact CB.refl _ _
      · exact IsOut
    refine ⟨fun u W hb hd K hK => ?_, ?_⟩
    · simp only [Facts, nthR, Is, and_true] at hd
      have h2 := hd
      clear hd
      simp only [h2] at hK ⊢
      go_simp
      refine (chain_e m g _ (hM.below hb) HC).mono ?_
      rintro e wy ⟨r, rfl, hB, hby⟩
      exact hK _ _ _ rfl (CB.of hby hb.size) hB
    refine ⟨fun u W hb hd K hK => ?_, ?_⟩
    · simp only [Facts, nthR, and_true] at hd
      have h3 := hd
      clear hd
      obtain ⟨A0, c0, e0, f0⟩ := h3
      simp only [e0] at hK ⊢
      rw [if_pos (by rfl)]
      refine wp_rowsc [.slice A0 (chainB m.certs).length c0] [chainB m.certs] rfl rfl (by decide) [(0, .slice A0 (chainB m.certs).length c0)] (by rw [Array.toList_map]; rfl) (rows1 _ _ _) ⟨⟨_, _, rfl, f0⟩, trivial⟩ (fun v w' h1 h2 => ?_)
      exact hK _ _ _ rfl (CB.of h2 hb.size) h1
    refine ⟨fun u W hb hd K hK => ?_, ?_⟩
    · simp only [Facts, nthR, and_true] at hd
      have h4 := hd
      clear hd
      go_simp
      refine (counted_e 3 [chainB m.certs] _ _ h4 (by decide) (by simp only [List.flatten_cons, List.flatten_nil, List.append_nil]; have hsz := HL.out; omega)).mono ?_
      rintro e wy ⟨r, rfl, hB, hby⟩
      exact hK _ _ _ rfl (CB.of hby hb.size) hB.sl
    refine ⟨fun u W hb hd K hK => ?_, ?_⟩
    · simp only [Facts, nthR, and_true] at hd
      obtain ⟨h1, h5⟩ := hd
      obtain ⟨A0, c0, e0, f0⟩ := h1.sl
      obtain ⟨A1, c1, e1, f1⟩ := h5
      simp only [e0, e1] at hK ⊢
      rw [if_pos (by rfl)]
      refine wp_rowsc [.slice A0 ([0]).length c0, .slice A1 (vecB 3 ([chainB m.certs]).flatten).length c1] [[0], vecB 3 ([chainB m.certs]).flatten] rfl rfl (by decide) [(0, .slice A0 ([0]).length c0), (1, .slice A1 (vecB 3 ([chainB m.certs]).flatten).length c1)] (by rw [Array.toList_map]; rfl) (rows2 _ _ _ _ _ _) ⟨⟨_, _, rfl, f0⟩, ⟨_, _, rfl, f1⟩, trivial⟩ (fun v w' h1 h2 => ?_)
      exact hK _ _ _ rfl (CB.of h2 hb.size) h1
    refine ⟨fun u W hb hd K hK => ?_, ?_⟩
    · simp only [Facts, nthR, and_true] at hd
      have h6 := hd
      clear hd
      go_simp
      refine (concat_e [[0], vecB 3 ([chainB m.certs]).flatten] _ _ h6 (by simp only [List.flatten_cons, List.flatten_nil, List.length_append, List.length_cons, List.length_nil, vecB_length, List.append_nil]; have hsz := HL.out; omega)).mono ?_
      rintro e wy ⟨r, rfl, hB, hby⟩
      exact hK _ _ _ rfl (CB.of hby hb.size) hB.sl
    exact trivial
  · exact (.cons (fun _ _ _ h hb => h.cb hb) (.cons (fun _ _ _ h hb => h.cb hb) (.is (.cons (fun _ _ _ h hb => h.cb hb) (.cons (fun _ _ _ h hb => h.cb hb) (.cons (fun _ _ _ h hb => h.cb hb) (.cons (fun _ _ _ h hb => h.cb hb) (.cons (fun _ _ _ h hb => h.cb hb) .nil))))))))
  intro u w1 hb hd
  simp only [List.drop_succ_cons, List.drop_zero]
  simp only [Facts, nthR, and_true] at hd
  have h7 := hd
  clear hd
  obtain ⟨vx1, e7⟩ : ∃ v, u 7 = v := ⟨_, rfl⟩
  rw [e7] at h7
  simp only [e7]
  clear e7
  have fx1 := h7
  clear h7
  replace hM := hM.below hb
  replace hb0 := hb0.trans (hb.mono hb0.size)
  clear hb
  go_wp2
  refine bodyPost_ret (results_tmp Tryd.results38 _ _ _) rfl ?_
  exact ⟨_, rfl, by simpa [bodyM, hk] using fx1, hb0⟩
set_option maxRecDepth 100000 in
set_option maxHeartbeats 400000 in
theorem body_13 (m : Msg) (g : Nat) (w : World) (_hT : TabH w) (hM : MAt w g m) (hk : m.kind = 13) (hf : formM m = true) : Calls Tryd.prog 38 #[.pointer (some ⟨g, 0, none⟩)] w fun e w' => ∃ r, e = .returned r ∧ SlV w' r (bodyM m) ∧ Below w.heap.size w w' := by
  have hc1 := hM.kind
  rw [hk] at hc1
  have hz := form_sz hf
  have hl := hM.lens
  have HL := Lib.hid (show m.ses.length ≤ 32 ∧ m.sha.length ≤ 65 ∧ m.tic.length ≤ 1000 ∧ m.non.length ≤ 8 ∧ m.sig.length ≤ 100 ∧ (chainB m.certs).length ≤ 20000 ∧ m.rnd.length = 32 ∧ m.mark.length = 32 ∧ (sharesB m).length ≤ 69 ∧ (offeredB m).length ≤ 2000 by
    have h1 := HelloMath.chain_le m.certs hz.2.2.2.2.2.2
    have h2 := shares_le m
    have h3 := offered_le m
    omega)
  clear hz hl
  go_enter Tryd.func38, Tryd.ntmps38
  have hb0 : Below w.heap.size w w := Below.refl _ _
  go_upto_region 13 with (fail)
  apply wp_plain_onceK (m := 2) (J := [[], [0]]) (Je := [1]) (Rs := [fun v V => FrV w.heap.size V v ([0, 0, 8, 0, 13, 0, 4, 0, 2, 4, 3]), fun v V => FrV w.heap.size V v ([0, 0, 8, 0, 13, 0, 4, 0, 2, 4, 3])])
  · kernel_rfl
  · kernel_rfl
  · intro u
    simp only [List.take_succ_cons, List.take_zero, List.map_cons, List.map_nil, fillU, List.setIfInBounds_toArray, List.set_cons_zero, List.set_cons_succ, Nat.reduceAdd]
    exact rfl
  · simp only [List.take_succ_cons, List.take_zero]
    refine ⟨fun u W hb hd K hK => ?_, ?_⟩
    · clear hd
      rw [if_pos (by rfl)]
      refine wp_bytescK [0, 0, 8, 0, 13, 0, 4, 0, 2, 4, 3] _ hb.size rfl rfl (by decide) (by kernel_rfl) (fun v w' h1 h2 => ?_)
      exact hK _ _ _ rfl (CB.of h2 hb.size) h1
    refine ⟨fun u W hb hd K hK => ?_, ?_⟩
    · simp only [Facts, nthR, and_true] at hd
      have h0 := hd
      clear hd
      rw [if_pos (by rfl)]
      refine wp_constK rfl rfl h0 (fun v w' h1 h2 => ?_)
      exact hK _ _ _ rfl h2 h1
    exact trivial
  · exact (.cons (fun _ _ _ h hb => h.cb hb) (.cons (fun _ _ _ h hb => h.cb hb) .nil))
  intro u w1 hb hd
  simp only [List.drop_succ_cons, List.drop_zero]
  simp only [Facts, nthR, and_true] at hd
  have h1 := hd
  clear hd
  obtain ⟨vx1, e1⟩ : ∃ v, u 1 = v := ⟨_, rfl⟩
  rw [e1] at h1
  simp only [e1]
  clear e1
  have fx1 := h1
  clear h1
  replace hM := hM.below hb
  replace hb0 := hb0.trans (hb.mono hb0.size)
  clear hb
  go_wp2
  refine bodyPost_ret (results_tmp Tryd.results38 _ _ _) rfl ?_
  exact ⟨_, rfl, by simpa [bodyM, hk] using fx1.sl, hb0⟩
set_option maxRecDepth 100000 in
set_option maxHeartbeats 400000 in
theorem body_15 (m : Msg) (g : Nat) (w : World) (_hT : TabH w) (hM : MAt w g m) (hk : m.kind = 15) (hf : formM m = true) : Calls Tryd.prog 38 #[.pointer (some ⟨g, 0, none⟩)] w fun e w' => ∃ r, e = .returned r ∧ SlV w' r (bodyM m) ∧ Below w.heap.size w w' := by
  have hc1 := hM.kind
  rw [hk] at hc1
  have hz := form_sz hf
  have hl := hM.lens
  have HL := Lib.hid (show m.ses.length ≤ 32 ∧ m.sha.length ≤ 65 ∧ m.tic.length ≤ 1000 ∧ m.non.length ≤ 8 ∧ m.sig.length ≤ 100 ∧ (chainB m.certs).length ≤ 20000 ∧ m.rnd.length = 32 ∧ m.mark.length = 32 ∧ (sharesB m).length ≤ 69 ∧ (offeredB m).length ≤ 2000 by
    have h1 := HelloMath.chain_le m.certs hz.2.2.2.2.2.2
    have h2 := shares_le m
    have h3 := offered_le m
    omega)
  clear hz hl
  go_enter Tryd.func38, Tryd.ntmps38
  have hb0 : Below w.heap.size w w := Below.refl _ _
  go_upto_region 15 with (fail)
  apply wp_plain_onceK (m := 10) (J := [[], [0], [], [2], [3], [4], [5], [6], [1, 7], [8]]) (Je := [9]) (Rs := [fun v V => FrV w.heap.size V v ([4, 3]), fun v V => FrV w.heap.size V v ([4, 3]), Is _, Is _, Is _, fun v V => SlV V v (m.sig), fun v V => RowV V v ([m.sig]), fun v V => SlV V v (vecB 2 ([m.sig]).flatten), fun v V => RowV V v ([[4, 3], vecB 2 ([m.sig]).flatten]), fun v V => SlV V v (([[4, 3], vecB 2 ([m.sig]).flatten]).flatten)])
  · kernel_rfl
  · kernel_rfl
  · intro u
    simp only [List.take_succ_cons, List.take_zero, List.map_cons, List.map_nil, fillU, List.setIfInBounds_toArray, List.set_cons_zero, List.set_cons_succ, Nat.reduceAdd]
    exact rfl
  · simp only [List.take_succ_cons, List.take_zero]
    refine ⟨fun u W hb hd K hK => ?_, ?_⟩
    · clear hd
      rw [if_pos (by rfl)]
      refine wp_bytescK [4, 3] _ hb.size rfl rfl (by decide) (by kernel_rfl) (fun v w' h1 h2 => ?_)
      exact hK _ _ _ rfl (CB.of h2 hb.size) h1
    refine ⟨fun u W hb hd K hK => ?_, ?_⟩
    · simp only [Facts, nthR, and_true] at hd
      have h0 := hd
      clear hd
      rw [if_pos (by rfl)]
      refine wp_constK rfl rfl h0 (fun v w' h1 h2 => ?_)
      exact hK _ _ _ rfl h2 h1
    refine ⟨fun u W hb hd K hK => ?_, ?_⟩
    · clear hd
      go_simp
      apply hK
      · simp only [Act.put, zSa, zSz, zSs]
        exact rfl
      · exact CB.refl _ _
      · exact IsOut
    refine ⟨fun u W hb hd K hK => ?_, ?_⟩
    · simp only [Facts, nthR, Is, and_true] at hd
      have h2 := hd
      clear hd
      simp only [h2] at hK ⊢
      go_simp
      apply hK
      · simp only [Act.put, zSa, zSz, zSs]
        exact rfl
      · exact CB.refl _ _
      · exact IsOut
    refine ⟨fun u W hb hd K hK => ?_, ?_⟩
    · simp only [Facts, nthR, Is, and_true] at hd
      have h3 := hd
      clear hd
      simp only [h3] at hK ⊢
      go_simp
      apply hK
      · simp only [Act.put, zSa, zSz, zSs]
        exact rfl
      · exact CB.refl _ _
      · exact IsOut
    refine ⟨fun u W hb hd K hK => ?_, ?_⟩
    · simp only [Facts, nthR, Is, and_true] at hd
      have h4 := hd
      clear hd
      simp only [h4] at hK ⊢
      obtain ⟨v, hc, hv⟩ := (hM.below hb).sig
      go_simp
      exact hK _ _ _ rfl (CB.refl _ _) hv
    refine ⟨fun u W hb hd K hK => ?_, ?_⟩
    · simp only [Facts, nthR, and_true] at hd
      have h5 := hd
      clear hd
      obtain ⟨A0, c0, e0, f0⟩ := h5
      simp only [e0] at hK ⊢
      rw [if_pos (by rfl)]
      refine wp_rowsc [.slice A0 (m.sig).length c0] [m.sig] rfl rfl (by decide) [(0, .slice A0 (m.sig).length c0)] (by rw [Array.toList_map]; rfl) (rows1 _ _ _) ⟨⟨_, _, rfl, f0⟩, trivial⟩ (fun v w' h1 h2 => ?_)
      exact hK _ _ _ rfl (CB.of h2 hb.size) h1
    refine ⟨fun u W hb hd K hK => ?_, ?_⟩
    · simp only [Facts, nthR, and_true] at hd
      have h6 := hd
      clear hd
      go_simp
      refine (counted_e 2 [m.sig] _ _ h6 (by decide) (by simp only [List.flatten_cons, List.flatten_nil, List.append_nil]; have hsz := HL.out; omega)).mono ?_
      rintro e wy ⟨r, rfl, hB, hby⟩
      exact hK _ _ _ rfl (CB.of hby hb.size) hB.sl
    refine ⟨fun u W hb hd K hK => ?_, ?_⟩
    · simp only [Facts, nthR, and_true] at hd
      obtain ⟨h1, h7⟩ := hd
      obtain ⟨A0, c0, e0, f0⟩ := h1.sl
      obtain ⟨A1, c1, e1, f1⟩ := h7
      simp only [e0, e1] at hK ⊢
      rw [if_pos (by rfl)]
      refine wp_rowsc [.slice A0 ([4, 3]).length c0, .slice A1 (vecB 2 ([m.sig]).flatten).length c1] [[4, 3], vecB 2 ([m.sig]).flatten] rfl rfl (by decide) [(0, .slice A0 ([4, 3]).length c0), (1, .slice A1 (vecB 2 ([m.sig]).flatten).length c1)] (by rw [Array.toList_map]; rfl) (rows2 _ _ _ _ _ _) ⟨⟨_, _, rfl, f0⟩, ⟨_, _, rfl, f1⟩, trivial⟩ (fun v w' h1 h2 => ?_)
      exact hK _ _ _ rfl (CB.of h2 hb.size) h1
    refine ⟨fun u W hb hd K hK => ?_, ?_⟩
    · simp only [Facts, nthR, and_true] at hd
      have h8 := hd
      clear hd
      go_simp
      refine (concat_e [[4, 3], vecB 2 ([m.sig]).flatten] _ _ h8 (by simp only [List.flatten_cons, List.flatten_nil, List.length_append, List.length_cons, List.length_nil, vecB_length, List.append_nil]; have hsz := HL.out; omega)).mono ?_
      rintro e wy ⟨r, rfl, hB, hby⟩
      exact hK _ _ _ rfl (CB.of hby hb.size) hB.sl
    exact trivial
  · exact (.cons (fun _ _ _ h hb => h.cb hb) (.cons (fun _ _ _ h hb => h.cb hb) (.is (.is (.is (.cons (fun _ _ _ h hb => h.cb hb) (.cons (fun _ _ _ h hb => h.cb hb) (.cons (fun _ _ _ h hb => h.cb hb) (.cons (fun _ _ _ h hb => h.cb hb) (.cons (fun _ _ _ h hb => h.cb hb) .nil))))))))))
  intro u w1 hb hd
  simp only [List.drop_succ_cons, List.drop_zero]
  simp only [Facts, nthR, and_true] at hd
  have h9 := hd
  clear hd
  obtain ⟨vx1, e9⟩ : ∃ v, u 9 = v := ⟨_, rfl⟩
  rw [e9] at h9
  simp only [e9]
  clear e9
  have fx1 := h9
  clear h9
  replace hM := hM.below hb
  replace hb0 := hb0.trans (hb.mono hb0.size)
  clear hb
  go_wp2
  refine bodyPost_ret (results_tmp Tryd.results38 _ _ _) rfl ?_
  exact ⟨_, rfl, by simpa [bodyM, hk] using fx1, hb0⟩
end Go.Proofs.YtagblbfbjemfhaaDoor
