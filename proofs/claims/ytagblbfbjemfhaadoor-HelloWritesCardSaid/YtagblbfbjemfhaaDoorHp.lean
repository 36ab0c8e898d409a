/-
  Package hello's whole and Write: of a message in form its bytes, else an error.
-/
import Derived.Test.YtagblbfbjemfhaaDoorHo
namespace Go.Proofs.YtagblbfbjemfhaaDoor
open Go.RowKit
open HelloMath (numB numB_length vecB vecB_length Msg special zero32 chainB formM bodyM wholeM kinds form_kind isKind)

set_option maxRecDepth 100000 in
set_option maxHeartbeats 400000 in
theorem body_20 (m : Msg) (g : Nat) (w : World) (hM : MAt w g m) (hk : m.kind = 20) : Calls Tryd.prog 38 #[.pointer (some ⟨g, 0, none⟩)] w fun e w' => ∃ r, e = .returned r ∧ SlV w' r (bodyM m) ∧ Below w.heap.size w w' := by
  have hc1 := hM.kind
  rw [hk] at hc1
  have hl := hM.lens
  have HL := Lib.hid hl.2
  clear hl
  go_enter Tryd.func38, Tryd.ntmps38
  have hb0 : Below w.heap.size w w := Below.refl _ _
  go_upto_region 17 with (fail)
  apply wp_plain_onceK (m := 5) (J := [[], [0], [1], [2], [3]]) (Je := [4]) (Rs := [Is _, Is _, Is _, fun v V => SlV V v (m.mark), fun v V => SlV V v (m.mark)])
  · kernel_rfl
  · kernel_rfl
  · intro u
    simp only [List.take_succ_cons, List.take_zero, List.map_cons, List.map_nil, fillU, List.setIfInBounds_toArray, List.set_cons_zero, List.set_cons_succ, Nat.reduceAdd]
    exact rfl
  · simp only [List.take_succ_cons, List.take_zero]
    refine ⟨fun u W hb hd K hK => ?_, ?_⟩
    · clear hd
      go_simp
      apply hK
      · simp only [Act.put, zSa, zSz, zSs]
        exact rfl
      · exact CB.refl _ _
      · exact IsOut
    refine ⟨fun u W hb hd K hK => ?_, ?_⟩
    · simp only [Facts, nthR, Is, and_true] at hd
      have h0 := hd
      clear hd
      simp only [h0] at hK ⊢
      go_simp
      apply hK
      · simp only [Act.put, zSa, zSz, zSs]
        exact rfl
      · exact CB.refl _ _
      · exact IsOut
    refine ⟨fun u W hb hd K hK => ?_, ?_⟩
    · simp only [Facts, nthR, Is, and_true] at hd
      have h1 := hd
      clear hd
      simp only [h1] at hK ⊢
      go_simp
      apply hK
      · simp only [Act.put, zSa, zSz, zSs]
        exact rfl
      · exact CB.refl _ _
      · exact IsOut
    refine ⟨fun u W hb hd K hK => ?_, ?_⟩
    · simp only [Facts, nthR, Is, and_true] at hd
      have h2 := hd
      clear hd
      simp only [h2] at hK ⊢
      rw [if_pos (by rfl)]
      refine wp_rowOf rfl Tryd.underlying22 (fun w => size8 w) rfl ?_
      exact hK _ _ _ rfl (CB.refl _ _) (hM.below hb).markV
    refine ⟨fun u W hb hd K hK => ?_, ?_⟩
    · simp only [Facts, nthR, and_true] at hd
      have h3 := hd
      clear hd
      go_simp
      refine (clone2V _ (m.mark) _ h3 (by have hsz := HL.out; omega)).mono ?_
      rintro e wy ⟨r, rfl, hB, hby⟩
      exact hK _ _ _ rfl (CB.of hby hb.size) hB.sl
    exact trivial
  · exact (.is (.is (.is (.cons (fun _ _ _ h hb => h.cb hb) (.cons (fun _ _ _ h hb => h.cb hb) .nil)))))
  intro u w1 hb hd
  simp only [List.drop_succ_cons, List.drop_zero]
  simp only [Facts, nthR, and_true] at hd
  have h4 := hd
  clear hd
  obtain ⟨vx1, e4⟩ : ∃ v, u 4 = v := ⟨_, rfl⟩
  rw [e4] at h4
  simp only [e4]
  clear e4
  have fx1 := h4
  clear h4
  replace hM := hM.below hb
  replace hb0 := hb0.trans (hb.mono hb0.size)
  clear hb
  go_wp2
  refine bodyPost_ret (results_tmp Tryd.results38 _ _ _) rfl ?_
  exact ⟨_, rfl, by simpa [bodyM, hk] using fx1, hb0⟩
theorem body_e (m : Msg) (g : Nat) (w : World) (hT : TabH w) (hM : MAt w g m) (hf : formM m = true) : Calls Tryd.prog 38 #[.pointer (some ⟨g, 0, none⟩)] w fun e w' => ∃ r, e = .returned r ∧ SlV w' r (bodyM m) ∧ Below w.heap.size w w' := by
  rcases kinds (form_kind hf) with h | h | h | h | h | h | h | h
  · exact body_1 m g w hT hM h hf
  · exact body_2 m g w hT hM h hf
  · exact body_4 m g w hT hM h hf
  · exact body_8 m g w hT hM h hf
  · exact body_11 m g w hT hM h hf
  · exact body_13 m g w hT hM h hf
  · exact body_15 m g w hT hM h hf
  · exact body_20 m g w hM h
theorem kind_u8 {k : Int} (h : isKind k = true) : IntKind.u8.wrap k = ((UInt8.ofNat k.toNat).toNat : Int) := by
  have h1 := HelloMath.kind_byte h
  rw [UInt8.toNat_ofNat', IntKind.wrap_u8]
  omega
set_option maxRecDepth 100000 in
set_option maxHeartbeats 400000 in
theorem whole_e (m : Msg) (g : Nat) (w : World) (hT : TabH w) (hM : MAt w g m) (hf : formM m = true) : Calls Tryd.prog 23 #[.pointer (some ⟨g, 0, none⟩)] w fun e w' => ∃ r, e = .returned r ∧ BufV w' w.heap.size r (wholeM m) ∧ Below w.heap.size w w' := by
  have hl := hM.lens
  have HL := Lib.hid (HelloMath.body_le hf hl.1 hl.2)
  have hku := Lib.hid (kind_u8 (form_kind hf))
  clear hl
  go_enter Tryd.func23, Tryd.ntmps23
  have hb0 : Below w.heap.size w w := Below.refl _ _
  go_upto_region 1 with (fail)
  apply wp_region_once_tailK (m := 12) (Z := []) (D := [[], [0], [0, 1], [0, 1, 2], [0, 1, 2, 3], [0, 1, 2, 3, 4], [], [6], [6, 7], [6, 7, 8], [0, 1, 2, 3, 4, 5, 6, 7, 8, 9], [0, 1, 2, 3, 4, 5, 6, 7, 8, 9, 10], [0, 1, 2, 3, 4, 5, 6, 7, 8, 9, 10, 11]]) (J := [[], [0], [1], [2], [3], [4], [], [6], [7], [8], [5, 9], [10]]) (Je := [11]) (Rs := [Is _, Is _, Is _, Is _, Is _, fun v V => FrV w.heap.size V v ([UInt8.ofNat m.kind.toNat]), Is _, fun v V => SlV V v (bodyM m), fun v V => RowV V v ([bodyM m]), fun v V => SlV V v (vecB 3 ([bodyM m]).flatten), fun v V => RowV V v ([[UInt8.ofNat m.kind.toNat], vecB 3 ([bodyM m]).flatten]), fun v V => BufV V w.heap.size v (([[UInt8.ofNat m.kind.toNat], vecB 3 ([bodyM m]).flatten]).flatten)])
  · kernel_rfl
  · kernel_rfl
  · kernel_rfl
  · kernel_rfl
  · kernel_rfl
  · kernel_rfl
  · kernel_rfl
  · exact fun h => absurd rfl h
  · intro u
    simp only [List.take_succ_cons, List.take_zero, List.map_cons, List.map_nil, fillU, List.setIfInBounds_toArray, List.set_cons_zero, List.set_cons_succ, Nat.reduceAdd]
    exact rfl
  · simp only [List.take_succ_cons, List.take_zero]
    refine ⟨fun u W hb hd K hK => ?_, ?_⟩
    · clear hd
      go_simp
      apply hK
      · simp only [Act.put, zSa, zSz, zSs]
        exact rfl
      · exact CB.refl _ _
      · exact IsOut
    refine ⟨fun u W hb hd K hK => ?_, ?_⟩
    · simp only [Facts, nthR, Is, and_true] at hd
      have h0 := hd
      clear hd
      simp only [h0] at hK ⊢
      go_simp
      apply hK
      · simp only [Act.put, zSa, zSz, zSs]
        exact rfl
      · exact CB.refl _ _
      · exact IsOut
    refine ⟨fun u W hb hd K hK => ?_, ?_⟩
    · simp only [Facts, nthR, Is, and_true] at hd
      have h1 := hd
      clear hd
      simp only [h1] at hK ⊢
      go_simp
      apply hK
      · simp only [Act.put, zSa, zSz, zSs]
        exact rfl
      · exact CB.refl _ _
      · exact IsOut
    refine ⟨fun u W hb hd K hK => ?_, ?_⟩
    · simp only [Facts, nthR, Is, and_true] at hd
      have h2 := hd
      clear hd
      simp only [h2] at hK ⊢
      have hc := (hM.below hb).kind
      go_simp
      apply hK
      · simp only [Act.put, zSa, zSz, zSs]
        exact rfl
      · exact CB.refl _ _
      · exact IsOut
    refine ⟨fun u W hb hd K hK => ?_, ?_⟩
    · simp only [Facts, nthR, Is, and_true] at hd
      have h3 := hd
      clear hd
      simp only [h3] at hK ⊢
      go_simp
      apply hK
      · simp only [Act.put, zSa, zSz, zSs]
        exact rfl
      · exact CB.refl _ _
      · exact IsOut
    refine ⟨fun u W hb hd K hK => ?_, ?_⟩
    · simp only [Facts, nthR, Is, and_true] at hd
      have h4 := hd
      clear hd
      simp only [h4] at hK ⊢
      rw [if_pos (by rfl)]
      refine wp_bytescK [UInt8.ofNat m.kind.toNat] _ hb.size rfl rfl (by decide) (by rw [Array.toList_map]; exact (byte1 _).trans (by rw [hku.out]; rfl)) (fun v w' h1 h2 => ?_)
      exact hK _ _ _ rfl (CB.of h2 hb.size) h1
    refine ⟨fun u W hb hd K hK => ?_, ?_⟩
    · clear hd
      go_simp
      apply hK
      · simp only [Act.put, zSa, zSz, zSs]
        exact rfl
      · exact CB.refl _ _
      · exact IsOut
    refine ⟨fun u W hb hd K hK => ?_, ?_⟩
    · simp only [Facts, nthR, Is, and_true] at hd
      have h6 := hd
      clear hd
      simp only [h6] at hK ⊢
      go_simp
      refine (body_e m g _ (hT.below hb) (hM.below hb) hf).mono ?_
      rintro e wy ⟨r, rfl, hB, hby⟩
      exact hK _ _ _ rfl (CB.of hby hb.size) hB
    refine ⟨fun u W hb hd K hK => ?_, ?_⟩
    · simp only [Facts, nthR, and_true] at hd
      have h7 := hd
      clear hd
      obtain ⟨A0, c0, e0, f0⟩ := h7
      simp only [e0] at hK ⊢
      rw [if_pos (by rfl)]
      refine wp_rowsc [.slice A0 (bodyM m).length c0] [bodyM m] rfl rfl (by decide) [(0, .slice A0 (bodyM m).length c0)] (by rw [Array.toList_map]; rfl) (rows1 _ _ _) ⟨⟨_, _, rfl, f0⟩, trivial⟩ (fun v w' h1 h2 => ?_)
      exact hK _ _ _ rfl (CB.of h2 hb.size) h1
    refine ⟨fun u W hb hd K hK => ?_, ?_⟩
    · simp only [Facts, nthR, and_true] at hd
      have h8 := hd
      clear hd
      go_simp
      refine (counted_e 3 [bodyM m] _ _ h8 (by decide) (by simp only [List.flatten_cons, List.flatten_nil, List.append_nil]; have hsz := HL.out; omega)).mono ?_
      rintro e wy ⟨r, rfl, hB, hby⟩
      exact hK _ _ _ rfl (CB.of hby hb.size) hB.sl
    refine ⟨fun u W hb hd K hK => ?_, ?_⟩
    · simp only [Facts, nthR, and_true] at hd
      obtain ⟨h5, h9⟩ := hd
      obtain ⟨A0, c0, e0, f0⟩ := h5.sl
      obtain ⟨A1, c1, e1, f1⟩ := h9
      simp only [e0, e1] at hK ⊢
      rw [if_pos (by rfl)]
      refine wp_rowsc [.slice A0 ([UInt8.ofNat m.kind.toNat]).length c0, .slice A1 (vecB 3 ([bodyM m]).flatten).length c1] [[UInt8.ofNat m.kind.toNat], vecB 3 ([bodyM m]).flatten] rfl rfl (by decide) [(0, .slice A0 ([UInt8.ofNat m.kind.toNat]).length c0), (1, .slice A1 (vecB 3 ([bodyM m]).flatten).length c1)] (by rw [Array.toList_map]; rfl) (rows2 _ _ _ _ _ _) ⟨⟨_, _, rfl, f0⟩, ⟨_, _, rfl, f1⟩, trivial⟩ (fun v w' h1 h2 => ?_)
      exact hK _ _ _ rfl (CB.of h2 hb.size) h1
    refine ⟨fun u W hb hd K hK => ?_, ?_⟩
    · simp only [Facts, nthR, and_true] at hd
      have h10 := hd
      clear hd
      go_simp
      refine (concat_e [[UInt8.ofNat m.kind.toNat], vecB 3 ([bodyM m]).flatten] _ _ h10 (by simp only [List.flatten_cons, List.flatten_nil, List.length_append, List.length_cons, List.length_nil, vecB_length, List.append_nil]; have hsz := HL.out; omega)).mono ?_
      rintro e wy ⟨r, rfl, hB, hby⟩
      exact hK _ _ _ rfl (CB.of hby hb.size) (hB.base hb.size)
    exact trivial
  · skip
    exact trivial
  · exact (.is (.is (.is (.is (.is (.cons (fun _ _ _ h hb => h.cb hb) (.is (.cons (fun _ _ _ h hb => h.cb hb) (.cons (fun _ _ _ h hb => h.cb hb) (.cons (fun _ _ _ h hb => h.cb hb) (.cons (fun _ _ _ h hb => h.cb hb) (.cons (fun _ _ _ h hb => h.cb hb) .nil))))))))))))
  intro u w1 hb hd
  simp only [List.drop_succ_cons, List.drop_zero]
  simp only [Facts, nthR, and_true] at hd
  have h11 := hd
  clear hd
  obtain ⟨vx1, e11⟩ : ∃ v, u 11 = v := ⟨_, rfl⟩
  rw [e11] at h11
  simp only [e11]
  clear e11
  have fx1 := h11
  clear h11
  replace hM := hM.below hb
  replace hT := hT.below hb
  replace hb0 := hb0.trans (hb.mono hb0.size)
  clear hb
  go_wp2
  refine bodyPost_ret (results_tmp Tryd.results23 _ _ _) rfl ?_
  exact ⟨_, rfl, by simpa [wholeM] using fx1, hb0⟩
theorem mC_length {m : Msg} {v1 v2 v3 v4 v5 vc : Value} (hr : m.rnd.length = 32) (hm : m.mark.length = 32) : (mC m v1 v2 v3 v4 v5 vc).length = 75 := by
  simp [mC, hr, hm]
set_option maxRecDepth 100000 in
set_option maxHeartbeats 400000 in
theorem write_0 (m : Msg) (cs : List Value) (w : World) (hT : TabH w) (hcs : MVs w m cs) (hf : formM m = false) : Calls Tryd.prog 11 #[.agg cs.toArray] w fun e w' => e = .returned (.tuple #[.slice none 0 0, .int .i64 2]) ∧ Below w.heap.size w w' := by
  have hb1 : Below w.heap.size w (w.alloc (.cells cs.toArray 30)) := (Below.refl _ _).alloc (Nat.le_refl _) _
  have HM := Lib.hid (show MAt (w.alloc (.cells cs.toArray 30)) w.heap.size m from ⟨cs, Blk.new w _ cs, hcs.below hb1⟩)
  have HT := Lib.hid (hT.below hb1)
  have HF := Lib.hid hf
  clear hcs hT hf
  go_enter Tryd.func11, Tryd.ntmps11
  go_wp2_with (go_at_call 22; refine (inForm_e m _ _ HT.out HM.out).mono ?_; rintro e w2 ⟨rfl, hb2⟩; rw [HF.out])
  go_ret2
  exact ⟨rfl, hb1.trans (hb2.mono hb1.size)⟩
set_option maxRecDepth 100000 in
set_option maxHeartbeats 400000 in
theorem write_1 (m : Msg) (cs : List Value) (w : World) (hT : TabH w) (hcs : MVs w m cs) (hf : formM m = true) : Calls Tryd.prog 11 #[.agg cs.toArray] w fun e w' => ∃ r, e = .returned (.tuple #[r, .int .i64 0]) ∧ BufV w' w.heap.size r (wholeM m) ∧ Below w.heap.size w w' := by
  have hb1 : Below w.heap.size w (w.alloc (.cells cs.toArray 30)) := (Below.refl _ _).alloc (Nat.le_refl _) _
  have HM := Lib.hid (show MAt (w.alloc (.cells cs.toArray 30)) w.heap.size m from ⟨cs, Blk.new w _ cs, hcs.below hb1⟩)
  have HT := Lib.hid (hT.below hb1)
  have HF := Lib.hid hf
  clear hcs hT hf
  go_enter Tryd.func11, Tryd.ntmps11
  go_wp2_with (first
    | (go_at_call 22; refine (inForm_e m _ _ HT.out HM.out).mono ?_; rintro e w2 ⟨rfl, hb2⟩; rw [HF.out])
    | (go_at_call 23; refine (whole_e m _ _ (HT.out.below hb2) (HM.out.below hb2) HF.out).mono ?_; rintro e w3 ⟨r, rfl, hB3, hb3⟩))
  go_ret2
  exact ⟨_, rfl, hB3.base (Nat.le_trans hb1.size hb2.size), hb1.trans ((hb2.trans (hb3.mono hb2.size)).mono hb1.size)⟩
end Go.Proofs.YtagblbfbjemfhaaDoor
