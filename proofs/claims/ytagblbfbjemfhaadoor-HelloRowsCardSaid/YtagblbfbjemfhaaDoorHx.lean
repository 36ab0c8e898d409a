/-
  Package hello's cursor: what it reads of a Server.
-/
import Derived.Test.YtagblbfbjemfhaaDoorHv
namespace Go.Proofs.YtagblbfbjemfhaaDoor
open Go.RowKit
open HelloMath (numB numB_length vecB vecB_length Msg getN getN_snoc pad32 zero32 zeroM saidTicket saidClient saidServer cl3 cl4 cl5 cl7 sv3 special)

theorem MW.mat {w : World} {D g : Nat} {m : Msg} (h : MW w D g m) : MAt w g m := by
  obtain ⟨cs, h1, h2, _⟩ := h.mvs
  exact ⟨cs, h1, h2⟩
set_option maxRecDepth 100000 in
set_option maxHeartbeats 4000000 in
theorem server_1 (B gc gm D : Nat) (r : List UInt8) (w : World) (C : CAt w B gc r) (M : MW w D gm (zeroM 2)) (hgc : gm < gc ∧ gc < D ∧ B ≤ gm ∧ D ≤ w.heap.size) (hr40 : Hid (r.length ≤ 200000)) (HTT : Hid (∀ W, Below gm w W → TabH W)) (hq : (pad32 ((r.drop 2).take 32) == special) = true) : Calls Tryd.prog 44 #[.pointer (some ⟨gc, 0, none⟩), .pointer (some ⟨gm, 0, none⟩)] w fun e w' => e = .returned (.tuple #[]) ∧ MW w' D gm (saidServer r) ∧ Below gm w w' := by
  go_enter Tryd.func44, Tryd.ntmps44
  go_upto_region 0 with (fail)
  have HL := Lib.hid (show gm ≤ gc ∧ gc < D ∧ gm ≠ gc from ⟨Nat.le_of_lt hgc.1, hgc.2.1, Nat.ne_of_lt hgc.1⟩)
  have HL2 := Lib.hid (show B ≤ gm ∧ gc ≠ gm from ⟨hgc.2.2.1, (Nat.ne_of_lt hgc.1).symm⟩)
  have HL3 := Lib.hid hgc.2.2.2
  have HLS := Lib.hid (Nat.le_of_lt M.lt)
  clear hgc
  have hb : Below gm w w := Below.refl _ _
  go_upto_region 1 with (go_at_call 47; refine (pass_e B gc r [3, 3] 2 _ C (Lib.hid rfl) (Lib.hid (by decide))).mono ?_; rintro e w1 ⟨rfl, Cn, hg⟩)
  clear C
  have C := Cn
  clear Cn
  replace hb := hb.trans (grown_below hg HL.out.1 (Nat.le_trans HLS.out hb.size))
  replace M := M.kept hg HL.out.2.1 HL.out.2.2
  clear hg
  obtain ⟨r2, hr2⟩ : ∃ x, Hid (r.drop 2 = x) := ⟨_, Lib.hid rfl⟩
  rw [hr2.out] at C
  have hpl : ((pad32 (r2.take 32))).length = 32 := HelloMath.pad_32 r2
  obtain ⟨X, hX⟩ : ∃ X, Hid ((pad32 (r2.take 32)) = X) := ⟨_, Lib.hid rfl⟩
  rw [hX.out] at hpl
  go_upto_region 2 with (first
    | (go_at_call 49; refine (sum_c B gc r2 _ C).mono ?_; rintro e w3 ⟨rfl, Cn, hg⟩; rw [hX.out]; have Mn := M.kept hg HL.out.2.1 HL.out.2.2)
    | ((with_reducible refine (?_ : wpList _ _ _ (Oper.mk none _ _ _ _ _ :: _) _ _)); go_loud (refine wpList_store_mid rfl 22 (.tmp 10) (.tmp 8) rfl gm 1 (X.map B8).toArray rfl rfl (fun j hj => by have hj' : j < 32 := (by simpa [hpl] using hj); exact Mn.there (1 + j) (by omega)) (info40.trans (by simp [hpl])) (one8 _) ?_)))
  clear C
  have C := Cn
  clear Cn
  replace hb := hb.trans (grown_below hg HL.out.1 (Nat.le_trans HLS.out hb.size))
  clear hg M
  have hg := grown_setCells w3 gm 1 (X.map B8)
  have M := Mn.set_rnd hpl
  clear Mn
  replace C := C.other hg HL2.out.1 HL2.out.2
  replace hb := hb.trans (grown_below hg (Nat.le_refl _) (Nat.le_trans HLS.out hb.size))
  clear hg
  generalize w3.setCells gm 1 (X.map B8) = w3s at *
  rw [← hX.out] at M
  clear hX hpl
  obtain ⟨m4, hm4⟩ : ∃ x, Hid ({ (zeroM 2) with rnd := pad32 (r2.take 32) } = x) := ⟨_, Lib.hid rfl⟩
  rw [hm4.out] at M
  obtain ⟨r5, hr5⟩ : ∃ x, Hid (r2.drop 32 = x) := ⟨_, Lib.hid rfl⟩
  rw [hr5.out] at C
  obtain ⟨Y, hY⟩ : ∃ Y, Hid ((HelloMath.cnt 1 r5).1 = Y) := ⟨_, Lib.hid rfl⟩
  have hrl := Lib.hid (show r5.length ≤ 200000 by simp only [← hr5.out, ← hr2.out]; simp only [List.length_drop]; have := hr40.out; omega)
  go_upto_region 3 with (go_at_call 48; refine (counted_c B gc r5 1 _ C (Lib.hid (by decide)) hrl).mono ?_; rintro e w6 ⟨v, rfl, hv, Cn, hg⟩; rw [hY.out] at hv; have Mn := M.kept hg HL.out.2.1 HL.out.2.2; replace hv := hv.base (Nat.le_trans HL3.out hb.size); have HV := Lib.hid hv; obtain ⟨Av, cv, rfl, -⟩ := hv; obtain ⟨qv, hqv⟩ : ∃ q, Y.length = q := ⟨_, rfl⟩; rw [hqv] at HV ⊢; have hth := Mn.there 65 (by decide); obtain ⟨xo, hxo⟩ := Option.isSome_iff_exists.1 hth.1; have hfz := hth.2; clear hth)
  clear C
  have C := Cn
  clear Cn
  replace hb := hb.trans (grown_below hg HL.out.1 (Nat.le_trans HLS.out hb.size))
  clear hg M hxo hfz hqv hrl
  have hg := grown_cell w6 gm 65 (.slice Av qv cv)
  have M := Mn.set_ses HV.out
  clear Mn
  replace C := C.other hg HL2.out.1 HL2.out.2
  replace hb := hb.trans (grown_below hg (Nat.le_refl _) (Nat.le_trans HLS.out hb.size))
  clear hg
  generalize w6.setCell ⟨gm, 65, none⟩ (.slice Av qv cv) = w6s at *
  clear HV
  rw [← hY.out] at M
  clear hY Y
  obtain ⟨m7, hm7⟩ : ∃ x, Hid ({ m4 with ses := (HelloMath.cnt 1 r5).1 } = x) := ⟨_, Lib.hid rfl⟩
  rw [hm7.out] at M
  obtain ⟨r8, hr8⟩ : ∃ x, Hid ((HelloMath.cnt 1 r5).2 = x) := ⟨_, Lib.hid rfl⟩
  rw [hr8.out] at C
  have hrX : m7.rnd = pad32 ((r.drop 2).take 32) := by rw [← hm7.out]; show m4.rnd = _; rw [← hm4.out, hr2.out]
  have y7 : Hid ((m7.rnd == special) = true) := Lib.hid (by rw [hrX]; exact hq)
  have hl := Lib.hid (show m7.rnd.length = 32 by rw [hrX]; exact HelloMath.pad_32 _)
  clear hrX
  have hM := M.mat
  have hT := HTT.out _ hb
  have HBB := Lib.hid hb
  clear hb
  have hb0 : Below w6s.heap.size w6s w6s := Below.refl _ _
  apply wp_region_once_tailK (m := 6) (Z := []) (D := [[], [0], [0, 1], [0, 1, 2], [], [0, 1, 2, 3, 4]]) (J := [[], [0], [1], [2], [], [3, 4]]) (Je := [5]) (Rs := [Is _, Is _, Is _, Is _, Is _, Is _])
  · kernel_rfl
  · kernel_rfl
  · kernel_rfl
  · kernel_rfl
  · kernel_rfl
  · kernel_rfl
  · kernel_rfl
  · exact fun h => absurd rfl h
  · intro u
    simp only [List.take_succ_cons, List.take_zero, List.map_cons, List.map_nil, fillU, List.setIfInBounds_toArray, List.set_cons_zero, List.set_cons_succ, Nat.reduceAdd]
    exact rfl
  · simp only [List.take_succ_cons, List.take_zero]
    refine ⟨fun u W hb hd K hK => ?_, ?_⟩
    · clear hd
      go_simp
      apply hK
      · simp only [Act.put, List.setIfInBounds_toArray, List.set_cons_zero, List.set_cons_succ]
        exact rfl
      · exact CB.refl _ _
      · exact IsOut
    refine ⟨fun u W hb hd K hK => ?_, ?_⟩
    · simp only [Facts, nthR, Is, and_true] at hd
      have h0 := hd
      clear hd
      simp only [h0] at hK ⊢
      go_simp
      apply hK
      · simp only [Act.put, List.setIfInBounds_toArray, List.set_cons_zero, List.set_cons_succ]
        exact rfl
      · exact CB.refl _ _
      · exact IsOut
    refine ⟨fun u W hb hd K hK => ?_, ?_⟩
    · simp only [Facts, nthR, Is, and_true] at hd
      have h1 := hd
      clear hd
      simp only [h1] at hK ⊢
      go_simp
      apply hK
      · simp only [Act.put, List.setIfInBounds_toArray, List.set_cons_zero, List.set_cons_succ]
        exact rfl
      · exact CB.refl _ _
      · exact IsOut
    refine ⟨fun u W hb hd K hK => ?_, ?_⟩
    · simp only [Facts, nthR, Is, and_true] at hd
      have h2 := hd
      clear hd
      simp only [h2] at hK ⊢
      rw [if_pos (by rfl)]
      refine wp_load_mid 22 (.tmp 18) rfl gm 1 rfl (m7.rnd.map B8) _ (hM.below hb).rnd Tryd.underlying22 rfl (info40.trans (by rw [List.length_map, hl.out])) ?_
      exact hK _ _ _ rfl (CB.refl _ _) IsOut
    refine ⟨fun u W hb hd K hK => ?_, ?_⟩
    · clear hd
      rw [if_pos (by rfl)]
      refine wp_load_mid 22 (.global 0) rfl 0 0 rfl (special.map B8) _ (hT.below hb).1 Tryd.underlying22 rfl (info40.trans (by rw [List.length_map]; rfl)) ?_
      exact hK _ _ _ rfl (CB.refl _ _) IsOut
    refine ⟨fun u W hb hd K hK => ?_, ?_⟩
    · simp only [Facts, nthR, Is, and_true] at hd
      obtain ⟨h3, h4⟩ := hd
      simp only [h3, h4] at hK ⊢
      rw [if_pos (by rfl)]
      refine wp_eqlA rfl rfl rfl guardB32 (EqB hl (Lib.hid rfl) y7 _) ?_
      exact hK _ _ _ rfl (CB.refl _ _) IsOut
    exact trivial
  · skip
    exact trivial
  · exact (.is (.is (.is (.is (.is (.is .nil))))))
  intro u w59 hb hd
  simp only [List.drop_succ_cons, List.drop_zero]
  simp only [Facts, nthR, Is, and_true] at hd
  have h5 := hd
  clear hd
  simp only [h5]
  clear h5
  replace hM := hM.below hb
  replace hT := hT.below hb
  replace hb0 := hb0.trans (hb.mono hb0.size)
  clear hb
  go_upto_region 4 with (fail)
  replace C := C.below hb0
  replace M := M.below hb0
  have hb := HBB.out.trans (hb0.mono (Nat.le_trans HLS.out HBB.out.size))
  clear hb0 hM hT HBB
  refine wp_region_lit ?_
  refine wpList_plain rfl (fun K hK => ?_)
  go_simp
  refine hK _ _ ?_
  clear hK K
  try simp only [Act.put, List.setIfInBounds_toArray, List.set_cons_zero, List.set_cons_succ]
  refine wpList_plain rfl (fun K hK => ?_)
  go_simp
  refine hK _ _ ?_
  clear hK K
  try simp only [Act.put, List.setIfInBounds_toArray, List.set_cons_zero, List.set_cons_succ]
  refine wpList_plain rfl (fun K hK => wp_builtV 22 _ rfl [] rfl (zero32.map B8).toArray built32_0 (hK _ _ ?_))
  clear hK K
  try simp only [Act.put, List.setIfInBounds_toArray, List.set_cons_zero, List.set_cons_succ]
  refine wpList_plain rfl (fun K hK => ?_)
  go_simp
  refine hK _ _ ?_
  clear hK K
  try simp only [Act.put, List.setIfInBounds_toArray, List.set_cons_zero, List.set_cons_succ]
  refine wpList_plain rfl (fun K hK => ?_)
  go_simp
  refine hK _ _ ?_
  clear hK K
  try simp only [Act.put, List.setIfInBounds_toArray, List.set_cons_zero, List.set_cons_succ]
  have hpl : zero32.length = 32 := rfl
  refine wpList_store_mid rfl 22 (.tmp 26) (.tmp 24) rfl gm 1 (zero32.map B8).toArray rfl rfl (fun j hj => M.there (1 + j) (by have hj' : j < 32 := hj; omega)) (info40.trans (by rfl)) (one8 _) ?_
  try simp only [Act.put]
  have hg := grown_setCells w59 gm 1 (zero32.map B8)
  replace M := M.set_rnd hpl
  replace hb := hb.trans (grown_below hg (Nat.le_refl _) (Nat.le_trans HLS.out hb.size))
  clear hg C
  generalize w59.setCells gm 1 (zero32.map B8) = wz at *
  have hth := M.there 74 (by decide)
  obtain ⟨xo, hxo⟩ := Option.isSome_iff_exists.1 hth.1
  have hfz := hth.2
  clear hth
  go_wp2
  clear hxo hfz
  have hg := grown_cell wz gm 74 (.bool true)
  replace M := M.set_retry true
  replace hb := hb.trans (grown_below hg (Nat.le_refl _) (Nat.le_trans HLS.out hb.size))
  refine bodyPost_ret (results_none rfl _ _ _) rfl ?_
  have e : { { m7 with rnd := zero32 } with retry := true } = saidServer r := by
    unfold saidServer sv3
    rw [if_pos (by simpa using hq), ← hm7.out, ← hm4.out]
    simp only [hr2.out, hr5.out]
    rfl
  rw [← e]
  exact ⟨rfl, M, hb⟩
set_option maxRecDepth 100000 in
set_option maxHeartbeats 4000000 in
theorem server_0 (B gc gm D : Nat) (r : List UInt8) (w : World) (C : CAt w B gc r) (M : MW w D gm (zeroM 2)) (hgc : gm < gc ∧ gc < D ∧ B ≤ gm ∧ D ≤ w.heap.size) (hr40 : Hid (r.length ≤ 200000)) (HTT : Hid (∀ W, Below gm w W → TabH W)) (hq : (pad32 ((r.drop 2).take 32) == special) = false) : Calls Tryd.prog 44 #[.pointer (some ⟨gc, 0, none⟩), .pointer (some ⟨gm, 0, none⟩)] w fun e w' => e = .returned (.tuple #[]) ∧ MW w' D gm (saidServer r) ∧ Below gm w w' := by
  go_enter Tryd.func44, Tryd.ntmps44
  go_upto_region 0 with (fail)
  have HL := Lib.hid (show gm ≤ gc ∧ gc < D ∧ gm ≠ gc from ⟨Nat.le_of_lt hgc.1, hgc.2.1, Nat.ne_of_lt hgc.1⟩)
  have HL2 := Lib.hid (show B ≤ gm ∧ gc ≠ gm from ⟨hgc.2.2.1, (Nat.ne_of_lt hgc.1).symm⟩)
  have HL3 := Lib.hid hgc.2.2.2
  have HLS := Lib.hid (Nat.le_of_lt M.lt)
  clear hgc
  have hb : Below gm w w := Below.refl _ _
  go_upto_region 1 with (go_at_call 47; refine (pass_e B gc r [3, 3] 2 _ C (Lib.hid rfl) (Lib.hid (by decide))).mono ?_; rintro e w1 ⟨rfl, Cn, hg⟩)
  clear C
  have C := Cn
  clear Cn
  replace hb := hb.trans (grown_below hg HL.out.1 (Nat.le_trans HLS.out hb.size))
  replace M := M.kept hg HL.out.2.1 HL.out.2.2
  clear hg
  obtain ⟨r2, hr2⟩ : ∃ x, Hid (r.drop 2 = x) := ⟨_, Lib.hid rfl⟩
  rw [hr2.out] at C
  have hpl : ((pad32 (r2.take 32))).length = 32 := HelloMath.pad_32 r2
  obtain ⟨X, hX⟩ : ∃ X, Hid ((pad32 (r2.take 32)) = X) := ⟨_, Lib.hid rfl⟩
  rw [hX.out] at hpl
  go_upto_region 2 with (first
    | (go_at_call 49; refine (sum_c B gc r2 _ C).mono ?_; rintro e w3 ⟨rfl, Cn, hg⟩; rw [hX.out]; have Mn := M.kept hg HL.out.2.1 HL.out.2.2)
    | ((with_reducible refine (?_ : wpList _ _ _ (Oper.mk none _ _ _ _ _ :: _) _ _)); go_loud (refine wpList_store_mid rfl 22 (.tmp 10) (.tmp 8) rfl gm 1 (X.map B8).toArray rfl rfl (fun j hj => by have hj' : j < 32 := (by simpa [hpl] using hj); exact Mn.there (1 + j) (by omega)) (info40.trans (by simp [hpl])) (one8 _) ?_)))
  clear C
  have C := Cn
  clear Cn
  replace hb := hb.trans (grown_below hg HL.out.1 (Nat.le_trans HLS.out hb.size))
  clear hg M
  have hg := grown_setCells w3 gm 1 (X.map B8)
  have M := Mn.set_rnd hpl
  clear Mn
  replace C := C.other hg HL2.out.1 HL2.out.2
  replace hb := hb.trans (grown_below hg (Nat.le_refl _) (Nat.le_trans HLS.out hb.size))
  clear hg
  generalize w3.setCells gm 1 (X.map B8) = w3s at *
  rw [← hX.out] at M
  clear hX hpl
  obtain ⟨m4, hm4⟩ : ∃ x, Hid ({ (zeroM 2) with rnd := pad32 (r2.take 32) } = x) := ⟨_, Lib.hid rfl⟩
  rw [hm4.out] at M
  obtain ⟨r5, hr5⟩ : ∃ x, Hid (r2.drop 32 = x) := ⟨_, Lib.hid rfl⟩
  rw [hr5.out] at C
  obtain ⟨Y, hY⟩ : ∃ Y, Hid ((HelloMath.cnt 1 r5).1 = Y) := ⟨_, Lib.hid rfl⟩
  have hrl := Lib.hid (show r5.length ≤ 200000 by simp only [← hr5.out, ← hr2.out]; simp only [List.length_drop]; have := hr40.out; omega)
  go_upto_region 3 with (go_at_call 48; refine (counted_c B gc r5 1 _ C (Lib.hid (by decide)) hrl).mono ?_; rintro e w6 ⟨v, rfl, hv, Cn, hg⟩; rw [hY.out] at hv; have Mn := M.kept hg HL.out.2.1 HL.out.2.2; replace hv := hv.base (Nat.le_trans HL3.out hb.size); have HV := Lib.hid hv; obtain ⟨Av, cv, rfl, -⟩ := hv; obtain ⟨qv, hqv⟩ : ∃ q, Y.length = q := ⟨_, rfl⟩; rw [hqv] at HV ⊢; have hth := Mn.there 65 (by decide); obtain ⟨xo, hxo⟩ := Option.isSome_iff_exists.1 hth.1; have hfz := hth.2; clear hth)
  clear C
  have C := Cn
  clear Cn
  replace hb := hb.trans (grown_below hg HL.out.1 (Nat.le_trans HLS.out hb.size))
  clear hg M hxo hfz hqv hrl
  have hg := grown_cell w6 gm 65 (.slice Av qv cv)
  have M := Mn.set_ses HV.out
  clear Mn
  replace C := C.other hg HL2.out.1 HL2.out.2
  replace hb := hb.trans (grown_below hg (Nat.le_refl _) (Nat.le_trans HLS.out hb.size))
  clear hg
  generalize w6.setCell ⟨gm, 65, none⟩ (.slice Av qv cv) = w6s at *
  clear HV
  rw [← hY.out] at M
  clear hY Y
  obtain ⟨m7, hm7⟩ : ∃ x, Hid ({ m4 with ses := (HelloMath.cnt 1 r5).1 } = x) := ⟨_, Lib.hid rfl⟩
  rw [hm7.out] at M
  obtain ⟨r8, hr8⟩ : ∃ x, Hid ((HelloMath.cnt 1 r5).2 = x) := ⟨_, Lib.hid rfl⟩
  rw [hr8.out] at C
  have hrX : m7.rnd = pad32 ((r.drop 2).take 32) := by rw [← hm7.out]; show m4.rnd = _; rw [← hm4.out, hr2.out]
  have y7 : Hid ((m7.rnd == special) = false) := Lib.hid (by rw [hrX]; exact hq)
  have hl := Lib.hid (show m7.rnd.length = 32 by rw [hrX]; exact HelloMath.pad_32 _)
  clear hrX
  have hM := M.mat
  have hT := HTT.out _ hb
  have HBB := Lib.hid hb
  clear hb
  have hb0 : Below w6s.heap.size w6s w6s := Below.refl _ _
  apply wp_region_once_tailK (m := 6) (Z := []) (D := [[], [0], [0, 1], [0, 1, 2], [], [0, 1, 2, 3, 4]]) (J := [[], [0], [1], [2], [], [3, 4]]) (Je := [5]) (Rs := [Is _, Is _, Is _, Is _, Is _, Is _])
  · kernel_rfl
  · kernel_rfl
  · kernel_rfl
  · kernel_rfl
  · kernel_rfl
  · kernel_rfl
  · kernel_rfl
  · exact fun h => absurd rfl h
  · intro u
    simp only [List.take_succ_cons, List.take_zero, List.map_cons, List.map_nil, fillU, List.setIfInBounds_toArray, List.set_cons_zero, List.set_cons_succ, Nat.reduceAdd]
    exact rfl
  · simp only [List.take_succ_cons, List.take_zero]
    refine ⟨fun u W hb hd K hK => ?_, ?_⟩
    · clear hd
      go_simp
      apply hK
      · simp only [Act.put, List.setIfInBounds_toArray, List.set_cons_zero, List.set_cons_succ]
        exact rfl
      · exact CB.refl _ _
      · exact IsOut
    refine ⟨fun u W hb hd K hK => ?_, ?_⟩
    · simp only [Facts, nthR, Is, and_true] at hd
      have h0 := hd
      clear hd
      simp only [h0] at hK ⊢
      go_simp
      apply hK
      · simp only [Act.put, List.setIfInBounds_toArray, List.set_cons_zero, List.set_cons_succ]
        exact rfl
      · exact CB.refl _ _
      · exact IsOut
    refine ⟨fun u W hb hd K hK => ?_, ?_⟩
    · simp only [Facts, nthR, Is, and_true] at hd
      have h1 := hd
      clear hd
      simp only [h1] at hK ⊢
      go_simp
      apply hK
      · simp only [Act.put, List.setIfInBounds_toArray, List.set_cons_zero, List.set_cons_succ]
        exact rfl
      · exact CB.refl _ _
      · exact IsOut
    refine ⟨fun u W hb hd K hK => ?_, ?_⟩
    · simp only [Facts, nthR, Is, and_true] at hd
      have h2 := hd
      clear hd
      simp only [h2] at hK ⊢
      rw [if_pos (by rfl)]
      refine wp_load_mid 22 (.tmp 18) rfl gm 1 rfl (m7.rnd.map B8) _ (hM.below hb).rnd Tryd.underlying22 rfl (info40.trans (by rw [List.length_map, hl.out])) ?_
      exact hK _ _ _ rfl (CB.refl _ _) IsOut
    refine ⟨fun u W hb hd K hK => ?_, ?_⟩
    · clear hd
      rw [if_pos (by rfl)]
      refine wp_load_mid 22 (.global 0) rfl 0 0 rfl (special.map B8) _ (hT.below hb).1 Tryd.underlying22 rfl (info40.trans (by rw [List.length_map]; rfl)) ?_
      exact hK _ _ _ rfl (CB.refl _ _) IsOut
    refine ⟨fun u W hb hd K hK => ?_, ?_⟩
    · simp only [Facts, nthR, Is, and_true] at hd
      obtain ⟨h3, h4⟩ := hd
      simp only [h3, h4] at hK ⊢
      rw [if_pos (by rfl)]
      refine wp_eqlA rfl rfl rfl guardB32 (EqB hl (Lib.hid rfl) y7 _) ?_
      exact hK _ _ _ rfl (CB.refl _ _) IsOut
    exact trivial
  · skip
    exact trivial
  · exact (.is (.is (.is (.is (.is (.is .nil))))))
  intro u w59 hb hd
  simp only [List.drop_succ_cons, List.drop_zero]
  simp only [Facts, nthR, Is, and_true] at hd
  have h5 := hd
  clear hd
  simp only [h5]
  clear h5
  replace hM := hM.below hb
  replace hT := hT.below hb
  replace hb0 := hb0.trans (hb.mono hb0.size)
  clear hb
  go_upto_region 5 with (fail)
  replace C := C.below hb0
  replace M := M.below hb0
  have hb := HBB.out.trans (hb0.mono (Nat.le_trans HLS.out HBB.out.size))
  clear hb0 hM hT HBB
  go_upto_region 6 with (go_at_call 47; refine (pass_e B gc r8 [19, 1, 0] 3 _ C (Lib.hid rfl) (Lib.hid (by decide))).mono ?_; rintro e w61 ⟨rfl, Cn, hg⟩)
  clear C
  have C := Cn
  clear Cn
  replace hb := hb.trans (grown_below hg HL.out.1 (Nat.le_trans HLS.out hb.size))
  replace M := M.kept hg HL.out.2.1 HL.out.2.2
  clear hg
  obtain ⟨r62, hr62⟩ : ∃ x, Hid (r8.drop 3 = x) := ⟨_, Lib.hid rfl⟩
  rw [hr62.out] at C
  go_upto_region 7 with (go_at_call 42; refine (number_c B gc r62 2 _ C (Lib.hid (by decide))).mono ?_; rintro e w63 ⟨rfl, Cn, hg⟩)
  clear C
  have C := Cn
  clear Cn
  replace hb := hb.trans (grown_below hg HL.out.1 (Nat.le_trans HLS.out hb.size))
  replace M := M.kept hg HL.out.2.1 HL.out.2.2
  clear hg
  obtain ⟨r64, hr64⟩ : ∃ x, Hid (r62.drop 2 = x) := ⟨_, Lib.hid rfl⟩
  rw [hr64.out] at C
  go_upto_region 8 with (go_at_call 47; refine (pass_e B gc r64 [0, 43, 0, 2, 3, 4, 0, 51] 8 _ C (Lib.hid rfl) (Lib.hid (by decide))).mono ?_; rintro e w65 ⟨rfl, Cn, hg⟩)
  clear C
  have C := Cn
  clear Cn
  replace hb := hb.trans (grown_below hg HL.out.1 (Nat.le_trans HLS.out hb.size))
  replace M := M.kept hg HL.out.2.1 HL.out.2.2
  clear hg
  obtain ⟨r66, hr66⟩ : ∃ x, Hid (r64.drop 8 = x) := ⟨_, Lib.hid rfl⟩
  rw [hr66.out] at C
  go_upto_region 9 with (go_at_call 42; refine (number_c B gc r66 2 _ C (Lib.hid (by decide))).mono ?_; rintro e w67 ⟨rfl, Cn, hg⟩)
  clear C
  have C := Cn
  clear Cn
  replace hb := hb.trans (grown_below hg HL.out.1 (Nat.le_trans HLS.out hb.size))
  replace M := M.kept hg HL.out.2.1 HL.out.2.2
  clear hg
  obtain ⟨r68, hr68⟩ : ∃ x, Hid (r66.drop 2 = x) := ⟨_, Lib.hid rfl⟩
  rw [hr68.out] at C
  go_upto_region 10 with (go_at_call 47; refine (pass_e B gc r68 [0, 23] 2 _ C (Lib.hid rfl) (Lib.hid (by decide))).mono ?_; rintro e w69 ⟨rfl, Cn, hg⟩)
  clear C
  have C := Cn
  clear Cn
  replace hb := hb.trans (grown_below hg HL.out.1 (Nat.le_trans HLS.out hb.size))
  replace M := M.kept hg HL.out.2.1 HL.out.2.2
  clear hg
  obtain ⟨r70, hr70⟩ : ∃ x, Hid (r68.drop 2 = x) := ⟨_, Lib.hid rfl⟩
  rw [hr70.out] at C
  obtain ⟨Y, hY⟩ : ∃ Y, Hid ((HelloMath.cnt 2 r70).1 = Y) := ⟨_, Lib.hid rfl⟩
  have hrl := Lib.hid (show r70.length ≤ 200000 by simp only [← hr70.out, ← hr68.out, ← hr66.out, ← hr64.out, ← hr62.out, ← hr8.out, ← hr5.out, ← hr2.out]; simp only [HelloMath.cnt, List.length_drop]; have := hr40.out; omega)
  go_upto_region 11 with (go_at_call 48; refine (counted_c B gc r70 2 _ C (Lib.hid (by decide)) hrl).mono ?_; rintro e w71 ⟨v, rfl, hv, Cn, hg⟩; rw [hY.out] at hv; have Mn := M.kept hg HL.out.2.1 HL.out.2.2; replace hv := hv.base (Nat.le_trans HL3.out hb.size); have HV := Lib.hid hv; obtain ⟨Av, cv, rfl, -⟩ := hv; obtain ⟨qv, hqv⟩ : ∃ q, Y.length = q := ⟨_, rfl⟩; rw [hqv] at HV ⊢; have hth := Mn.there 66 (by decide); obtain ⟨xo, hxo⟩ := Option.isSome_iff_exists.1 hth.1; have hfz := hth.2; clear hth)
  clear C
  have C := Cn
  clear Cn
  replace hb := hb.trans (grown_below hg HL.out.1 (Nat.le_trans HLS.out hb.size))
  clear hg M hxo hfz hqv hrl
  have hg := grown_cell w71 gm 66 (.slice Av qv cv)
  have M := Mn.set_sha HV.out
  clear Mn
  replace C := C.other hg HL2.out.1 HL2.out.2
  replace hb := hb.trans (grown_below hg (Nat.le_refl _) (Nat.le_trans HLS.out hb.size))
  clear hg
  generalize w71.setCell ⟨gm, 66, none⟩ (.slice Av qv cv) = w71s at *
  clear HV
  rw [← hY.out] at M
  clear hY Y
  obtain ⟨m72, hm72⟩ : ∃ x, Hid ({ m7 with sha := (HelloMath.cnt 2 r70).1 } = x) := ⟨_, Lib.hid rfl⟩
  rw [hm72.out] at M
  obtain ⟨r73, hr73⟩ : ∃ x, Hid ((HelloMath.cnt 2 r70).2 = x) := ⟨_, Lib.hid rfl⟩
  rw [hr73.out] at C
  obtain ⟨vr, hcr, hsr⟩ := C.rest
  obtain ⟨Ar, cr, rfl, -⟩ := hsr
  obtain ⟨lr, hlr⟩ : ∃ l, r73.length = l := ⟨_, rfl⟩
  rw [hlr] at hcr
  obtain ⟨pb, hpb⟩ : ∃ b, decide (0 < lr) = b := ⟨_, rfl⟩
  have hpb2 : decide ((lr : Int) > 0) = pb := by rw [← hpb]; simp
  have hps := Lib.hid (show decide (0 < r73.length) = pb by rw [hlr]; exact hpb)
  clear hlr
  have hth := M.there 73 (by decide)
  obtain ⟨xo, hxo⟩ := Option.isSome_iff_exists.1 hth.1
  have hfz := hth.2
  clear hth
  go_wp2
  clear hxo hfz hcr hpb hpb2
  go_end0
  replace M := M.set_psk pb
  have hg := grown_cell w71s gm 73 (.bool pb)
  replace hb := hb.trans (grown_below hg (Nat.le_refl _) (Nat.le_trans HLS.out hb.size))
  have e : { m72 with psk := pb } = saidServer r := by
    unfold saidServer sv3
    rw [if_neg (by intro e; rw [e] at hq; exact absurd hq (by decide)), ← hm72.out, ← hm7.out, ← hm4.out]
    dsimp only
    simp only [hr2.out, hr5.out, hr8.out, hr62.out, hr64.out, hr66.out, hr68.out, hr70.out, hr73.out, hps.out]
    try rfl
  rw [← e]
  exact ⟨rfl, M, hb⟩
end Go.Proofs.YtagblbfbjemfhaaDoor
