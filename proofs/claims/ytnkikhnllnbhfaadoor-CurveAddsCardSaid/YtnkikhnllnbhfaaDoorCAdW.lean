/-
 CurveAdds's walk.
-/
import Derived.Test.YtnkikhnllnbhfaaDoorCl0
import Derived.Test.YtnkikhnllnbhfaaDoorCr4
namespace Go.Proofs.YtnkikhnllnbhfaaDoor
open Go.RowKit
open CurveMath

theorem wrap_i16 {n : Nat} (h : n < 65536) : IntKind.i64.wrap (n : Int) = (n : Int) := by rw [IntKind.wrap_i64]; omega
set_option maxRecDepth 100000 in
set_option maxHeartbeats 4000000 in
theorem curveAdds_0 (n m z : Nat) (how : Int) (w : World) (hT : TabsC w) (hn : n < 65536) (hm : m < 65536) (hz : Hid (IntKind.u64.wrap how = (z : Int))) (hq : Hid ((z : Int).tmod 4 = 0)) (hq' : Hid ((z : Int) % 4 = 0)) : Calls Tryd.prog 4 #[.int .u16 (n : Int), .int .u16 (m : Int), .int .i64 how] w fun e w' => e = .returned (.bool true) ∧ Below w.heap.size w w' := by
 go_enter Tryd.func4, Tryd.ntmps4
 have hb0 : Below w.heap.size w w := Below.refl _ _
 go_upto_region 0 with (fail)
 refine wp_region_lit ?_
 go_upto_region 1 with (fail)
 obtain ⟨B14, hB14⟩ : ∃ s : List UInt8, Hid (s = bsTo ⟨n, 0, 0, 0⟩ 32) := ⟨_, Lib.hid rfl⟩
 obtain ⟨p15, hp15⟩ : ∃ s : Pt, Hid (s = mulG (n)) := ⟨_, Lib.hid rfl⟩
 obtain ⟨B18, hB18⟩ : ∃ s : List UInt8, Hid (s = bsTo ⟨m, 0, 0, 0⟩ 32) := ⟨_, Lib.hid rfl⟩
 obtain ⟨p19, hp19⟩ : ∃ s : Pt, Hid (s = mulG (m)) := ⟨_, Lib.hid rfl⟩
 apply wp_plain_once (m := 8) (J := [[], [0], [1], [2], [], [4], [5], [6]]) (Je := [3, 7]) (Rs := [Is _, Is _, Is _, Is _, Is _, Is _, Is _, Is _])
 ·
  kernel_rfl
 ·
  kernel_rfl
 ·
  intro u
  simp only [List.take_succ_cons, List.take_zero, List.map_cons, List.map_nil, fillU, List.setIfInBounds_toArray, List.set_cons_zero, List.set_cons_succ, Nat.reduceAdd]
  exact rfl
 ·
  simp only [List.take_succ_cons, List.take_zero]
  refine ⟨fun u W hb hd K hK => ?_, ?_⟩
  ·
   clear hd
   go_simp
   apply hK
   ·
    simp only [Act.put, List.setIfInBounds_toArray, List.set_cons_zero, List.set_cons_succ]
    exact rfl
   ·
    exact Below.refl _ _
   ·
    exact IsOut
  refine ⟨fun u W hb hd K hK => ?_, ?_⟩
  ·
   simp only [Facts, nthR, Is, and_true] at hd
   simp only [hd] at hK ⊢
   clear hd
   have hw : IntKind.i64.wrap (n : Int) = (n : Int) := wrap_i16 hn
   go_simp
   apply hK
   ·
    simp only [Act.put, List.setIfInBounds_toArray, List.set_cons_zero, List.set_cons_succ]
    exact rfl
   ·
    exact Below.refl _ _
   ·
    exact IsOut
  refine ⟨fun u W hb hd K hK => ?_, ?_⟩
  ·
   simp only [Facts, nthR, Is, and_true] at hd
   simp only [hd] at hK ⊢
   clear hd
   go_simp
   refine (SmallE hn hB14 _).mono ?_
   rintro e wy ⟨rfl, hby⟩
   exact hK _ _ _ rfl hby IsOut
  refine ⟨fun u W hb hd K hK => ?_, ?_⟩
  ·
   simp only [Facts, nthR, Is, and_true] at hd
   simp only [hd] at hK ⊢
   clear hd
   go_simp
   refine (OfE (hT.up hb0 hb) (small_len hB14) (small_val hn hB14) hp15).mono ?_
   rintro e wy ⟨rfl, hby⟩
   exact hK _ _ _ rfl hby IsOut
  refine ⟨fun u W hb hd K hK => ?_, ?_⟩
  ·
   clear hd
   go_simp
   apply hK
   ·
    simp only [Act.put, List.setIfInBounds_toArray, List.set_cons_zero, List.set_cons_succ]
    exact rfl
   ·
    exact Below.refl _ _
   ·
    exact IsOut
  refine ⟨fun u W hb hd K hK => ?_, ?_⟩
  ·
   simp only [Facts, nthR, Is, and_true] at hd
   simp only [hd] at hK ⊢
   clear hd
   have hw : IntKind.i64.wrap (m : Int) = (m : Int) := wrap_i16 hm
   go_simp
   apply hK
   ·
    simp only [Act.put, List.setIfInBounds_toArray, List.set_cons_zero, List.set_cons_succ]
    exact rfl
   ·
    exact Below.refl _ _
   ·
    exact IsOut
  refine ⟨fun u W hb hd K hK => ?_, ?_⟩
  ·
   simp only [Facts, nthR, Is, and_true] at hd
   simp only [hd] at hK ⊢
   clear hd
   go_simp
   refine (SmallE hm hB18 _).mono ?_
   rintro e wy ⟨rfl, hby⟩
   exact hK _ _ _ rfl hby IsOut
  refine ⟨fun u W hb hd K hK => ?_, ?_⟩
  ·
   simp only [Facts, nthR, Is, and_true] at hd
   simp only [hd] at hK ⊢
   clear hd
   go_simp
   refine (OfE (hT.up hb0 hb) (small_len hB18) (small_val hm hB18) hp19).mono ?_
   rintro e wy ⟨rfl, hby⟩
   exact hK _ _ _ rfl hby IsOut
  exact trivial
 ·
  exact (.is (.is (.is (.is (.is (.is (.is (.is .nil))))))))
 intro u w1 hb hd
 simp only [List.drop_succ_cons, List.drop_zero]
 simp only [Facts, nthR, Is, and_true] at hd
 obtain ⟨h3, h7⟩ := hd
 simp only [h3, h7]
 clear h3 h7
 replace hb0 := hb0.trans (hb.mono hb0.size)
 clear hb
 refine wpList_new_blk rfl 24 rfl (ptV none) zeroPt ?_
 intro g7 w2 hg bg7 hb
 have og7 := Lib.hid (show w.heap.size ≤ g7 from Nat.le_trans hb0.size (Nat.le_of_eq hg.symm))
 clear hg
 replace hb0 := hb0.trans (hb.mono hb0.size)
 clear hb
 have lg7 := bg7.lt
 try simp only [Act.put, List.setIfInBounds_toArray, List.set_cons_zero, List.set_cons_succ]
 refine wpList_new_blk rfl 24 rfl (ptV none) zeroPt ?_
 intro g8 w3 hg bg8 hb
 have og8 := Lib.hid (show w.heap.size ≤ g8 ∧ g7 < g8 from ⟨Nat.le_trans hb0.size (Nat.le_of_eq hg.symm), Nat.lt_of_lt_of_le lg7 (Nat.le_of_eq hg.symm)⟩)
 clear hg
 replace bg7 := bg7.below hb lg7
 replace hb0 := hb0.trans (hb.mono hb0.size)
 replace lg7 := bg7.lt
 clear hb
 have lg8 := bg8.lt
 try simp only [Act.put, List.setIfInBounds_toArray, List.set_cons_zero, List.set_cons_succ]
 refine wpList_store_blk rfl 24 (.tmp 7) (.tmp 15) rfl rfl g7 (ptV p15) rfl rfl _ _ bg7 (infoPt.trans (by rw [ptV_length])) (by first | with_reducible rfl | rw [ptV_length, ptV_length] | rw [ptV_length]) (onePv _) ?_
 intro w4 bn hgs
 replace bg8 := bg8.grown hgs (fun e => Nat.ne_of_gt og8.out.2 (Option.some.inj e))
 replace hb0 := below_new hb0 hgs og7.out hb0.size
 clear hgs bg7
 have bg7 := bn
 clear bn
 replace lg7 := bg7.lt
 replace lg8 := bg8.lt
 try simp only [Act.put]
 refine wpList_store_blk rfl 24 (.tmp 8) (.tmp 19) rfl rfl g8 (ptV p19) rfl rfl _ _ bg8 (infoPt.trans (by rw [ptV_length])) (by first | with_reducible rfl | rw [ptV_length, ptV_length] | rw [ptV_length]) (onePv _) ?_
 intro w5 bn hgs
 replace bg7 := bg7.grown hgs (fun e => Nat.ne_of_lt og8.out.2 (Option.some.inj e))
 replace hb0 := below_new hb0 hgs og8.out.1 hb0.size
 clear hgs bg8
 have bg8 := bn
 clear bn
 replace lg7 := bg7.lt
 replace lg8 := bg8.lt
 try simp only [Act.put]
 go_upto_region 2 with (fail)
 apply wp_plain_once (m := 4) (J := [[], [0], [1], [2]]) (Je := [3]) (Rs := [Is _, Is _, Is _, Is _])
 ·
  kernel_rfl
 ·
  kernel_rfl
 ·
  intro u
  simp only [List.take_succ_cons, List.take_zero, List.map_cons, List.map_nil, fillU, List.setIfInBounds_toArray, List.set_cons_zero, List.set_cons_succ, Nat.reduceAdd]
  exact rfl
 ·
  simp only [List.take_succ_cons, List.take_zero]
  refine ⟨fun u W hb hd K hK => ?_, ?_⟩
  ·
   clear hd
   go_simp
   apply hK
   ·
    simp only [Act.put, List.setIfInBounds_toArray, List.set_cons_zero, List.set_cons_succ]
    exact rfl
   ·
    exact Below.refl _ _
   ·
    exact IsOut
  refine ⟨fun u W hb hd K hK => ?_, ?_⟩
  ·
   simp only [Facts, nthR, Is, and_true] at hd
   simp only [hd] at hK ⊢
   clear hd
   have hw := hz.out
   go_simp
   apply hK
   ·
    simp only [Act.put, List.setIfInBounds_toArray, List.set_cons_zero, List.set_cons_succ]
    exact rfl
   ·
    exact Below.refl _ _
   ·
    exact IsOut
  refine ⟨fun u W hb hd K hK => ?_, ?_⟩
  ·
   simp only [Facts, nthR, Is, and_true] at hd
   simp only [hd] at hK ⊢
   clear hd
   have hw := hq.out
   have hw' := hq'.out
   go_simp
   apply hK
   ·
    simp only [Act.put, List.setIfInBounds_toArray, List.set_cons_zero, List.set_cons_succ]
    exact rfl
   ·
    exact Below.refl _ _
   ·
    exact IsOut
  refine ⟨fun u W hb hd K hK => ?_, ?_⟩
  ·
   simp only [Facts, nthR, Is, and_true] at hd
   simp only [hd] at hK ⊢
   clear hd
   have hw : IntKind.i64.wrap (0 : Int) = (0 : Int) := by decide
   go_simp
   apply hK
   ·
    simp only [Act.put, List.setIfInBounds_toArray, List.set_cons_zero, List.set_cons_succ]
    exact rfl
   ·
    exact Below.refl _ _
   ·
    exact IsOut
  exact trivial
 ·
  exact (.is (.is (.is (.is .nil))))
 intro u w6 hb hd
 simp only [List.drop_succ_cons, List.drop_zero]
 simp only [Facts, nthR, Is, and_true] at hd
 have h3 := hd
 clear hd
 simp only [h3]
 clear h3
 replace bg7 := bg7.below hb lg7
 replace bg8 := bg8.below hb lg8
 replace hb0 := hb0.trans (hb.mono hb0.size)
 replace lg7 := bg7.lt
 replace lg8 := bg8.lt
 clear hb
 go_upto_region 3 with (fail)
 apply wp_plain_once (m := 1) (J := [[]]) (Je := [0]) (Rs := [Is _])
 ·
  kernel_rfl
 ·
  kernel_rfl
 ·
  intro u
  simp only [List.take_succ_cons, List.take_zero, List.map_cons, List.map_nil, fillU, List.setIfInBounds_toArray, List.set_cons_zero, List.set_cons_succ]
  exact rfl
 ·
  simp only [List.take_succ_cons, List.take_zero]
  refine ⟨fun u W hb hd K hK => ?_, ?_⟩
  ·
   clear hd
   go_simp
   apply hK
   ·
    simp only [Act.put, List.setIfInBounds_toArray, List.set_cons_zero, List.set_cons_succ]
    exact rfl
   ·
    exact Below.refl _ _
   ·
    exact IsOut
  exact trivial
 ·
  exact (.is .nil)
 intro u w7 hb hd
 simp only [List.drop_succ_cons, List.drop_zero]
 simp only [Facts, nthR, Is, and_true] at hd
 have h0 := hd
 clear hd
 simp only [h0]
 clear h0
 replace bg7 := bg7.below hb lg7
 replace bg8 := bg8.below hb lg8
 replace hb0 := hb0.trans (hb.mono hb0.size)
 replace lg7 := bg7.lt
 replace lg8 := bg8.lt
 clear hb
 go_upto_region 5 with (fail)
 apply wp_plain_once (m := 1) (J := [[]]) (Je := [0]) (Rs := [Is _])
 ·
  kernel_rfl
 ·
  kernel_rfl
 ·
  intro u
  simp only [List.take_succ_cons, List.take_zero, List.map_cons, List.map_nil, fillU, List.setIfInBounds_toArray, List.set_cons_zero, List.set_cons_succ]
  exact rfl
 ·
  simp only [List.take_succ_cons, List.take_zero]
  refine ⟨fun u W hb hd K hK => ?_, ?_⟩
  ·
   clear hd
   go_simp
   apply hK
   ·
    simp only [Act.put, List.setIfInBounds_toArray, List.set_cons_zero, List.set_cons_succ]
    exact rfl
   ·
    exact Below.refl _ _
   ·
    exact IsOut
  exact trivial
 ·
  exact (.is .nil)
 intro u w8 hb hd
 simp only [List.drop_succ_cons, List.drop_zero]
 simp only [Facts, nthR, Is, and_true] at hd
 have h0 := hd
 clear hd
 simp only [h0]
 clear h0
 replace bg7 := bg7.below hb lg7
 replace bg8 := bg8.below hb lg8
 replace hb0 := hb0.trans (hb.mono hb0.size)
 replace lg7 := bg7.lt
 replace lg8 := bg8.lt
 clear hb
 go_upto_region 7 with (fail)
 apply wp_plain_once (m := 1) (J := [[]]) (Je := [0]) (Rs := [Is _])
 ·
  kernel_rfl
 ·
  kernel_rfl
 ·
  intro u
  simp only [List.take_succ_cons, List.take_zero, List.map_cons, List.map_nil, fillU, List.setIfInBounds_toArray, List.set_cons_zero, List.set_cons_succ]
  exact rfl
 ·
  simp only [List.take_succ_cons, List.take_zero]
  refine ⟨fun u W hb hd K hK => ?_, ?_⟩
  ·
   clear hd
   go_simp
   apply hK
   ·
    simp only [Act.put, List.setIfInBounds_toArray, List.set_cons_zero, List.set_cons_succ]
    exact rfl
   ·
    exact Below.refl _ _
   ·
    exact IsOut
  exact trivial
 ·
  exact (.is .nil)
 intro u w9 hb hd
 simp only [List.drop_succ_cons, List.drop_zero]
 simp only [Facts, nthR, Is, and_true] at hd
 have h0 := hd
 clear hd
 simp only [h0]
 clear h0
 replace bg7 := bg7.below hb lg7
 replace bg8 := bg8.below hb lg8
 replace hb0 := hb0.trans (hb.mono hb0.size)
 replace lg7 := bg7.lt
 replace lg8 := bg8.lt
 clear hb
 go_upto_region 9 with (fail)
 obtain ⟨p43, hp43⟩ : ∃ s : Pt, Hid (s = mulG (n + m)) := ⟨_, Lib.hid rfl⟩
 apply wp_plain_once (m := 3) (J := [[], [], [0, 1]]) (Je := [2]) (Rs := [Is _, Is _, Is _])
 ·
  kernel_rfl
 ·
  kernel_rfl
 ·
  intro u
  simp only [List.take_succ_cons, List.take_zero, List.map_cons, List.map_nil, fillU, List.setIfInBounds_toArray, List.set_cons_zero, List.set_cons_succ, Nat.reduceAdd]
  exact rfl
 ·
  simp only [List.take_succ_cons, List.take_zero]
  refine ⟨fun u W hb hd K hK => ?_, ?_⟩
  ·
   clear hd
   rw [if_pos (by rfl)]
   refine wp_load_mid 24 (.tmp 7) rfl g7 0 rfl (ptV p15) _ (rangeAt_of_blk (bg7.below hb lg7)) Tryd.underlying24 rfl (infoPt.trans (by rw [ptV_length])) ?_
   exact hK _ _ _ rfl (Below.refl _ _) IsOut
  refine ⟨fun u W hb hd K hK => ?_, ?_⟩
  ·
   clear hd
   rw [if_pos (by rfl)]
   refine wp_load_mid 24 (.tmp 8) rfl g8 0 rfl (ptV p19) _ (rangeAt_of_blk (bg8.below hb lg8)) Tryd.underlying24 rfl (infoPt.trans (by rw [ptV_length])) ?_
   exact hK _ _ _ rfl (Below.refl _ _) IsOut
  refine ⟨fun u W hb hd K hK => ?_, ?_⟩
  ·
   simp only [Facts, nthR, Is, and_true] at hd
   simp only [hd] at hK ⊢
   clear hd
   go_simp
   refine (AddP (hT.up hb0 hb) (hp15) (hp19) hp43).mono ?_
   rintro e wy ⟨rfl, hby⟩
   exact hK _ _ _ rfl hby IsOut
  exact trivial
 ·
  exact (.is (.is (.is .nil)))
 intro u w10 hb hd
 simp only [List.drop_succ_cons, List.drop_zero]
 simp only [Facts, nthR, Is, and_true] at hd
 have h2 := hd
 clear hd
 simp only [h2]
 clear h2
 replace bg7 := bg7.below hb lg7
 replace bg8 := bg8.below hb lg8
 replace hb0 := hb0.trans (hb.mono hb0.size)
 replace lg7 := bg7.lt
 replace lg8 := bg8.lt
 clear hb
 refine wpList_new_blk rfl 24 rfl (ptV none) zeroPt ?_
 intro g9 w11 hg bg9 hb
 have og9 := Lib.hid (show w.heap.size ≤ g9 ∧ g7 < g9 ∧ g8 < g9 from ⟨Nat.le_trans hb0.size (Nat.le_of_eq hg.symm), Nat.lt_of_lt_of_le lg7 (Nat.le_of_eq hg.symm), Nat.lt_of_lt_of_le lg8 (Nat.le_of_eq hg.symm)⟩)
 clear hg
 replace bg7 := bg7.below hb lg7
 replace bg8 := bg8.below hb lg8
 replace hb0 := hb0.trans (hb.mono hb0.size)
 replace lg7 := bg7.lt
 replace lg8 := bg8.lt
 clear hb
 have lg9 := bg9.lt
 try simp only [Act.put, List.setIfInBounds_toArray, List.set_cons_zero, List.set_cons_succ]
 refine wpList_store_blk rfl 24 (.tmp 9) (.tmp 43) rfl rfl g9 (ptV p43) rfl rfl _ _ bg9 (infoPt.trans (by rw [ptV_length])) (by first | with_reducible rfl | rw [ptV_length, ptV_length] | rw [ptV_length]) (onePv _) ?_
 intro w12 bn hgs
 replace bg7 := bg7.grown hgs (fun e => Nat.ne_of_lt og9.out.2.1 (Option.some.inj e))
 replace bg8 := bg8.grown hgs (fun e => Nat.ne_of_lt og9.out.2.2 (Option.some.inj e))
 replace hb0 := below_new hb0 hgs og9.out.1 hb0.size
 clear hgs bg9
 have bg9 := bn
 clear bn
 replace lg7 := bg7.lt
 replace lg8 := bg8.lt
 replace lg9 := bg9.lt
 try simp only [Act.put]
 go_upto_region 10 with (fail)
 obtain ⟨p57, hp57⟩ : ∃ s : Pt, Hid (s = mulG (n + m)) := ⟨_, Lib.hid rfl⟩
 refine wp_region_noPanic ?_
 apply wp_region_fresh (m := 18) (Z := [15]) (Fl := [false, false, false, false, false, false, false, false, false, false, false, false, false, false, false, false, true, true]) (D := [[], [0], [0, 1], [], [3], [0, 1, 2, 3, 4], [], [6], [0, 1, 2, 3, 4, 5, 6, 7], [], [9], [0, 1, 2, 3, 4, 5, 6, 7, 8, 9, 10], [0, 1, 2, 3, 4, 5, 6, 7, 8, 9, 10, 11], [0, 1, 2, 3, 4, 5, 6, 7, 8, 9, 10, 11, 12], [0, 1, 2, 3, 4, 5, 6, 7, 8, 9, 10, 11, 12, 13], [0, 1, 2, 3, 4, 5, 6, 7, 8, 9, 10, 11, 12, 13], [], [], [0, 1, 2, 3, 4, 5, 6, 7, 8, 9, 10, 11, 12, 13, 14, 16, 17], [0, 1, 2, 3, 4, 5, 6, 7, 8, 9, 10, 11, 12, 13, 14, 15, 16, 17, 18]]) (J := [[], [0], [1], [], [3], [4], [], [6], [7], [], [9], [10], [2, 5, 8, 11], [12], [13], [13], [], []]) (Je := [14, 15, 16, 17]) (Rs := [Is _, Is _, Is _, Is _, Is _, Is _, Is _, Is _, Is _, Is _, Is _, Is _, Is _, Is _, Is _, Is _, fun v V => ∃ g', v = .pointer (some ⟨g', 0, none⟩) ∧ w12.heap.size ≤ g' ∧ Blk V g' 29 (nC zeroP), fun v V => ∃ g', v = .pointer (some ⟨g', 0, none⟩) ∧ w12.heap.size ≤ g' ∧ Blk V g' 29 (nC zeroP)])
 ·
  kernel_rfl
 ·
  kernel_rfl
 ·
  kernel_rfl
 ·
  kernel_rfl
 ·
  kernel_rfl
 ·
  kernel_rfl
 ·
  kernel_rfl
 ·
  kernel_rfl
 ·
  exact fun _ _ _ _ _ _ h => h
 ·
  intro u
  simp only [List.take_succ_cons, List.take_zero, List.map_cons, List.map_nil, fillU, List.setIfInBounds_toArray, List.set_cons_zero, List.set_cons_succ, Nat.reduceAdd]
  exact rfl
 ·
  simp only [List.take_succ_cons, List.take_zero]
  refine ⟨fun u W hb hd K hK => ?_, ?_⟩
  ·
   clear hd
   go_simp
   apply hK
   ·
    simp only [Act.put, List.setIfInBounds_toArray, List.set_cons_zero, List.set_cons_succ]
    exact rfl
   ·
    exact Below.refl _ _
   ·
    exact IsOut
  refine ⟨fun u W hb hd K hK => ?_, ?_⟩
  ·
   simp only [Facts, nthR, Is, and_true] at hd
   simp only [hd] at hK ⊢
   clear hd
   rw [if_pos (by rfl)]
   refine wp_load_mid 22 (.tmp 45) rfl g7 0 rfl ((xB p15).map B8) _ (ptv_range0 (bg7.below hb lg7)) Tryd.underlying22 rfl (info40.trans (by rw [List.length_map, (Lib.hid (xB_length p15)).out])) ?_
   exact hK _ _ _ rfl (Below.refl _ _) IsOut
  refine ⟨fun u W hb hd K hK => ?_, ?_⟩
  ·
   simp only [Facts, nthR, Is, and_true] at hd
   simp only [hd] at hK ⊢
   clear hd
   go_simp
   refine (ROf (Lib.hid (of_xB p15)) (Lib.hid (xB_length p15)) _).mono ?_
   rintro e wy ⟨rfl, hby⟩
   exact hK _ _ _ rfl hby IsOut
  refine ⟨fun u W hb hd K hK => ?_, ?_⟩
  ·
   clear hd
   go_simp
   apply hK
   ·
    simp only [Act.put, List.setIfInBounds_toArray, List.set_cons_zero, List.set_cons_succ]
    exact rfl
   ·
    exact Below.refl _ _
   ·
    exact IsOut
  refine ⟨fun u W hb hd K hK => ?_, ?_⟩
  ·
   simp only [Facts, nthR, Is, and_true] at hd
   simp only [hd] at hK ⊢
   clear hd
   rw [if_pos (by rfl)]
   refine wp_load_mid 22 (.tmp 48) rfl g7 32 rfl ((yB p15).map B8) _ (ptv_range1 (bg7.below hb lg7)) Tryd.underlying22 rfl (info40.trans (by rw [List.length_map, (Lib.hid (yB_length p15)).out])) ?_
   exact hK _ _ _ rfl (Below.refl _ _) IsOut
  refine ⟨fun u W hb hd K hK => ?_, ?_⟩
  ·
   simp only [Facts, nthR, Is, and_true] at hd
   simp only [hd] at hK ⊢
   clear hd
   go_simp
   refine (ROf (Lib.hid (of_yB p15)) (Lib.hid (yB_length p15)) _).mono ?_
   rintro e wy ⟨rfl, hby⟩
   exact hK _ _ _ rfl hby IsOut
  refine ⟨fun u W hb hd K hK => ?_, ?_⟩
  ·
   clear hd
   go_simp
   apply hK
   ·
    simp only [Act.put, List.setIfInBounds_toArray, List.set_cons_zero, List.set_cons_succ]
    exact rfl
   ·
    exact Below.refl _ _
   ·
    exact IsOut
  refine ⟨fun u W hb hd K hK => ?_, ?_⟩
  ·
   simp only [Facts, nthR, Is, and_true] at hd
   simp only [hd] at hK ⊢
   clear hd
   rw [if_pos (by rfl)]
   refine wp_load_mid 22 (.tmp 51) rfl g8 0 rfl ((xB p19).map B8) _ (ptv_range0 (bg8.below hb lg8)) Tryd.underlying22 rfl (info40.trans (by rw [List.length_map, (Lib.hid (xB_length p19)).out])) ?_
   exact hK _ _ _ rfl (Below.refl _ _) IsOut
  refine ⟨fun u W hb hd K hK => ?_, ?_⟩
  ·
   simp only [Facts, nthR, Is, and_true] at hd
   simp only [hd] at hK ⊢
   clear hd
   go_simp
   refine (ROf (Lib.hid (of_xB p19)) (Lib.hid (xB_length p19)) _).mono ?_
   rintro e wy ⟨rfl, hby⟩
   exact hK _ _ _ rfl hby IsOut
  refine ⟨fun u W hb hd K hK => ?_, ?_⟩
  ·
   clear hd
   go_simp
   apply hK
   ·
    simp only [Act.put, List.setIfInBounds_toArray, List.set_cons_zero, List.set_cons_succ]
    exact rfl
   ·
    exact Below.refl _ _
   ·
    exact IsOut
  refine ⟨fun u W hb hd K hK => ?_, ?_⟩
  ·
   simp only [Facts, nthR, Is, and_true] at hd
   simp only [hd] at hK ⊢
   clear hd
   rw [if_pos (by rfl)]
   refine wp_load_mid 22 (.tmp 54) rfl g8 32 rfl ((yB p19).map B8) _ (ptv_range1 (bg8.below hb lg8)) Tryd.underlying22 rfl (info40.trans (by rw [List.length_map, (Lib.hid (yB_length p19)).out])) ?_
   exact hK _ _ _ rfl (Below.refl _ _) IsOut
  refine ⟨fun u W hb hd K hK => ?_, ?_⟩
  ·
   simp only [Facts, nthR, Is, and_true] at hd
   simp only [hd] at hK ⊢
   clear hd
   go_simp
   refine (ROf (Lib.hid (of_yB p19)) (Lib.hid (yB_length p19)) _).mono ?_
   rintro e wy ⟨rfl, hby⟩
   exact hK _ _ _ rfl hby IsOut
  refine ⟨fun u W hb hd K hK => ?_, ?_⟩
  ·
   simp only [Facts, nthR, Is, and_true] at hd
   simp only [hd] at hK ⊢
   clear hd
   go_simp
   refine (RAddP (hp15) (hp19) hp57 _).mono ?_
   rintro e wy ⟨rfl, hby⟩
   exact hK _ _ _ rfl hby IsOut
  refine ⟨fun u W hb hd K hK => ?_, ?_⟩
  ·
   simp only [Facts, nthR, Is, and_true] at hd
   simp only [hd] at hK ⊢
   clear hd
   go_simp
   apply hK
   ·
    simp only [Act.put, List.setIfInBounds_toArray, List.set_cons_zero, List.set_cons_succ]
    exact rfl
   ·
    exact Below.refl _ _
   ·
    exact IsOut
  refine ⟨fun u W hb hd K hK => ?_, ?_⟩
  ·
   simp only [Facts, nthR, Is, and_true] at hd
   simp only [hd] at hK ⊢
   clear hd
   go_simp
   apply hK
   ·
    simp only [Act.put, List.setIfInBounds_toArray, List.set_cons_zero, List.set_cons_succ]
    exact rfl
   ·
    exact Below.refl _ _
   ·
    exact IsOut
  refine ⟨fun u W hb hd K hK => ?_, ?_⟩
  ·
   simp only [Facts, nthR, Is, and_true] at hd
   simp only [hd] at hK ⊢
   clear hd
   go_simp
   apply hK
   ·
    simp only [Act.put, List.setIfInBounds_toArray, List.set_cons_zero, List.set_cons_succ]
    exact rfl
   ·
    exact Below.refl _ _
   ·
    exact IsOut
  refine ⟨fun u W hb hd K hK => ?_, ?_⟩
  ·
   clear hd
   go_simp
   apply hK
   ·
    simp only [Act.put, List.setIfInBounds_toArray, List.set_cons_zero, List.set_cons_succ]
    exact rfl
   ·
    exact (Below.refl _ _).alloc (Nat.le_refl _) _
   ·
    exact ⟨_, rfl, hb.size, Blk.new_of _ _ _ _ rfl⟩
   ·
    exact ⟨_, rfl, Nat.le_refl _, by simp⟩
  refine ⟨fun u W hb hd K hK => ?_, ?_⟩
  ·
   clear hd
   go_simp
   apply hK
   ·
    simp only [Act.put, List.setIfInBounds_toArray, List.set_cons_zero, List.set_cons_succ]
    exact rfl
   ·
    exact (Below.refl _ _).alloc (Nat.le_refl _) _
   ·
    exact ⟨_, rfl, hb.size, Blk.new_of _ _ _ _ rfl⟩
   ·
    exact ⟨_, rfl, Nat.le_refl _, by simp⟩
  exact trivial
 ·
  skip
  refine ⟨fun o ho u W hb hd => ?_, ?_⟩
  ·
   obtain rfl := Option.some.inj ho
   simp only [Facts, nthR, Is, and_true, List.getD_cons_succ, List.getD_cons_zero] at hd
   simp only [hd]
   clear hd
   exact ⟨_, .inl ⟨by rfl, fun w' => by go_simp⟩, IsOut (w := W)⟩
  exact trivial
 ·
  exact (.is (.is (.is (.is (.is (.is (.is (.is (.is (.is (.is (.is (.is (.is (.is (.is (.cons (fun v V V' ⟨g', h1, h2, h3⟩ hb => ⟨g', h1, h2, h3.below hb h3.lt⟩) (.cons (fun v V V' ⟨g', h1, h2, h3⟩ hb => ⟨g', h1, h2, h3.below hb h3.lt⟩) .nil))))))))))))))))))
 intro u w13 hb hd hne
 simp only [List.drop_succ_cons, List.drop_zero]
 simp only [Facts, nthR, Is, and_true] at hd
 obtain ⟨h14, h15, ⟨g10, h16, hng10, bg10⟩, ⟨g11, h17, hng11, bg11⟩⟩ := hd
 have og10 := Lib.hid (show w.heap.size ≤ g10 ∧ g7 < g10 ∧ g8 < g10 ∧ g9 < g10 from ⟨Nat.le_trans hb0.size hng10, Nat.lt_of_lt_of_le lg7 hng10, Nat.lt_of_lt_of_le lg8 hng10, Nat.lt_of_lt_of_le lg9 hng10⟩)
 have og11 := Lib.hid (show w.heap.size ≤ g11 ∧ g7 < g11 ∧ g8 < g11 ∧ g9 < g11 ∧ g10 ≠ g11 from ⟨Nat.le_trans hb0.size hng11, Nat.lt_of_lt_of_le lg7 hng11, Nat.lt_of_lt_of_le lg8 hng11, Nat.lt_of_lt_of_le lg9 hng11, (fun e => hne 16 17 rfl rfl (by decide) (by decide) (by decide) (by rw [h16, h17, e]))⟩)
 simp only [h14, h15, h16, h17]
 clear h14 h15 h16 h17 hne
 replace bg7 := bg7.below hb lg7
 replace bg8 := bg8.below hb lg8
 replace bg9 := bg9.below hb lg9
 replace hb0 := hb0.trans (hb.mono hb0.size)
 replace lg7 := bg7.lt
 replace lg8 := bg8.lt
 replace lg9 := bg9.lt
 clear hb
 have lg10 := bg10.lt
 clear hng10
 have lg11 := bg11.lt
 clear hng11
 refine wpList_store_blk rfl 29 (.tmp 10) (.tmp 58) rfl rfl g10 (nC (xN p57)) rfl rfl _ _ bg10 (infoN6.trans (by rw [nC_length])) (by first | with_reducible rfl | rw [nC_length, nC_length] | rw [nC_length]) (one4 _) ?_
 intro w14 bn hgs
 replace bg7 := bg7.grown hgs (fun e => Nat.ne_of_lt og10.out.2.1 (Option.some.inj e))
 replace bg8 := bg8.grown hgs (fun e => Nat.ne_of_lt og10.out.2.2.1 (Option.some.inj e))
 replace bg9 := bg9.grown hgs (fun e => Nat.ne_of_lt og10.out.2.2.2 (Option.some.inj e))
 replace bg11 := bg11.grown hgs (fun e => og11.out.2.2.2.2 (Option.some.inj e).symm)
 replace hb0 := below_new hb0 hgs og10.out.1 hb0.size
 clear hgs bg10
 have bg10 := bn
 clear bn
 replace lg7 := bg7.lt
 replace lg8 := bg8.lt
 replace lg9 := bg9.lt
 replace lg10 := bg10.lt
 replace lg11 := bg11.lt
 try simp only [Act.put]
 refine wpList_store_blk rfl 29 (.tmp 11) (.tmp 59) rfl rfl g11 (nC (yN p57)) rfl rfl _ _ bg11 (infoN6.trans (by rw [nC_length])) (by first | with_reducible rfl | rw [nC_length, nC_length] | rw [nC_length]) (one4 _) ?_
 intro w15 bn hgs
 replace bg7 := bg7.grown hgs (fun e => Nat.ne_of_lt og11.out.2.1 (Option.some.inj e))
 replace bg8 := bg8.grown hgs (fun e => Nat.ne_of_lt og11.out.2.2.1 (Option.some.inj e))
 replace bg9 := bg9.grown hgs (fun e => Nat.ne_of_lt og11.out.2.2.2.1 (Option.some.inj e))
 replace bg10 := bg10.grown hgs (fun e => og11.out.2.2.2.2 (Option.some.inj e))
 replace hb0 := below_new hb0 hgs og11.out.1 hb0.size
 clear hgs bg11
 have bg11 := bn
 clear bn
 replace lg7 := bg7.lt
 replace lg8 := bg8.lt
 replace lg9 := bg9.lt
 replace lg10 := bg10.lt
 replace lg11 := bg11.lt
 try simp only [Act.put]
 first | (go_wp2; refine NoPanic.normal ?_) | refine wpList_nil (NoPanic.normal ?_)
 go_upto_region 11 with (fail)
 obtain ⟨B65, hB65⟩ : ∃ s : List UInt8, Hid (bsTo (xN p57) 32 = s) := ⟨_, Lib.hid rfl⟩
 obtain ⟨B72, hB72⟩ : ∃ s : List UInt8, Hid (bsTo (yN p57) 32 = s) := ⟨_, Lib.hid rfl⟩
 obtain ⟨p78, hp78⟩ : ∃ s : Pt, Hid (s = mulG (m + n)) := ⟨_, Lib.hid rfl⟩
 have e57 := Lib.hid (show p57 = p43 by rw [hp57.out, hp43.out])
 have E6 := Lib.hid (show xB p43 = B65 by rw [← hB65.out, bs_xN, e57.out])
 have E13 := Lib.hid (show yB p43 = B72 by rw [← hB72.out, bs_yN, e57.out])
 have E20 := Lib.hid (show p78 = p43 by rw [hp78.out, hp43.out, Nat.add_comm])
 apply wp_region_once_tail (m := 26) (Z := []) (D := [[], [0], [0, 1], [0, 1, 2], [0, 1], [0, 1, 4], [0, 1, 2, 3, 4, 5], [0, 1, 2, 3, 4, 5, 6], [0, 1, 2, 3, 4, 5, 6, 7], [0, 1, 2, 3, 4, 5, 6, 7, 8], [0, 1, 2, 3, 4, 5, 6, 7, 8, 9], [0, 1, 2, 3, 4, 5, 6, 7, 8], [0, 1, 2, 3, 4, 5, 6, 7, 8, 11], [0, 1, 2, 3, 4, 5, 6, 7, 8, 9, 10, 11, 12], [0, 1, 2, 3, 4, 5, 6, 7, 8, 9, 10, 11, 12, 13], [0, 1, 2, 3, 4, 5, 6, 7, 8, 9, 10, 11, 12, 13, 14], [0, 1, 2, 3, 4, 5, 6, 7, 8, 9, 10, 11, 12, 13, 14, 15], [0, 1, 2, 3, 4, 5, 6, 7, 8, 9, 10, 11, 12, 13, 14, 15], [0, 1, 2, 3, 4, 5, 6, 7, 8, 9, 10, 11, 12, 13, 14, 15, 16, 17], [0, 1, 2, 3, 4, 5, 6, 7, 8, 9, 10, 11, 12, 13, 14, 15], [0, 1, 2, 3, 4, 5, 6, 7, 8, 9, 10, 11, 12, 13, 14, 15, 16, 17, 18, 19], [0, 1, 2, 3, 4, 5, 6, 7, 8, 9, 10, 11, 12, 13, 14, 15, 16, 17, 18, 19, 20], [0, 1, 2, 3, 4, 5, 6, 7, 8, 9, 10, 11, 12, 13, 14, 15, 16, 17, 18, 19, 20, 21], [0, 1, 2, 3, 4, 5, 6, 7, 8, 9, 10, 11, 12, 13, 14, 15, 16, 17, 18, 19, 20, 21, 22], [0, 1, 2, 3, 4, 5, 6, 7, 8, 9, 10, 11, 12, 13, 14, 15, 16, 17, 18, 19, 20, 21, 22, 23], [0, 1, 2, 3, 4, 5, 6, 7, 8, 9, 10, 11, 12, 13, 14, 15, 16, 17, 18, 19, 20, 21, 22, 23, 24], [0, 1, 2, 3, 4, 5, 6, 7, 8, 9, 10, 11, 12, 13, 14, 15, 16, 17, 18, 19, 20, 21, 22, 23, 24, 25]]) (J := [[], [0], [1], [1, 2], [1], [1, 4], [1, 3, 5], [1, 6], [7], [8], [8, 9], [8], [8, 11], [8, 10, 12], [8, 13], [14], [15], [15], [15, 16, 17], [15], [15, 18, 19], [15, 20], [21], [22], [22, 23], [22, 24]]) (Je := [25]) (Rs := [Is _, Is _, Is _, Is _, Is _, Is _, Is _, Is _, Is _, Is _, Is _, Is _, Is _, Is _, Is _, Is _, Is _, Is _, Is _, Is _, Is _, Is _, Is _, Is _, Is _, Is _])
 ·
  kernel_rfl
 ·
  kernel_rfl
 ·
  kernel_rfl
 ·
  kernel_rfl
 ·
  kernel_rfl
 ·
  kernel_rfl
 ·
  kernel_rfl
 ·
  exact fun h => absurd rfl h
 ·
  intro u
  simp only [List.take_succ_cons, List.take_zero, List.map_cons, List.map_nil, fillU, List.setIfInBounds_toArray, List.set_cons_zero, List.set_cons_succ, Nat.reduceAdd]
  exact rfl
 ·
  simp only [List.take_succ_cons, List.take_zero]
  refine ⟨fun u W hb hd K hK => ?_, ?_⟩
  ·
   clear hd
   go_simp
   refine (CurvesE (hT.up hb0 hb)).mono ?_
   rintro e wy ⟨rfl, hby⟩
   exact hK _ _ _ rfl hby IsOut
  refine ⟨fun u W hb hd K hK => ?_, ?_⟩
  ·
   simp only [Facts, nthR, Is, and_true] at hd
   simp only [hd] at hK ⊢
   clear hd
   go_simp
   apply hK
   ·
    simp only [Act.put, List.setIfInBounds_toArray, List.set_cons_zero, List.set_cons_succ]
    exact rfl
   ·
    exact Below.refl _ _
   ·
    exact IsOut
  refine ⟨fun u W hb hd K hK => ?_, ?_⟩
  ·
   simp only [Facts, nthR, Is, and_true] at hd
   simp only [hd] at hK ⊢
   clear hd
   go_simp
   apply hK
   ·
    simp only [Act.put, List.setIfInBounds_toArray, List.set_cons_zero, List.set_cons_succ]
    exact rfl
   ·
    exact Below.refl _ _
   ·
    exact IsOut
  refine ⟨fun u W hb hd K hK => ?_, ?_⟩
  ·
   simp only [Facts, nthR, Is, and_true] at hd
   simp only [hd] at hK ⊢
   clear hd
   rw [if_pos (by rfl)]
   refine wp_load_mid 22 (.tmp 62) rfl g9 0 rfl ((xB p43).map B8) _ (ptv_range0 (bg9.below hb lg9)) Tryd.underlying22 rfl (info40.trans (by rw [List.length_map, (Lib.hid (xB_length p43)).out])) ?_
   exact hK _ _ _ rfl (Below.refl _ _) IsOut
  refine ⟨fun u W hb hd K hK => ?_, ?_⟩
  ·
   simp only [Facts, nthR, Is, and_true] at hd
   simp only [hd] at hK ⊢
   clear hd
   rw [if_pos (by rfl)]
   refine wp_load_mid 29 (.tmp 10) rfl g10 0 rfl (nC (xN p57)) _ (rangeAt_of_blk (bg10.below hb lg10)) Tryd.underlying29 rfl (infoN6.trans (by rw [nC_length])) ?_
   exact hK _ _ _ rfl (Below.refl _ _) IsOut
  refine ⟨fun u W hb hd K hK => ?_, ?_⟩
  ·
   simp only [Facts, nthR, Is, and_true] at hd
   simp only [hd] at hK ⊢
   clear hd
   go_simp
   refine (RBytes hB65 _).mono ?_
   rintro e wy ⟨rfl, hby⟩
   exact hK _ _ _ rfl hby IsOut
  refine ⟨fun u W hb hd K hK => ?_, ?_⟩
  ·
   simp only [Facts, nthR, Is, and_true] at hd
   simp only [hd] at hK ⊢
   clear hd
   rw [if_pos (by rfl)]
   refine wp_eqlA rfl rfl rfl guardB32 (show (Op.equalIn 10000 22 (.agg ((xB p43).map B8).toArray) (.agg (B65.map B8).toArray)).run Tryd.prog W = .ok true W from EqB (Lib.hid (xB_length p43)) (bytes_len hB65) (Lib.hid (beq_iff_eq.2 (E6.out))) W) ?_
   exact hK _ _ (.bool true) rfl (Below.refl _ _) IsOut
  refine ⟨fun u W hb hd K hK => ?_, ?_⟩
  ·
   simp only [Facts, nthR, Is, and_true] at hd
   simp only [hd] at hK ⊢
   clear hd
   go_simp
   apply hK
   ·
    simp only [Act.put, List.setIfInBounds_toArray, List.set_cons_zero, List.set_cons_succ]
    exact rfl
   ·
    exact Below.refl _ _
   ·
    exact IsOut
  refine ⟨fun u W hb hd K hK => ?_, ?_⟩
  ·
   simp only [Facts, nthR, Is, and_true] at hd
   simp only [hd] at hK ⊢
   clear hd
   go_simp
   apply hK
   ·
    simp only [Act.put, List.setIfInBounds_toArray, List.set_cons_zero, List.set_cons_succ]
    exact rfl
   ·
    exact Below.refl _ _
   ·
    exact IsOut
  refine ⟨fun u W hb hd K hK => ?_, ?_⟩
  ·
   simp only [Facts, nthR, Is, and_true] at hd
   simp only [hd] at hK ⊢
   clear hd
   go_simp
   apply hK
   ·
    simp only [Act.put, List.setIfInBounds_toArray, List.set_cons_zero, List.set_cons_succ]
    exact rfl
   ·
    exact Below.refl _ _
   ·
    exact IsOut
  refine ⟨fun u W hb hd K hK => ?_, ?_⟩
  ·
   simp only [Facts, nthR, Is, and_true] at hd
   simp only [hd] at hK ⊢
   clear hd
   rw [if_pos (by rfl)]
   refine wp_load_mid 22 (.tmp 69) rfl g9 32 rfl ((yB p43).map B8) _ (ptv_range1 (bg9.below hb lg9)) Tryd.underlying22 rfl (info40.trans (by rw [List.length_map, (Lib.hid (yB_length p43)).out])) ?_
   exact hK _ _ _ rfl (Below.refl _ _) IsOut
  refine ⟨fun u W hb hd K hK => ?_, ?_⟩
  ·
   simp only [Facts, nthR, Is, and_true] at hd
   simp only [hd] at hK ⊢
   clear hd
   rw [if_pos (by rfl)]
   refine wp_load_mid 29 (.tmp 11) rfl g11 0 rfl (nC (yN p57)) _ (rangeAt_of_blk (bg11.below hb lg11)) Tryd.underlying29 rfl (infoN6.trans (by rw [nC_length])) ?_
   exact hK _ _ _ rfl (Below.refl _ _) IsOut
  refine ⟨fun u W hb hd K hK => ?_, ?_⟩
  ·
   simp only [Facts, nthR, Is, and_true] at hd
   simp only [hd] at hK ⊢
   clear hd
   go_simp
   refine (RBytes hB72 _).mono ?_
   rintro e wy ⟨rfl, hby⟩
   exact hK _ _ _ rfl hby IsOut
  refine ⟨fun u W hb hd K hK => ?_, ?_⟩
  ·
   simp only [Facts, nthR, Is, and_true] at hd
   simp only [hd] at hK ⊢
   clear hd
   rw [if_pos (by rfl)]
   refine wp_eqlA rfl rfl rfl guardB32 (show (Op.equalIn 10000 22 (.agg ((yB p43).map B8).toArray) (.agg (B72.map B8).toArray)).run Tryd.prog W = .ok true W from EqB (Lib.hid (yB_length p43)) (bytes_len hB72) (Lib.hid (beq_iff_eq.2 (E13.out))) W) ?_
   exact hK _ _ (.bool true) rfl (Below.refl _ _) IsOut
  refine ⟨fun u W hb hd K hK => ?_, ?_⟩
  ·
   simp only [Facts, nthR, Is, and_true] at hd
   simp only [hd] at hK ⊢
   clear hd
   go_simp
   apply hK
   ·
    simp only [Act.put, List.setIfInBounds_toArray, List.set_cons_zero, List.set_cons_succ]
    exact rfl
   ·
    exact Below.refl _ _
   ·
    exact IsOut
  refine ⟨fun u W hb hd K hK => ?_, ?_⟩
  ·
   simp only [Facts, nthR, Is, and_true] at hd
   simp only [hd] at hK ⊢
   clear hd
   go_simp
   apply hK
   ·
    simp only [Act.put, List.setIfInBounds_toArray, List.set_cons_zero, List.set_cons_succ]
    exact rfl
   ·
    exact Below.refl _ _
   ·
    exact IsOut
  refine ⟨fun u W hb hd K hK => ?_, ?_⟩
  ·
   simp only [Facts, nthR, Is, and_true] at hd
   simp only [hd] at hK ⊢
   clear hd
   rw [if_pos (by rfl)]
   refine wp_load_mid 24 (.tmp 8) rfl g8 0 rfl (ptV p19) _ (rangeAt_of_blk (bg8.below hb lg8)) Tryd.underlying24 rfl (infoPt.trans (by rw [ptV_length])) ?_
   exact hK _ _ _ rfl (Below.refl _ _) IsOut
  refine ⟨fun u W hb hd K hK => ?_, ?_⟩
  ·
   simp only [Facts, nthR, Is, and_true] at hd
   simp only [hd] at hK ⊢
   clear hd
   rw [if_pos (by rfl)]
   refine wp_load_mid 24 (.tmp 7) rfl g7 0 rfl (ptV p15) _ (rangeAt_of_blk (bg7.below hb lg7)) Tryd.underlying24 rfl (infoPt.trans (by rw [ptV_length])) ?_
   exact hK _ _ _ rfl (Below.refl _ _) IsOut
  refine ⟨fun u W hb hd K hK => ?_, ?_⟩
  ·
   simp only [Facts, nthR, Is, and_true] at hd
   simp only [hd] at hK ⊢
   clear hd
   go_simp
   refine (AddP (hT.up hb0 hb) (hp19) (hp15) hp78).mono ?_
   rintro e wy ⟨rfl, hby⟩
   exact hK _ _ _ rfl hby IsOut
  refine ⟨fun u W hb hd K hK => ?_, ?_⟩
  ·
   simp only [Facts, nthR, Is, and_true] at hd
   simp only [hd] at hK ⊢
   clear hd
   rw [if_pos (by rfl)]
   refine wp_load_mid 24 (.tmp 9) rfl g9 0 rfl (ptV p43) _ (rangeAt_of_blk (bg9.below hb lg9)) Tryd.underlying24 rfl (infoPt.trans (by rw [ptV_length])) ?_
   exact hK _ _ _ rfl (Below.refl _ _) IsOut
  refine ⟨fun u W hb hd K hK => ?_, ?_⟩
  ·
   simp only [Facts, nthR, Is, and_true] at hd
   simp only [hd] at hK ⊢
   clear hd
   rw [if_pos (by rfl)]
   refine wp_eqlA rfl rfl rfl guardPt (show (Op.equalIn 10000 24 (.agg (ptV p78).toArray) (.agg (ptV p43).toArray)).run Tryd.prog W = .ok true W from EqP (on_of (hp78)) (on_of (hp43)) (Lib.hid (decide_eq_true (E20.out))) W) ?_
   exact hK _ _ (.bool true) rfl (Below.refl _ _) IsOut
  refine ⟨fun u W hb hd K hK => ?_, ?_⟩
  ·
   simp only [Facts, nthR, Is, and_true] at hd
   simp only [hd] at hK ⊢
   clear hd
   go_simp
   apply hK
   ·
    simp only [Act.put, List.setIfInBounds_toArray, List.set_cons_zero, List.set_cons_succ]
    exact rfl
   ·
    exact Below.refl _ _
   ·
    exact IsOut
  refine ⟨fun u W hb hd K hK => ?_, ?_⟩
  ·
   simp only [Facts, nthR, Is, and_true] at hd
   simp only [hd] at hK ⊢
   clear hd
   go_simp
   apply hK
   ·
    simp only [Act.put, List.setIfInBounds_toArray, List.set_cons_zero, List.set_cons_succ]
    exact rfl
   ·
    exact Below.refl _ _
   ·
    exact IsOut
  refine ⟨fun u W hb hd K hK => ?_, ?_⟩
  ·
   simp only [Facts, nthR, Is, and_true] at hd
   simp only [hd] at hK ⊢
   clear hd
   rw [if_pos (by rfl)]
   refine wp_load_mid 24 (.tmp 9) rfl g9 0 rfl (ptV p43) _ (rangeAt_of_blk (bg9.below hb lg9)) Tryd.underlying24 rfl (infoPt.trans (by rw [ptV_length])) ?_
   exact hK _ _ _ rfl (Below.refl _ _) IsOut
  refine ⟨fun u W hb hd K hK => ?_, ?_⟩
  ·
   simp only [Facts, nthR, Is, and_true] at hd
   simp only [hd] at hK ⊢
   clear hd
   go_simp
   refine (OnP (hT.up hb0 hb) (hp43)).mono ?_
   rintro e wy ⟨rfl, hby⟩
   exact hK _ _ _ rfl hby IsOut
  refine ⟨fun u W hb hd K hK => ?_, ?_⟩
  ·
   simp only [Facts, nthR, Is, and_true] at hd
   simp only [hd] at hK ⊢
   clear hd
   go_simp
   apply hK
   ·
    simp only [Act.put, List.setIfInBounds_toArray, List.set_cons_zero, List.set_cons_succ]
    exact rfl
   ·
    exact Below.refl _ _
   ·
    exact IsOut
  exact trivial
 ·
  skip
  exact trivial
 ·
  exact (.is (.is (.is (.is (.is (.is (.is (.is (.is (.is (.is (.is (.is (.is (.is (.is (.is (.is (.is (.is (.is (.is (.is (.is (.is (.is .nil))))))))))))))))))))))))))
 intro u w16 hb hd
 simp only [List.drop_succ_cons, List.drop_zero]
 simp only [Facts, nthR, Is, and_true] at hd
 have h25 := hd
 clear hd
 simp only [h25]
 clear h25
 replace bg7 := bg7.below hb lg7
 replace bg8 := bg8.below hb lg8
 replace bg9 := bg9.below hb lg9
 replace bg10 := bg10.below hb lg10
 replace bg11 := bg11.below hb lg11
 replace hb0 := hb0.trans (hb.mono hb0.size)
 replace lg7 := bg7.lt
 replace lg8 := bg8.lt
 replace lg9 := bg9.lt
 replace lg10 := bg10.lt
 replace lg11 := bg11.lt
 clear hb
 go_wp2_with (fail)
 refine bodyPost_ret (results_tmp Tryd.results4 _ _ _) rfl ?_
 exact ⟨rfl, hb0⟩
set_option maxRecDepth 100000 in
set_option maxHeartbeats 4000000 in
theorem curveAdds_1 (n m z : Nat) (how : Int) (w : World) (hT : TabsC w) (hn : n < 65536) (hm : m < 65536) (hz : Hid (IntKind.u64.wrap how = (z : Int))) (hq : Hid ((z : Int).tmod 4 = 1)) (hq' : Hid ((z : Int) % 4 = 1)) : Calls Tryd.prog 4 #[.int .u16 (n : Int), .int .u16 (m : Int), .int .i64 how] w fun e w' => e = .returned (.bool true) ∧ Below w.heap.size w w' := by
 go_enter Tryd.func4, Tryd.ntmps4
 have hb0 : Below w.heap.size w w := Below.refl _ _
 go_upto_region 0 with (fail)
 refine wp_region_lit ?_
 go_upto_region 1 with (fail)
 obtain ⟨B14, hB14⟩ : ∃ s : List UInt8, Hid (s = bsTo ⟨n, 0, 0, 0⟩ 32) := ⟨_, Lib.hid rfl⟩
 obtain ⟨p15, hp15⟩ : ∃ s : Pt, Hid (s = mulG (n)) := ⟨_, Lib.hid rfl⟩
 obtain ⟨B18, hB18⟩ : ∃ s : List UInt8, Hid (s = bsTo ⟨m, 0, 0, 0⟩ 32) := ⟨_, Lib.hid rfl⟩
 obtain ⟨p19, hp19⟩ : ∃ s : Pt, Hid (s = mulG (m)) := ⟨_, Lib.hid rfl⟩
 apply wp_plain_once (m := 8) (J := [[], [0], [1], [2], [], [4], [5], [6]]) (Je := [3, 7]) (Rs := [Is _, Is _, Is _, Is _, Is _, Is _, Is _, Is _])
 ·
  kernel_rfl
 ·
  kernel_rfl
 ·
  intro u
  simp only [List.take_succ_cons, List.take_zero, List.map_cons, List.map_nil, fillU, List.setIfInBounds_toArray, List.set_cons_zero, List.set_cons_succ, Nat.reduceAdd]
  exact rfl
 ·
  simp only [List.take_succ_cons, List.take_zero]
  refine ⟨fun u W hb hd K hK => ?_, ?_⟩
  ·
   clear hd
   go_simp
   apply hK
   ·
    simp only [Act.put, List.setIfInBounds_toArray, List.set_cons_zero, List.set_cons_succ]
    exact rfl
   ·
    exact Below.refl _ _
   ·
    exact IsOut
  refine ⟨fun u W hb hd K hK => ?_, ?_⟩
  ·
   simp only [Facts, nthR, Is, and_true] at hd
   simp only [hd] at hK ⊢
   clear hd
   have hw : IntKind.i64.wrap (n : Int) = (n : Int) := wrap_i16 hn
   go_simp
   apply hK
   ·
    simp only [Act.put, List.setIfInBounds_toArray, List.set_cons_zero, List.set_cons_succ]
    exact rfl
   ·
    exact Below.refl _ _
   ·
    exact IsOut
  refine ⟨fun u W hb hd K hK => ?_, ?_⟩
  ·
   simp only [Facts, nthR, Is, and_true] at hd
   simp only [hd] at hK ⊢
   clear hd
   go_simp
   refine (SmallE hn hB14 _).mono ?_
   rintro e wy ⟨rfl, hby⟩
   exact hK _ _ _ rfl hby IsOut
  refine ⟨fun u W hb hd K hK => ?_, ?_⟩
  ·
   simp only [Facts, nthR, Is, and_true] at hd
   simp only [hd] at hK ⊢
   clear hd
   go_simp
   refine (OfE (hT.up hb0 hb) (small_len hB14) (small_val hn hB14) hp15).mono ?_
   rintro e wy ⟨rfl, hby⟩
   exact hK _ _ _ rfl hby IsOut
  refine ⟨fun u W hb hd K hK => ?_, ?_⟩
  ·
   clear hd
   go_simp
   apply hK
   ·
    simp only [Act.put, List.setIfInBounds_toArray, List.set_cons_zero, List.set_cons_succ]
    exact rfl
   ·
    exact Below.refl _ _
   ·
    exact IsOut
  refine ⟨fun u W hb hd K hK => ?_, ?_⟩
  ·
   simp only [Facts, nthR, Is, and_true] at hd
   simp only [hd] at hK ⊢
   clear hd
   have hw : IntKind.i64.wrap (m : Int) = (m : Int) := wrap_i16 hm
   go_simp
   apply hK
   ·
    simp only [Act.put, List.setIfInBounds_toArray, List.set_cons_zero, List.set_cons_succ]
    exact rfl
   ·
    exact Below.refl _ _
   ·
    exact IsOut
  refine ⟨fun u W hb hd K hK => ?_, ?_⟩
  ·
   simp only [Facts, nthR, Is, and_true] at hd
   simp only [hd] at hK ⊢
   clear hd
   go_simp
   refine (SmallE hm hB18 _).mono ?_
   rintro e wy ⟨rfl, hby⟩
   exact hK _ _ _ rfl hby IsOut
  refine ⟨fun u W hb hd K hK => ?_, ?_⟩
  ·
   simp only [Facts, nthR, Is, and_true] at hd
   simp only [hd] at hK ⊢
   clear hd
   go_simp
   refine (OfE (hT.up hb0 hb) (small_len hB18) (small_val hm hB18) hp19).mono ?_
   rintro e wy ⟨rfl, hby⟩
   exact hK _ _ _ rfl hby IsOut
  exact trivial
 ·
  exact (.is (.is (.is (.is (.is (.is (.is (.is .nil))))))))
 intro u w1 hb hd
 simp only [List.drop_succ_cons, List.drop_zero]
 simp only [Facts, nthR, Is, and_true] at hd
 obtain ⟨h3, h7⟩ := hd
 simp only [h3, h7]
 clear h3 h7
 replace hb0 := hb0.trans (hb.mono hb0.size)
 clear hb
 refine wpList_new_blk rfl 24 rfl (ptV none) zeroPt ?_
 intro g7 w2 hg bg7 hb
 have og7 := Lib.hid (show w.heap.size ≤ g7 from Nat.le_trans hb0.size (Nat.le_of_eq hg.symm))
 clear hg
 replace hb0 := hb0.trans (hb.mono hb0.size)
 clear hb
 have lg7 := bg7.lt
 try simp only [Act.put, List.setIfInBounds_toArray, List.set_cons_zero, List.set_cons_succ]
 refine wpList_new_blk rfl 24 rfl (ptV none) zeroPt ?_
 intro g8 w3 hg bg8 hb
 have og8 := Lib.hid (show w.heap.size ≤ g8 ∧ g7 < g8 from ⟨Nat.le_trans hb0.size (Nat.le_of_eq hg.symm), Nat.lt_of_lt_of_le lg7 (Nat.le_of_eq hg.symm)⟩)
 clear hg
 replace bg7 := bg7.below hb lg7
 replace hb0 := hb0.trans (hb.mono hb0.size)
 replace lg7 := bg7.lt
 clear hb
 have lg8 := bg8.lt
 try simp only [Act.put, List.setIfInBounds_toArray, List.set_cons_zero, List.set_cons_succ]
 refine wpList_store_blk rfl 24 (.tmp 7) (.tmp 15) rfl rfl g7 (ptV p15) rfl rfl _ _ bg7 (infoPt.trans (by rw [ptV_length])) (by first | with_reducible rfl | rw [ptV_length, ptV_length] | rw [ptV_length]) (onePv _) ?_
 intro w4 bn hgs
 replace bg8 := bg8.grown hgs (fun e => Nat.ne_of_gt og8.out.2 (Option.some.inj e))
 replace hb0 := below_new hb0 hgs og7.out hb0.size
 clear hgs bg7
 have bg7 := bn
 clear bn
 replace lg7 := bg7.lt
 replace lg8 := bg8.lt
 try simp only [Act.put]
 refine wpList_store_blk rfl 24 (.tmp 8) (.tmp 19) rfl rfl g8 (ptV p19) rfl rfl _ _ bg8 (infoPt.trans (by rw [ptV_length])) (by first | with_reducible rfl | rw [ptV_length, ptV_length] | rw [ptV_length]) (onePv _) ?_
 intro w5 bn hgs
 replace bg7 := bg7.grown hgs (fun e => Nat.ne_of_lt og8.out.2 (Option.some.inj e))
 replace hb0 := below_new hb0 hgs og8.out.1 hb0.size
 clear hgs bg8
 have bg8 := bn
 clear bn
 replace lg7 := bg7.lt
 replace lg8 := bg8.lt
 try simp only [Act.put]
 go_upto_region 2 with (fail)
 apply wp_plain_once (m := 4) (J := [[], [0], [1], [2]]) (Je := [3]) (Rs := [Is _, Is _, Is _, Is _])
 ·
  kernel_rfl
 ·
  kernel_rfl
 ·
  intro u
  simp only [List.take_succ_cons, List.take_zero, List.map_cons, List.map_nil, fillU, List.setIfInBounds_toArray, List.set_cons_zero, List.set_cons_succ, Nat.reduceAdd]
  exact rfl
 ·
  simp only [List.take_succ_cons, List.take_zero]
  refine ⟨fun u W hb hd K hK => ?_, ?_⟩
  ·
   clear hd
   go_simp
   apply hK
   ·
    simp only [Act.put, List.setIfInBounds_toArray, List.set_cons_zero, List.set_cons_succ]
    exact rfl
   ·
    exact Below.refl _ _
   ·
    exact IsOut
  refine ⟨fun u W hb hd K hK => ?_, ?_⟩
  ·
   simp only [Facts, nthR, Is, and_true] at hd
   simp only [hd] at hK ⊢
   clear hd
   have hw := hz.out
   go_simp
   apply hK
   ·
    simp only [Act.put, List.setIfInBounds_toArray, List.set_cons_zero, List.set_cons_succ]
    exact rfl
   ·
    exact Below.refl _ _
   ·
    exact IsOut
  refine ⟨fun u W hb hd K hK => ?_, ?_⟩
  ·
   simp only [Facts, nthR, Is, and_true] at hd
   simp only [hd] at hK ⊢
   clear hd
   have hw := hq.out
   have hw' := hq'.out
   go_simp
   apply hK
   ·
    simp only [Act.put, List.setIfInBounds_toArray, List.set_cons_zero, List.set_cons_succ]
    exact rfl
   ·
    exact Below.refl _ _
   ·
    exact IsOut
  refine ⟨fun u W hb hd K hK => ?_, ?_⟩
  ·
   simp only [Facts, nthR, Is, and_true] at hd
   simp only [hd] at hK ⊢
   clear hd
   have hw : IntKind.i64.wrap (1 : Int) = (1 : Int) := by decide
   go_simp
   apply hK
   ·
    simp only [Act.put, List.setIfInBounds_toArray, List.set_cons_zero, List.set_cons_succ]
    exact rfl
   ·
    exact Below.refl _ _
   ·
    exact IsOut
  exact trivial
 ·
  exact (.is (.is (.is (.is .nil))))
 intro u w6 hb hd
 simp only [List.drop_succ_cons, List.drop_zero]
 simp only [Facts, nthR, Is, and_true] at hd
 have h3 := hd
 clear hd
 simp only [h3]
 clear h3
 replace bg7 := bg7.below hb lg7
 replace bg8 := bg8.below hb lg8
 replace hb0 := hb0.trans (hb.mono hb0.size)
 replace lg7 := bg7.lt
 replace lg8 := bg8.lt
 clear hb
 go_upto_region 3 with (fail)
 apply wp_plain_once (m := 1) (J := [[]]) (Je := [0]) (Rs := [Is _])
 ·
  kernel_rfl
 ·
  kernel_rfl
 ·
  intro u
  simp only [List.take_succ_cons, List.take_zero, List.map_cons, List.map_nil, fillU, List.setIfInBounds_toArray, List.set_cons_zero, List.set_cons_succ]
  exact rfl
 ·
  simp only [List.take_succ_cons, List.take_zero]
  refine ⟨fun u W hb hd K hK => ?_, ?_⟩
  ·
   clear hd
   go_simp
   apply hK
   ·
    simp only [Act.put, List.setIfInBounds_toArray, List.set_cons_zero, List.set_cons_succ]
    exact rfl
   ·
    exact Below.refl _ _
   ·
    exact IsOut
  exact trivial
 ·
  exact (.is .nil)
 intro u w7 hb hd
 simp only [List.drop_succ_cons, List.drop_zero]
 simp only [Facts, nthR, Is, and_true] at hd
 have h0 := hd
 clear hd
 simp only [h0]
 clear h0
 replace bg7 := bg7.below hb lg7
 replace bg8 := bg8.below hb lg8
 replace hb0 := hb0.trans (hb.mono hb0.size)
 replace lg7 := bg7.lt
 replace lg8 := bg8.lt
 clear hb
 go_upto_region 4 with (fail)
 apply wp_plain_once (m := 1) (J := [[]]) (Je := [0]) (Rs := [Is _])
 ·
  kernel_rfl
 ·
  kernel_rfl
 ·
  intro u
  simp only [List.take_succ_cons, List.take_zero, List.map_cons, List.map_nil, fillU, List.setIfInBounds_toArray, List.set_cons_zero, List.set_cons_succ]
  exact rfl
 ·
  simp only [List.take_succ_cons, List.take_zero]
  refine ⟨fun u W hb hd K hK => ?_, ?_⟩
  ·
   clear hd
   rw [if_pos (by rfl)]
   refine wp_load_mid 24 (.tmp 7) rfl g7 0 rfl (ptV p15) _ (rangeAt_of_blk (bg7.below hb lg7)) Tryd.underlying24 rfl (infoPt.trans (by rw [ptV_length])) ?_
   exact hK _ _ _ rfl (Below.refl _ _) IsOut
  exact trivial
 ·
  exact (.is .nil)
 intro u w8 hb hd
 simp only [List.drop_succ_cons, List.drop_zero]
 simp only [Facts, nthR, Is, and_true] at hd
 have h0 := hd
 clear hd
 simp only [h0]
 clear h0
 replace bg7 := bg7.below hb lg7
 replace bg8 := bg8.below hb lg8
 replace hb0 := hb0.trans (hb.mono hb0.size)
 replace lg7 := bg7.lt
 replace lg8 := bg8.lt
 clear hb
 refine wpList_store_blk rfl 24 (.tmp 8) (.tmp 26) rfl rfl g8 (ptV p15) rfl rfl _ _ bg8 (infoPt.trans (by rw [ptV_length])) (by first | with_reducible rfl | rw [ptV_length, ptV_length] | rw [ptV_length]) (onePv _) ?_
 intro w9 bn hgs
 replace bg7 := bg7.grown hgs (fun e => Nat.ne_of_lt og8.out.2 (Option.some.inj e))
 replace hb0 := below_new hb0 hgs og8.out.1 hb0.size
 clear hgs bg8
 have bg8 := bn
 clear bn
 replace lg7 := bg7.lt
 replace lg8 := bg8.lt
 try simp only [Act.put]
 go_upto_region 9 with (fail)
 obtain ⟨p43, hp43⟩ : ∃ s : Pt, Hid (s = mulG (n + n)) := ⟨_, Lib.hid rfl⟩
 apply wp_plain_once (m := 3) (J := [[], [], [0, 1]]) (Je := [2]) (Rs := [Is _, Is _, Is _])
 ·
  kernel_rfl
 ·
  kernel_rfl
 ·
  intro u
  simp only [List.take_succ_cons, List.take_zero, List.map_cons, List.map_nil, fillU, List.setIfInBounds_toArray, List.set_cons_zero, List.set_cons_succ, Nat.reduceAdd]
  exact rfl
 ·
  simp only [List.take_succ_cons, List.take_zero]
  refine ⟨fun u W hb hd K hK => ?_, ?_⟩
  ·
   clear hd
   rw [if_pos (by rfl)]
   refine wp_load_mid 24 (.tmp 7) rfl g7 0 rfl (ptV p15) _ (rangeAt_of_blk (bg7.below hb lg7)) Tryd.underlying24 rfl (infoPt.trans (by rw [ptV_length])) ?_
   exact hK _ _ _ rfl (Below.refl _ _) IsOut
  refine ⟨fun u W hb hd K hK => ?_, ?_⟩
  ·
   clear hd
   rw [if_pos (by rfl)]
   refine wp_load_mid 24 (.tmp 8) rfl g8 0 rfl (ptV p15) _ (rangeAt_of_blk (bg8.below hb lg8)) Tryd.underlying24 rfl (infoPt.trans (by rw [ptV_length])) ?_
   exact hK _ _ _ rfl (Below.refl _ _) IsOut
  refine ⟨fun u W hb hd K hK => ?_, ?_⟩
  ·
   simp only [Facts, nthR, Is, and_true] at hd
   simp only [hd] at hK ⊢
   clear hd
   go_simp
   refine (AddP (hT.up hb0 hb) (hp15) (hp15) hp43).mono ?_
   rintro e wy ⟨rfl, hby⟩
   exact hK _ _ _ rfl hby IsOut
  exact trivial
 ·
  exact (.is (.is (.is .nil)))
 intro u w10 hb hd
 simp only [List.drop_succ_cons, List.drop_zero]
 simp only [Facts, nthR, Is, and_true] at hd
 have h2 := hd
 clear hd
 simp only [h2]
 clear h2
 replace bg7 := bg7.below hb lg7
 replace bg8 := bg8.below hb lg8
 replace hb0 := hb0.trans (hb.mono hb0.size)
 replace lg7 := bg7.lt
 replace lg8 := bg8.lt
 clear hb
 refine wpList_new_blk rfl 24 rfl (ptV none) zeroPt ?_
 intro g9 w11 hg bg9 hb
 have og9 := Lib.hid (show w.heap.size ≤ g9 ∧ g7 < g9 ∧ g8 < g9 from ⟨Nat.le_trans hb0.size (Nat.le_of_eq hg.symm), Nat.lt_of_lt_of_le lg7 (Nat.le_of_eq hg.symm), Nat.lt_of_lt_of_le lg8 (Nat.le_of_eq hg.symm)⟩)
 clear hg
 replace bg7 := bg7.below hb lg7
 replace bg8 := bg8.below hb lg8
 replace hb0 := hb0.trans (hb.mono hb0.size)
 replace lg7 := bg7.lt
 replace lg8 := bg8.lt
 clear hb
 have lg9 := bg9.lt
 try simp only [Act.put, List.setIfInBounds_toArray, List.set_cons_zero, List.set_cons_succ]
 refine wpList_store_blk rfl 24 (.tmp 9) (.tmp 43) rfl rfl g9 (ptV p43) rfl rfl _ _ bg9 (infoPt.trans (by rw [ptV_length])) (by first | with_reducible rfl | rw [ptV_length, ptV_length] | rw [ptV_length]) (onePv _) ?_
 intro w12 bn hgs
 replace bg7 := bg7.grown hgs (fun e => Nat.ne_of_lt og9.out.2.1 (Option.some.inj e))
 replace bg8 := bg8.grown hgs (fun e => Nat.ne_of_lt og9.out.2.2 (Option.some.inj e))
 replace hb0 := below_new hb0 hgs og9.out.1 hb0.size
 clear hgs bg9
 have bg9 := bn
 clear bn
 replace lg7 := bg7.lt
 replace lg8 := bg8.lt
 replace lg9 := bg9.lt
 try simp only [Act.put]
 go_upto_region 10 with (fail)
 obtain ⟨p57, hp57⟩ : ∃ s : Pt, Hid (s = mulG (n + n)) := ⟨_, Lib.hid rfl⟩
 refine wp_region_noPanic ?_
 apply wp_region_fresh (m := 18) (Z := [15]) (Fl := [false, false, false, false, false, false, false, false, false, false, false, false, false, false, false, false, true, true]) (D := [[], [0], [0, 1], [], [3], [0, 1, 2, 3, 4], [], [6], [0, 1, 2, 3, 4, 5, 6, 7], [], [9], [0, 1, 2, 3, 4, 5, 6, 7, 8, 9, 10], [0, 1, 2, 3, 4, 5, 6, 7, 8, 9, 10, 11], [0, 1, 2, 3, 4, 5, 6, 7, 8, 9, 10, 11, 12], [0, 1, 2, 3, 4, 5, 6, 7, 8, 9, 10, 11, 12, 13], [0, 1, 2, 3, 4, 5, 6, 7, 8, 9, 10, 11, 12, 13], [], [], [0, 1, 2, 3, 4, 5, 6, 7, 8, 9, 10, 11, 12, 13, 14, 16, 17], [0, 1, 2, 3, 4, 5, 6, 7, 8, 9, 10, 11, 12, 13, 14, 15, 16, 17, 18]]) (J := [[], [0], [1], [], [3], [4], [], [6], [7], [], [9], [10], [2, 5, 8, 11], [12], [13], [13], [], []]) (Je := [14, 15, 16, 17]) (Rs := [Is _, Is _, Is _, Is _, Is _, Is _, Is _, Is _, Is _, Is _, Is _, Is _, Is _, Is _, Is _, Is _, fun v V => ∃ g', v = .pointer (some ⟨g', 0, none⟩) ∧ w12.heap.size ≤ g' ∧ Blk V g' 29 (nC zeroP), fun v V => ∃ g', v = .pointer (some ⟨g', 0, none⟩) ∧ w12.heap.size ≤ g' ∧ Blk V g' 29 (nC zeroP)])
 ·
  kernel_rfl
 ·
  kernel_rfl
 ·
  kernel_rfl
 ·
  kernel_rfl
 ·
  kernel_rfl
 ·
  kernel_rfl
 ·
  kernel_rfl
 ·
  kernel_rfl
 ·
  exact fun _ _ _ _ _ _ h => h
 ·
  intro u
  simp only [List.take_succ_cons, List.take_zero, List.map_cons, List.map_nil, fillU, List.setIfInBounds_toArray, List.set_cons_zero, List.set_cons_succ, Nat.reduceAdd]
  exact rfl
 ·
  simp only [List.take_succ_cons, List.take_zero]
  refine ⟨fun u W hb hd K hK => ?_, ?_⟩
  ·
   clear hd
   go_simp
   apply hK
   ·
    simp only [Act.put, List.setIfInBounds_toArray, List.set_cons_zero, List.set_cons_succ]
    exact rfl
   ·
    exact Below.refl _ _
   ·
    exact IsOut
  refine ⟨fun u W hb hd K hK => ?_, ?_⟩
  ·
   simp only [Facts, nthR, Is, and_true] at hd
   simp only [hd] at hK ⊢
   clear hd
   rw [if_pos (by rfl)]
   refine wp_load_mid 22 (.tmp 45) rfl g7 0 rfl ((xB p15).map B8) _ (ptv_range0 (bg7.below hb lg7)) Tryd.underlying22 rfl (info40.trans (by rw [List.length_map, (Lib.hid (xB_length p15)).out])) ?_
   exact hK _ _ _ rfl (Below.refl _ _) IsOut
  refine ⟨fun u W hb hd K hK => ?_, ?_⟩
  ·
   simp only [Facts, nthR, Is, and_true] at hd
   simp only [hd] at hK ⊢
   clear hd
   go_simp
   refine (ROf (Lib.hid (of_xB p15)) (Lib.hid (xB_length p15)) _).mono ?_
   rintro e wy ⟨rfl, hby⟩
   exact hK _ _ _ rfl hby IsOut
  refine ⟨fun u W hb hd K hK => ?_, ?_⟩
  ·
   clear hd
   go_simp
   apply hK
   ·
    simp only [Act.put, List.setIfInBounds_toArray, List.set_cons_zero, List.set_cons_succ]
    exact rfl
   ·
    exact Below.refl _ _
   ·
    exact IsOut
  refine ⟨fun u W hb hd K hK => ?_, ?_⟩
  ·
   simp only [Facts, nthR, Is, and_true] at hd
   simp only [hd] at hK ⊢
   clear hd
   rw [if_pos (by rfl)]
   refine wp_load_mid 22 (.tmp 48) rfl g7 32 rfl ((yB p15).map B8) _ (ptv_range1 (bg7.below hb lg7)) Tryd.underlying22 rfl (info40.trans (by rw [List.length_map, (Lib.hid (yB_length p15)).out])) ?_
   exact hK _ _ _ rfl (Below.refl _ _) IsOut
  refine ⟨fun u W hb hd K hK => ?_, ?_⟩
  ·
   simp only [Facts, nthR, Is, and_true] at hd
   simp only [hd] at hK ⊢
   clear hd
   go_simp
   refine (ROf (Lib.hid (of_yB p15)) (Lib.hid (yB_length p15)) _).mono ?_
   rintro e wy ⟨rfl, hby⟩
   exact hK _ _ _ rfl hby IsOut
  refine ⟨fun u W hb hd K hK => ?_, ?_⟩
  ·
   clear hd
   go_simp
   apply hK
   ·
    simp only [Act.put, List.setIfInBounds_toArray, List.set_cons_zero, List.set_cons_succ]
    exact rfl
   ·
    exact Below.refl _ _
   ·
    exact IsOut
  refine ⟨fun u W hb hd K hK => ?_, ?_⟩
  ·
   simp only [Facts, nthR, Is, and_true] at hd
   simp only [hd] at hK ⊢
   clear hd
   rw [if_pos (by rfl)]
   refine wp_load_mid 22 (.tmp 51) rfl g8 0 rfl ((xB p15).map B8) _ (ptv_range0 (bg8.below hb lg8)) Tryd.underlying22 rfl (info40.trans (by rw [List.length_map, (Lib.hid (xB_length p15)).out])) ?_
   exact hK _ _ _ rfl (Below.refl _ _) IsOut
  refine ⟨fun u W hb hd K hK => ?_, ?_⟩
  ·
   simp only [Facts, nthR, Is, and_true] at hd
   simp only [hd] at hK ⊢
   clear hd
   go_simp
   refine (ROf (Lib.hid (of_xB p15)) (Lib.hid (xB_length p15)) _).mono ?_
   rintro e wy ⟨rfl, hby⟩
   exact hK _ _ _ rfl hby IsOut
  refine ⟨fun u W hb hd K hK => ?_, ?_⟩
  ·
   clear hd
   go_simp
   apply hK
   ·
    simp only [Act.put, List.setIfInBounds_toArray, List.set_cons_zero, List.set_cons_succ]
    exact rfl
   ·
    exact Below.refl _ _
   ·
    exact IsOut
  refine ⟨fun u W hb hd K hK => ?_, ?_⟩
  ·
   simp only [Facts, nthR, Is, and_true] at hd
   simp only [hd] at hK ⊢
   clear hd
   rw [if_pos (by rfl)]
   refine wp_load_mid 22 (.tmp 54) rfl g8 32 rfl ((yB p15).map B8) _ (ptv_range1 (bg8.below hb lg8)) Tryd.underlying22 rfl (info40.trans (by rw [List.length_map, (Lib.hid (yB_length p15)).out])) ?_
   exact hK _ _ _ rfl (Below.refl _ _) IsOut
  refine ⟨fun u W hb hd K hK => ?_, ?_⟩
  ·
   simp only [Facts, nthR, Is, and_true] at hd
   simp only [hd] at hK ⊢
   clear hd
   go_simp
   refine (ROf (Lib.hid (of_yB p15)) (Lib.hid (yB_length p15)) _).mono ?_
   rintro e wy ⟨rfl, hby⟩
   exact hK _ _ _ rfl hby IsOut
  refine ⟨fun u W hb hd K hK => ?_, ?_⟩
  ·
   simp only [Facts, nthR, Is, and_true] at hd
   simp only [hd] at hK ⊢
   clear hd
   go_simp
   refine (RAddP (hp15) (hp15) hp57 _).mono ?_
   rintro e wy ⟨rfl, hby⟩
   exact hK _ _ _ rfl hby IsOut
  refine ⟨fun u W hb hd K hK => ?_, ?_⟩
  ·
   simp only [Facts, nthR, Is, and_true] at hd
   simp only [hd] at hK ⊢
   clear hd
   go_simp
   apply hK
   ·
    simp only [Act.put, List.setIfInBounds_toArray, List.set_cons_zero, List.set_cons_succ]
    exact rfl
   ·
    exact Below.refl _ _
   ·
    exact IsOut
  refine ⟨fun u W hb hd K hK => ?_, ?_⟩
  ·
   simp only [Facts, nthR, Is, and_true] at hd
   simp only [hd] at hK ⊢
   clear hd
   go_simp
   apply hK
   ·
    simp only [Act.put, List.setIfInBounds_toArray, List.set_cons_zero, List.set_cons_succ]
    exact rfl
   ·
    exact Below.refl _ _
   ·
    exact IsOut
  refine ⟨fun u W hb hd K hK => ?_, ?_⟩
  ·
   simp only [Facts, nthR, Is, and_true] at hd
   simp only [hd] at hK ⊢
   clear hd
   go_simp
   apply hK
   ·
    simp only [Act.put, List.setIfInBounds_toArray, List.set_cons_zero, List.set_cons_succ]
    exact rfl
   ·
    exact Below.refl _ _
   ·
    exact IsOut
  refine ⟨fun u W hb hd K hK => ?_, ?_⟩
  ·
   clear hd
   go_simp
   apply hK
   ·
    simp only [Act.put, List.setIfInBounds_toArray, List.set_cons_zero, List.set_cons_succ]
    exact rfl
   ·
    exact (Below.refl _ _).alloc (Nat.le_refl _) _
   ·
    exact ⟨_, rfl, hb.size, Blk.new_of _ _ _ _ rfl⟩
   ·
    exact ⟨_, rfl, Nat.le_refl _, by simp⟩
  refine ⟨fun u W hb hd K hK => ?_, ?_⟩
  ·
   clear hd
   go_simp
   apply hK
   ·
    simp only [Act.put, List.setIfInBounds_toArray, List.set_cons_zero, List.set_cons_succ]
    exact rfl
   ·
    exact (Below.refl _ _).alloc (Nat.le_refl _) _
   ·
    exact ⟨_, rfl, hb.size, Blk.new_of _ _ _ _ rfl⟩
   ·
    exact ⟨_, rfl, Nat.le_refl _, by simp⟩
  exact trivial
 ·
  skip
  refine ⟨fun o ho u W hb hd => ?_, ?_⟩
  ·
   obtain rfl := Option.some.inj ho
   simp only [Facts, nthR, Is, and_true, List.getD_cons_succ, List.getD_cons_zero] at hd
   simp only [hd]
   clear hd
   exact ⟨_, .inl ⟨by rfl, fun w' => by go_simp⟩, IsOut (w := W)⟩
  exact trivial
 ·
  exact (.is (.is (.is (.is (.is (.is (.is (.is (.is (.is (.is (.is (.is (.is (.is (.is (.cons (fun v V V' ⟨g', h1, h2, h3⟩ hb => ⟨g', h1, h2, h3.below hb h3.lt⟩) (.cons (fun v V V' ⟨g', h1, h2, h3⟩ hb => ⟨g', h1, h2, h3.below hb h3.lt⟩) .nil))))))))))))))))))
 intro u w13 hb hd hne
 simp only [List.drop_succ_cons, List.drop_zero]
 simp only [Facts, nthR, Is, and_true] at hd
 obtain ⟨h14, h15, ⟨g10, h16, hng10, bg10⟩, ⟨g11, h17, hng11, bg11⟩⟩ := hd
 have og10 := Lib.hid (show w.heap.size ≤ g10 ∧ g7 < g10 ∧ g8 < g10 ∧ g9 < g10 from ⟨Nat.le_trans hb0.size hng10, Nat.lt_of_lt_of_le lg7 hng10, Nat.lt_of_lt_of_le lg8 hng10, Nat.lt_of_lt_of_le lg9 hng10⟩)
 have og11 := Lib.hid (show w.heap.size ≤ g11 ∧ g7 < g11 ∧ g8 < g11 ∧ g9 < g11 ∧ g10 ≠ g11 from ⟨Nat.le_trans hb0.size hng11, Nat.lt_of_lt_of_le lg7 hng11, Nat.lt_of_lt_of_le lg8 hng11, Nat.lt_of_lt_of_le lg9 hng11, (fun e => hne 16 17 rfl rfl (by decide) (by decide) (by decide) (by rw [h16, h17, e]))⟩)
 simp only [h14, h15, h16, h17]
 clear h14 h15 h16 h17 hne
 replace bg7 := bg7.below hb lg7
 replace bg8 := bg8.below hb lg8
 replace bg9 := bg9.below hb lg9
 replace hb0 := hb0.trans (hb.mono hb0.size)
 replace lg7 := bg7.lt
 replace lg8 := bg8.lt
 replace lg9 := bg9.lt
 clear hb
 have lg10 := bg10.lt
 clear hng10
 have lg11 := bg11.lt
 clear hng11
 refine wpList_store_blk rfl 29 (.tmp 10) (.tmp 58) rfl rfl g10 (nC (xN p57)) rfl rfl _ _ bg10 (infoN6.trans (by rw [nC_length])) (by first | with_reducible rfl | rw [nC_length, nC_length] | rw [nC_length]) (one4 _) ?_
 intro w14 bn hgs
 replace bg7 := bg7.grown hgs (fun e => Nat.ne_of_lt og10.out.2.1 (Option.some.inj e))
 replace bg8 := bg8.grown hgs (fun e => Nat.ne_of_lt og10.out.2.2.1 (Option.some.inj e))
 replace bg9 := bg9.grown hgs (fun e => Nat.ne_of_lt og10.out.2.2.2 (Option.some.inj e))
 replace bg11 := bg11.grown hgs (fun e => og11.out.2.2.2.2 (Option.some.inj e).symm)
 replace hb0 := below_new hb0 hgs og10.out.1 hb0.size
 clear hgs bg10
 have bg10 := bn
 clear bn
 replace lg7 := bg7.lt
 replace lg8 := bg8.lt
 replace lg9 := bg9.lt
 replace lg10 := bg10.lt
 replace lg11 := bg11.lt
 try simp only [Act.put]
 refine wpList_store_blk rfl 29 (.tmp 11) (.tmp 59) rfl rfl g11 (nC (yN p57)) rfl rfl _ _ bg11 (infoN6.trans (by rw [nC_length])) (by first | with_reducible rfl | rw [nC_length, nC_length] | rw [nC_length]) (one4 _) ?_
 intro w15 bn hgs
 replace bg7 := bg7.grown hgs (fun e => Nat.ne_of_lt og11.out.2.1 (Option.some.inj e))
 replace bg8 := bg8.grown hgs (fun e => Nat.ne_of_lt og11.out.2.2.1 (Option.some.inj e))
 replace bg9 := bg9.grown hgs (fun e => Nat.ne_of_lt og11.out.2.2.2.1 (Option.some.inj e))
 replace bg10 := bg10.grown hgs (fun e => og11.out.2.2.2.2 (Option.some.inj e))
 replace hb0 := below_new hb0 hgs og11.out.1 hb0.size
 clear hgs bg11
 have bg11 := bn
 clear bn
 replace lg7 := bg7.lt
 replace lg8 := bg8.lt
 replace lg9 := bg9.lt
 replace lg10 := bg10.lt
 replace lg11 := bg11.lt
 try simp only [Act.put]
 first | (go_wp2; refine NoPanic.normal ?_) | refine wpList_nil (NoPanic.normal ?_)
 go_upto_region 11 with (fail)
 obtain ⟨B65, hB65⟩ : ∃ s : List UInt8, Hid (bsTo (xN p57) 32 = s) := ⟨_, Lib.hid rfl⟩
 obtain ⟨B72, hB72⟩ : ∃ s : List UInt8, Hid (bsTo (yN p57) 32 = s) := ⟨_, Lib.hid rfl⟩
 obtain ⟨p78, hp78⟩ : ∃ s : Pt, Hid (s = mulG (n + n)) := ⟨_, Lib.hid rfl⟩
 have e57 := Lib.hid (show p57 = p43 by rw [hp57.out, hp43.out])
 have E6 := Lib.hid (show xB p43 = B65 by rw [← hB65.out, bs_xN, e57.out])
 have E13 := Lib.hid (show yB p43 = B72 by rw [← hB72.out, bs_yN, e57.out])
 have E20 := Lib.hid (show p78 = p43 by rw [hp78.out, hp43.out, Nat.add_comm])
 apply wp_region_once_tail (m := 26) (Z := []) (D := [[], [0], [0, 1], [0, 1, 2], [0, 1], [0, 1, 4], [0, 1, 2, 3, 4, 5], [0, 1, 2, 3, 4, 5, 6], [0, 1, 2, 3, 4, 5, 6, 7], [0, 1, 2, 3, 4, 5, 6, 7, 8], [0, 1, 2, 3, 4, 5, 6, 7, 8, 9], [0, 1, 2, 3, 4, 5, 6, 7, 8], [0, 1, 2, 3, 4, 5, 6, 7, 8, 11], [0, 1, 2, 3, 4, 5, 6, 7, 8, 9, 10, 11, 12], [0, 1, 2, 3, 4, 5, 6, 7, 8, 9, 10, 11, 12, 13], [0, 1, 2, 3, 4, 5, 6, 7, 8, 9, 10, 11, 12, 13, 14], [0, 1, 2, 3, 4, 5, 6, 7, 8, 9, 10, 11, 12, 13, 14, 15], [0, 1, 2, 3, 4, 5, 6, 7, 8, 9, 10, 11, 12, 13, 14, 15], [0, 1, 2, 3, 4, 5, 6, 7, 8, 9, 10, 11, 12, 13, 14, 15, 16, 17], [0, 1, 2, 3, 4, 5, 6, 7, 8, 9, 10, 11, 12, 13, 14, 15], [0, 1, 2, 3, 4, 5, 6, 7, 8, 9, 10, 11, 12, 13, 14, 15, 16, 17, 18, 19], [0, 1, 2, 3, 4, 5, 6, 7, 8, 9, 10, 11, 12, 13, 14, 15, 16, 17, 18, 19, 20], [0, 1, 2, 3, 4, 5, 6, 7, 8, 9, 10, 11, 12, 13, 14, 15, 16, 17, 18, 19, 20, 21], [0, 1, 2, 3, 4, 5, 6, 7, 8, 9, 10, 11, 12, 13, 14, 15, 16, 17, 18, 19, 20, 21, 22], [0, 1, 2, 3, 4, 5, 6, 7, 8, 9, 10, 11, 12, 13, 14, 15, 16, 17, 18, 19, 20, 21, 22, 23], [0, 1, 2, 3, 4, 5, 6, 7, 8, 9, 10, 11, 12, 13, 14, 15, 16, 17, 18, 19, 20, 21, 22, 23, 24], [0, 1, 2, 3, 4, 5, 6, 7, 8, 9, 10, 11, 12, 13, 14, 15, 16, 17, 18, 19, 20, 21, 22, 23, 24, 25]]) (J := [[], [0], [1], [1, 2], [1], [1, 4], [1, 3, 5], [1, 6], [7], [8], [8, 9], [8], [8, 11], [8, 10, 12], [8, 13], [14], [15], [15], [15, 16, 17], [15], [15, 18, 19], [15, 20], [21], [22], [22, 23], [22, 24]]) (Je := [25]) (Rs := [Is _, Is _, Is _, Is _, Is _, Is _, Is _, Is _, Is _, Is _, Is _, Is _, Is _, Is _, Is _, Is _, Is _, Is _, Is _, Is _, Is _, Is _, Is _, Is _, Is _, Is _])
 ·
  kernel_rfl
 ·
  kernel_rfl
 ·
  kernel_rfl
 ·
  kernel_rfl
 ·
  kernel_rfl
 ·
  kernel_rfl
 ·
  kernel_rfl
 ·
  exact fun h => absurd rfl h
 ·
  intro u
  simp only [List.take_succ_cons, List.take_zero, List.map_cons, List.map_nil, fillU, List.setIfInBounds_toArray, List.set_cons_zero, List.set_cons_succ, Nat.reduceAdd]
  exact rfl
 ·
  simp only [List.take_succ_cons, List.take_zero]
  refine ⟨fun u W hb hd K hK => ?_, ?_⟩
  ·
   clear hd
   go_simp
   refine (CurvesE (hT.up hb0 hb)).mono ?_
   rintro e wy ⟨rfl, hby⟩
   exact hK _ _ _ rfl hby IsOut
  refine ⟨fun u W hb hd K hK => ?_, ?_⟩
  ·
   simp only [Facts, nthR, Is, and_true] at hd
   simp only [hd] at hK ⊢
   clear hd
   go_simp
   apply hK
   ·
    simp only [Act.put, List.setIfInBounds_toArray, List.set_cons_zero, List.set_cons_succ]
    exact rfl
   ·
    exact Below.refl _ _
   ·
    exact IsOut
  refine ⟨fun u W hb hd K hK => ?_, ?_⟩
  ·
   simp only [Facts, nthR, Is, and_true] at hd
   simp only [hd] at hK ⊢
   clear hd
   go_simp
   apply hK
   ·
    simp only [Act.put, List.setIfInBounds_toArray, List.set_cons_zero, List.set_cons_succ]
    exact rfl
   ·
    exact Below.refl _ _
   ·
    exact IsOut
  refine ⟨fun u W hb hd K hK => ?_, ?_⟩
  ·
   simp only [Facts, nthR, Is, and_true] at hd
   simp only [hd] at hK ⊢
   clear hd
   rw [if_pos (by rfl)]
   refine wp_load_mid 22 (.tmp 62) rfl g9 0 rfl ((xB p43).map B8) _ (ptv_range0 (bg9.below hb lg9)) Tryd.underlying22 rfl (info40.trans (by rw [List.length_map, (Lib.hid (xB_length p43)).out])) ?_
   exact hK _ _ _ rfl (Below.refl _ _) IsOut
  refine ⟨fun u W hb hd K hK => ?_, ?_⟩
  ·
   simp only [Facts, nthR, Is, and_true] at hd
   simp only [hd] at hK ⊢
   clear hd
   rw [if_pos (by rfl)]
   refine wp_load_mid 29 (.tmp 10) rfl g10 0 rfl (nC (xN p57)) _ (rangeAt_of_blk (bg10.below hb lg10)) Tryd.underlying29 rfl (infoN6.trans (by rw [nC_length])) ?_
   exact hK _ _ _ rfl (Below.refl _ _) IsOut
  refine ⟨fun u W hb hd K hK => ?_, ?_⟩
  ·
   simp only [Facts, nthR, Is, and_true] at hd
   simp only [hd] at hK ⊢
   clear hd
   go_simp
   refine (RBytes hB65 _).mono ?_
   rintro e wy ⟨rfl, hby⟩
   exact hK _ _ _ rfl hby IsOut
  refine ⟨fun u W hb hd K hK => ?_, ?_⟩
  ·
   simp only [Facts, nthR, Is, and_true] at hd
   simp only [hd] at hK ⊢
   clear hd
   rw [if_pos (by rfl)]
   refine wp_eqlA rfl rfl rfl guardB32 (show (Op.equalIn 10000 22 (.agg ((xB p43).map B8).toArray) (.agg (B65.map B8).toArray)).run Tryd.prog W = .ok true W from EqB (Lib.hid (xB_length p43)) (bytes_len hB65) (Lib.hid (beq_iff_eq.2 (E6.out))) W) ?_
   exact hK _ _ (.bool true) rfl (Below.refl _ _) IsOut
  refine ⟨fun u W hb hd K hK => ?_, ?_⟩
  ·
   simp only [Facts, nthR, Is, and_true] at hd
   simp only [hd] at hK ⊢
   clear hd
   go_simp
   apply hK
   ·
    simp only [Act.put, List.setIfInBounds_toArray, List.set_cons_zero, List.set_cons_succ]
    exact rfl
   ·
    exact Below.refl _ _
   ·
    exact IsOut
  refine ⟨fun u W hb hd K hK => ?_, ?_⟩
  ·
   simp only [Facts, nthR, Is, and_true] at hd
   simp only [hd] at hK ⊢
   clear hd
   go_simp
   apply hK
   ·
    simp only [Act.put, List.setIfInBounds_toArray, List.set_cons_zero, List.set_cons_succ]
    exact rfl
   ·
    exact Below.refl _ _
   ·
    exact IsOut
  refine ⟨fun u W hb hd K hK => ?_, ?_⟩
  ·
   simp only [Facts, nthR, Is, and_true] at hd
   simp only [hd] at hK ⊢
   clear hd
   go_simp
   apply hK
   ·
    simp only [Act.put, List.setIfInBounds_toArray, List.set_cons_zero, List.set_cons_succ]
    exact rfl
   ·
    exact Below.refl _ _
   ·
    exact IsOut
  refine ⟨fun u W hb hd K hK => ?_, ?_⟩
  ·
   simp only [Facts, nthR, Is, and_true] at hd
   simp only [hd] at hK ⊢
   clear hd
   rw [if_pos (by rfl)]
   refine wp_load_mid 22 (.tmp 69) rfl g9 32 rfl ((yB p43).map B8) _ (ptv_range1 (bg9.below hb lg9)) Tryd.underlying22 rfl (info40.trans (by rw [List.length_map, (Lib.hid (yB_length p43)).out])) ?_
   exact hK _ _ _ rfl (Below.refl _ _) IsOut
  refine ⟨fun u W hb hd K hK => ?_, ?_⟩
  ·
   simp only [Facts, nthR, Is, and_true] at hd
   simp only [hd] at hK ⊢
   clear hd
   rw [if_pos (by rfl)]
   refine wp_load_mid 29 (.tmp 11) rfl g11 0 rfl (nC (yN p57)) _ (rangeAt_of_blk (bg11.below hb lg11)) Tryd.underlying29 rfl (infoN6.trans (by rw [nC_length])) ?_
   exact hK _ _ _ rfl (Below.refl _ _) IsOut
  refine ⟨fun u W hb hd K hK => ?_, ?_⟩
  ·
   simp only [Facts, nthR, Is, and_true] at hd
   simp only [hd] at hK ⊢
   clear hd
   go_simp
   refine (RBytes hB72 _).mono ?_
   rintro e wy ⟨rfl, hby⟩
   exact hK _ _ _ rfl hby IsOut
  refine ⟨fun u W hb hd K hK => ?_, ?_⟩
  ·
   simp only [Facts, nthR, Is, and_true] at hd
   simp only [hd] at hK ⊢
   clear hd
   rw [if_pos (by rfl)]
   refine wp_eqlA rfl rfl rfl guardB32 (show (Op.equalIn 10000 22 (.agg ((yB p43).map B8).toArray) (.agg (B72.map B8).toArray)).run Tryd.prog W = .ok true W from EqB (Lib.hid (yB_length p43)) (bytes_len hB72) (Lib.hid (beq_iff_eq.2 (E13.out))) W) ?_
   exact hK _ _ (.bool true) rfl (Below.refl _ _) IsOut
  refine ⟨fun u W hb hd K hK => ?_, ?_⟩
  ·
   simp only [Facts, nthR, Is, and_true] at hd
   simp only [hd] at hK ⊢
   clear hd
   go_simp
   apply hK
   ·
    simp only [Act.put, List.setIfInBounds_toArray, List.set_cons_zero, List.set_cons_succ]
    exact rfl
   ·
    exact Below.refl _ _
   ·
    exact IsOut
  refine ⟨fun u W hb hd K hK => ?_, ?_⟩
  ·
   simp only [Facts, nthR, Is, and_true] at hd
   simp only [hd] at hK ⊢
   clear hd
   go_simp
   apply hK
   ·
    simp only [Act.put, List.setIfInBounds_toArray, List.set_cons_zero, List.set_cons_succ]
    exact rfl
   ·
    exact Below.refl _ _
   ·
    exact IsOut
  refine ⟨fun u W hb hd K hK => ?_, ?_⟩
  ·
   simp only [Facts, nthR, Is, and_true] at hd
   simp only [hd] at hK ⊢
   clear hd
   rw [if_pos (by rfl)]
   refine wp_load_mid 24 (.tmp 8) rfl g8 0 rfl (ptV p15) _ (rangeAt_of_blk (bg8.below hb lg8)) Tryd.underlying24 rfl (infoPt.trans (by rw [ptV_length])) ?_
   exact hK _ _ _ rfl (Below.refl _ _) IsOut
  refine ⟨fun u W hb hd K hK => ?_, ?_⟩
  ·
   simp only [Facts, nthR, Is, and_true] at hd
   simp only [hd] at hK ⊢
   clear hd
   rw [if_pos (by rfl)]
   refine wp_load_mid 24 (.tmp 7) rfl g7 0 rfl (ptV p15) _ (rangeAt_of_blk (bg7.below hb lg7)) Tryd.underlying24 rfl (infoPt.trans (by rw [ptV_length])) ?_
   exact hK _ _ _ rfl (Below.refl _ _) IsOut
  refine ⟨fun u W hb hd K hK => ?_, ?_⟩
  ·
   simp only [Facts, nthR, Is, and_true] at hd
   simp only [hd] at hK ⊢
   clear hd
   go_simp
   refine (AddP (hT.up hb0 hb) (hp15) (hp15) hp78).mono ?_
   rintro e wy ⟨rfl, hby⟩
   exact hK _ _ _ rfl hby IsOut
  refine ⟨fun u W hb hd K hK => ?_, ?_⟩
  ·
   simp only [Facts, nthR, Is, and_true] at hd
   simp only [hd] at hK ⊢
   clear hd
   rw [if_pos (by rfl)]
   refine wp_load_mid 24 (.tmp 9) rfl g9 0 rfl (ptV p43) _ (rangeAt_of_blk (bg9.below hb lg9)) Tryd.underlying24 rfl (infoPt.trans (by rw [ptV_length])) ?_
   exact hK _ _ _ rfl (Below.refl _ _) IsOut
  refine ⟨fun u W hb hd K hK => ?_, ?_⟩
  ·
   simp only [Facts, nthR, Is, and_true] at hd
   simp only [hd] at hK ⊢
   clear hd
   rw [if_pos (by rfl)]
   refine wp_eqlA rfl rfl rfl guardPt (show (Op.equalIn 10000 24 (.agg (ptV p78).toArray) (.agg (ptV p43).toArray)).run Tryd.prog W = .ok true W from EqP (on_of (hp78)) (on_of (hp43)) (Lib.hid (decide_eq_true (E20.out))) W) ?_
   exact hK _ _ (.bool true) rfl (Below.refl _ _) IsOut
  refine ⟨fun u W hb hd K hK => ?_, ?_⟩
  ·
   simp only [Facts, nthR, Is, and_true] at hd
   simp only [hd] at hK ⊢
   clear hd
   go_simp
   apply hK
   ·
    simp only [Act.put, List.setIfInBounds_toArray, List.set_cons_zero, List.set_cons_succ]
    exact rfl
   ·
    exact Below.refl _ _
   ·
    exact IsOut
  refine ⟨fun u W hb hd K hK => ?_, ?_⟩
  ·
   simp only [Facts, nthR, Is, and_true] at hd
   simp only [hd] at hK ⊢
   clear hd
   go_simp
   apply hK
   ·
    simp only [Act.put, List.setIfInBounds_toArray, List.set_cons_zero, List.set_cons_succ]
    exact rfl
   ·
    exact Below.refl _ _
   ·
    exact IsOut
  refine ⟨fun u W hb hd K hK => ?_, ?_⟩
  ·
   simp only [Facts, nthR, Is, and_true] at hd
   simp only [hd] at hK ⊢
   clear hd
   rw [if_pos (by rfl)]
   refine wp_load_mid 24 (.tmp 9) rfl g9 0 rfl (ptV p43) _ (rangeAt_of_blk (bg9.below hb lg9)) Tryd.underlying24 rfl (infoPt.trans (by rw [ptV_length])) ?_
   exact hK _ _ _ rfl (Below.refl _ _) IsOut
  refine ⟨fun u W hb hd K hK => ?_, ?_⟩
  ·
   simp only [Facts, nthR, Is, and_true] at hd
   simp only [hd] at hK ⊢
   clear hd
   go_simp
   refine (OnP (hT.up hb0 hb) (hp43)).mono ?_
   rintro e wy ⟨rfl, hby⟩
   exact hK _ _ _ rfl hby IsOut
  refine ⟨fun u W hb hd K hK => ?_, ?_⟩
  ·
   simp only [Facts, nthR, Is, and_true] at hd
   simp only [hd] at hK ⊢
   clear hd
   go_simp
   apply hK
   ·
    simp only [Act.put, List.setIfInBounds_toArray, List.set_cons_zero, List.set_cons_succ]
    exact rfl
   ·
    exact Below.refl _ _
   ·
    exact IsOut
  exact trivial
 ·
  skip
  exact trivial
 ·
  exact (.is (.is (.is (.is (.is (.is (.is (.is (.is (.is (.is (.is (.is (.is (.is (.is (.is (.is (.is (.is (.is (.is (.is (.is (.is (.is .nil))))))))))))))))))))))))))
 intro u w16 hb hd
 simp only [List.drop_succ_cons, List.drop_zero]
 simp only [Facts, nthR, Is, and_true] at hd
 have h25 := hd
 clear hd
 simp only [h25]
 clear h25
 replace bg7 := bg7.below hb lg7
 replace bg8 := bg8.below hb lg8
 replace bg9 := bg9.below hb lg9
 replace bg10 := bg10.below hb lg10
 replace bg11 := bg11.below hb lg11
 replace hb0 := hb0.trans (hb.mono hb0.size)
 replace lg7 := bg7.lt
 replace lg8 := bg8.lt
 replace lg9 := bg9.lt
 replace lg10 := bg10.lt
 replace lg11 := bg11.lt
 clear hb
 go_wp2_with (fail)
 refine bodyPost_ret (results_tmp Tryd.results4 _ _ _) rfl ?_
 exact ⟨rfl, hb0⟩
set_option maxRecDepth 100000 in
set_option maxHeartbeats 4000000 in
theorem curveAdds_2 (n m z : Nat) (how : Int) (w : World) (hT : TabsC w) (hn : n < 65536) (hm : m < 65536) (hz : Hid (IntKind.u64.wrap how = (z : Int))) (hq : Hid ((z : Int).tmod 4 = 2)) (hq' : Hid ((z : Int) % 4 = 2)) : Calls Tryd.prog 4 #[.int .u16 (n : Int), .int .u16 (m : Int), .int .i64 how] w fun e w' => e = .returned (.bool true) ∧ Below w.heap.size w w' := by
 go_enter Tryd.func4, Tryd.ntmps4
 have hb0 : Below w.heap.size w w := Below.refl _ _
 go_upto_region 0 with (fail)
 refine wp_region_lit ?_
 go_upto_region 1 with (fail)
 obtain ⟨B14, hB14⟩ : ∃ s : List UInt8, Hid (s = bsTo ⟨n, 0, 0, 0⟩ 32) := ⟨_, Lib.hid rfl⟩
 obtain ⟨p15, hp15⟩ : ∃ s : Pt, Hid (s = mulG (n)) := ⟨_, Lib.hid rfl⟩
 obtain ⟨B18, hB18⟩ : ∃ s : List UInt8, Hid (s = bsTo ⟨m, 0, 0, 0⟩ 32) := ⟨_, Lib.hid rfl⟩
 obtain ⟨p19, hp19⟩ : ∃ s : Pt, Hid (s = mulG (m)) := ⟨_, Lib.hid rfl⟩
 apply wp_plain_once (m := 8) (J := [[], [0], [1], [2], [], [4], [5], [6]]) (Je := [3, 7]) (Rs := [Is _, Is _, Is _, Is _, Is _, Is _, Is _, Is _])
 ·
  kernel_rfl
 ·
  kernel_rfl
 ·
  intro u
  simp only [List.take_succ_cons, List.take_zero, List.map_cons, List.map_nil, fillU, List.setIfInBounds_toArray, List.set_cons_zero, List.set_cons_succ, Nat.reduceAdd]
  exact rfl
 ·
  simp only [List.take_succ_cons, List.take_zero]
  refine ⟨fun u W hb hd K hK => ?_, ?_⟩
  ·
   clear hd
   go_simp
   apply hK
   ·
    simp only [Act.put, List.setIfInBounds_toArray, List.set_cons_zero, List.set_cons_succ]
    exact rfl
   ·
    exact Below.refl _ _
   ·
    exact IsOut
  refine ⟨fun u W hb hd K hK => ?_, ?_⟩
  ·
   simp only [Facts, nthR, Is, and_true] at hd
   simp only [hd] at hK ⊢
   clear hd
   have hw : IntKind.i64.wrap (n : Int) = (n : Int) := wrap_i16 hn
   go_simp
   apply hK
   ·
    simp only [Act.put, List.setIfInBounds_toArray, List.set_cons_zero, List.set_cons_succ]
    exact rfl
   ·
    exact Below.refl _ _
   ·
    exact IsOut
  refine ⟨fun u W hb hd K hK => ?_, ?_⟩
  ·
   simp only [Facts, nthR, Is, and_true] at hd
   simp only [hd] at hK ⊢
   clear hd
   go_simp
   refine (SmallE hn hB14 _).mono ?_
   rintro e wy ⟨rfl, hby⟩
   exact hK _ _ _ rfl hby IsOut
  refine ⟨fun u W hb hd K hK => ?_, ?_⟩
  ·
   simp only [Facts, nthR, Is, and_true] at hd
   simp only [hd] at hK ⊢
   clear hd
   go_simp
   refine (OfE (hT.up hb0 hb) (small_len hB14) (small_val hn hB14) hp15).mono ?_
   rintro e wy ⟨rfl, hby⟩
   exact hK _ _ _ rfl hby IsOut
  refine ⟨fun u W hb hd K hK => ?_, ?_⟩
  ·
   clear hd
   go_simp
   apply hK
   ·
    simp only [Act.put, List.setIfInBounds_toArray, List.set_cons_zero, List.set_cons_succ]
    exact rfl
   ·
    exact Below.refl _ _
   ·
    exact IsOut
  refine ⟨fun u W hb hd K hK => ?_, ?_⟩
  ·
   simp only [Facts, nthR, Is, and_true] at hd
   simp only [hd] at hK ⊢
   clear hd
   have hw : IntKind.i64.wrap (m : Int) = (m : Int) := wrap_i16 hm
   go_simp
   apply hK
   ·
    simp only [Act.put, List.setIfInBounds_toArray, List.set_cons_zero, List.set_cons_succ]
    exact rfl
   ·
    exact Below.refl _ _
   ·
    exact IsOut
  refine ⟨fun u W hb hd K hK => ?_, ?_⟩
  ·
   simp only [Facts, nthR, Is, and_true] at hd
   simp only [hd] at hK ⊢
   clear hd
   go_simp
   refine (SmallE hm hB18 _).mono ?_
   rintro e wy ⟨rfl, hby⟩
   exact hK _ _ _ rfl hby IsOut
  refine ⟨fun u W hb hd K hK => ?_, ?_⟩
  ·
   simp only [Facts, nthR, Is, and_true] at hd
   simp only [hd] at hK ⊢
   clear hd
   go_simp
   refine (OfE (hT.up hb0 hb) (small_len hB18) (small_val hm hB18) hp19).mono ?_
   rintro e wy ⟨rfl, hby⟩
   exact hK _ _ _ rfl hby IsOut
  exact trivial
 ·
  exact (.is (.is (.is (.is (.is (.is (.is (.is .nil))))))))
 intro u w1 hb hd
 simp only [List.drop_succ_cons, List.drop_zero]
 simp only [Facts, nthR, Is, and_true] at hd
 obtain ⟨h3, h7⟩ := hd
 simp only [h3, h7]
 clear h3 h7
 replace hb0 := hb0.trans (hb.mono hb0.size)
 clear hb
 refine wpList_new_blk rfl 24 rfl (ptV none) zeroPt ?_
 intro g7 w2 hg bg7 hb
 have og7 := Lib.hid (show w.heap.size ≤ g7 from Nat.le_trans hb0.size (Nat.le_of_eq hg.symm))
 clear hg
 replace hb0 := hb0.trans (hb.mono hb0.size)
 clear hb
 have lg7 := bg7.lt
 try simp only [Act.put, List.setIfInBounds_toArray, List.set_cons_zero, List.set_cons_succ]
 refine wpList_new_blk rfl 24 rfl (ptV none) zeroPt ?_
 intro g8 w3 hg bg8 hb
 have og8 := Lib.hid (show w.heap.size ≤ g8 ∧ g7 < g8 from ⟨Nat.le_trans hb0.size (Nat.le_of_eq hg.symm), Nat.lt_of_lt_of_le lg7 (Nat.le_of_eq hg.symm)⟩)
 clear hg
 replace bg7 := bg7.below hb lg7
 replace hb0 := hb0.trans (hb.mono hb0.size)
 replace lg7 := bg7.lt
 clear hb
 have lg8 := bg8.lt
 try simp only [Act.put, List.setIfInBounds_toArray, List.set_cons_zero, List.set_cons_succ]
 refine wpList_store_blk rfl 24 (.tmp 7) (.tmp 15) rfl rfl g7 (ptV p15) rfl rfl _ _ bg7 (infoPt.trans (by rw [ptV_length])) (by first | with_reducible rfl | rw [ptV_length, ptV_length] | rw [ptV_length]) (onePv _) ?_
 intro w4 bn hgs
 replace bg8 := bg8.grown hgs (fun e => Nat.ne_of_gt og8.out.2 (Option.some.inj e))
 replace hb0 := below_new hb0 hgs og7.out hb0.size
 clear hgs bg7
 have bg7 := bn
 clear bn
 replace lg7 := bg7.lt
 replace lg8 := bg8.lt
 try simp only [Act.put]
 refine wpList_store_blk rfl 24 (.tmp 8) (.tmp 19) rfl rfl g8 (ptV p19) rfl rfl _ _ bg8 (infoPt.trans (by rw [ptV_length])) (by first | with_reducible rfl | rw [ptV_length, ptV_length] | rw [ptV_length]) (onePv _) ?_
 intro w5 bn hgs
 replace bg7 := bg7.grown hgs (fun e => Nat.ne_of_lt og8.out.2 (Option.some.inj e))
 replace hb0 := below_new hb0 hgs og8.out.1 hb0.size
 clear hgs bg8
 have bg8 := bn
 clear bn
 replace lg7 := bg7.lt
 replace lg8 := bg8.lt
 try simp only [Act.put]
 go_upto_region 2 with (fail)
 apply wp_plain_once (m := 4) (J := [[], [0], [1], [2]]) (Je := [3]) (Rs := [Is _, Is _, Is _, Is _])
 ·
  kernel_rfl
 ·
  kernel_rfl
 ·
  intro u
  simp only [List.take_succ_cons, List.take_zero, List.map_cons, List.map_nil, fillU, List.setIfInBounds_toArray, List.set_cons_zero, List.set_cons_succ, Nat.reduceAdd]
  exact rfl
 ·
  simp only [List.take_succ_cons, List.take_zero]
  refine ⟨fun u W hb hd K hK => ?_, ?_⟩
  ·
   clear hd
   go_simp
   apply hK
   ·
    simp only [Act.put, List.setIfInBounds_toArray, List.set_cons_zero, List.set_cons_succ]
    exact rfl
   ·
    exact Below.refl _ _
   ·
    exact IsOut
  refine ⟨fun u W hb hd K hK => ?_, ?_⟩
  ·
   simp only [Facts, nthR, Is, and_true] at hd
   simp only [hd] at hK ⊢
   clear hd
   have hw := hz.out
   go_simp
   apply hK
   ·
    simp only [Act.put, List.setIfInBounds_toArray, List.set_cons_zero, List.set_cons_succ]
    exact rfl
   ·
    exact Below.refl _ _
   ·
    exact IsOut
  refine ⟨fun u W hb hd K hK => ?_, ?_⟩
  ·
   simp only [Facts, nthR, Is, and_true] at hd
   simp only [hd] at hK ⊢
   clear hd
   have hw := hq.out
   have hw' := hq'.out
   go_simp
   apply hK
   ·
    simp only [Act.put, List.setIfInBounds_toArray, List.set_cons_zero, List.set_cons_succ]
    exact rfl
   ·
    exact Below.refl _ _
   ·
    exact IsOut
  refine ⟨fun u W hb hd K hK => ?_, ?_⟩
  ·
   simp only [Facts, nthR, Is, and_true] at hd
   simp only [hd] at hK ⊢
   clear hd
   have hw : IntKind.i64.wrap (2 : Int) = (2 : Int) := by decide
   go_simp
   apply hK
   ·
    simp only [Act.put, List.setIfInBounds_toArray, List.set_cons_zero, List.set_cons_succ]
    exact rfl
   ·
    exact Below.refl _ _
   ·
    exact IsOut
  exact trivial
 ·
  exact (.is (.is (.is (.is .nil))))
 intro u w6 hb hd
 simp only [List.drop_succ_cons, List.drop_zero]
 simp only [Facts, nthR, Is, and_true] at hd
 have h3 := hd
 clear hd
 simp only [h3]
 clear h3
 replace bg7 := bg7.below hb lg7
 replace bg8 := bg8.below hb lg8
 replace hb0 := hb0.trans (hb.mono hb0.size)
 replace lg7 := bg7.lt
 replace lg8 := bg8.lt
 clear hb
 go_upto_region 3 with (fail)
 apply wp_plain_once (m := 1) (J := [[]]) (Je := [0]) (Rs := [Is _])
 ·
  kernel_rfl
 ·
  kernel_rfl
 ·
  intro u
  simp only [List.take_succ_cons, List.take_zero, List.map_cons, List.map_nil, fillU, List.setIfInBounds_toArray, List.set_cons_zero, List.set_cons_succ]
  exact rfl
 ·
  simp only [List.take_succ_cons, List.take_zero]
  refine ⟨fun u W hb hd K hK => ?_, ?_⟩
  ·
   clear hd
   go_simp
   apply hK
   ·
    simp only [Act.put, List.setIfInBounds_toArray, List.set_cons_zero, List.set_cons_succ]
    exact rfl
   ·
    exact Below.refl _ _
   ·
    exact IsOut
  exact trivial
 ·
  exact (.is .nil)
 intro u w7 hb hd
 simp only [List.drop_succ_cons, List.drop_zero]
 simp only [Facts, nthR, Is, and_true] at hd
 have h0 := hd
 clear hd
 simp only [h0]
 clear h0
 replace bg7 := bg7.below hb lg7
 replace bg8 := bg8.below hb lg8
 replace hb0 := hb0.trans (hb.mono hb0.size)
 replace lg7 := bg7.lt
 replace lg8 := bg8.lt
 clear hb
 go_upto_region 5 with (fail)
 apply wp_plain_once (m := 1) (J := [[]]) (Je := [0]) (Rs := [Is _])
 ·
  kernel_rfl
 ·
  kernel_rfl
 ·
  intro u
  simp only [List.take_succ_cons, List.take_zero, List.map_cons, List.map_nil, fillU, List.setIfInBounds_toArray, List.set_cons_zero, List.set_cons_succ]
  exact rfl
 ·
  simp only [List.take_succ_cons, List.take_zero]
  refine ⟨fun u W hb hd K hK => ?_, ?_⟩
  ·
   clear hd
   go_simp
   apply hK
   ·
    simp only [Act.put, List.setIfInBounds_toArray, List.set_cons_zero, List.set_cons_succ]
    exact rfl
   ·
    exact Below.refl _ _
   ·
    exact IsOut
  exact trivial
 ·
  exact (.is .nil)
 intro u w8 hb hd
 simp only [List.drop_succ_cons, List.drop_zero]
 simp only [Facts, nthR, Is, and_true] at hd
 have h0 := hd
 clear hd
 simp only [h0]
 clear h0
 replace bg7 := bg7.below hb lg7
 replace bg8 := bg8.below hb lg8
 replace hb0 := hb0.trans (hb.mono hb0.size)
 replace lg7 := bg7.lt
 replace lg8 := bg8.lt
 clear hb
 go_upto_region 6 with (fail)
 obtain ⟨n34, hn34⟩ : ∃ s : P4, Hid (s = redP orderP (zeroP.val % orderP.val + orderP.val - (⟨n, 0, 0, 0⟩ : P4).val % orderP.val)) := ⟨_, Lib.hid rfl⟩
 obtain ⟨B35, hB35⟩ : ∃ s : List UInt8, Hid (bsTo n34 32 = s) := ⟨_, Lib.hid rfl⟩
 obtain ⟨p36, hp36⟩ : ∃ s : Pt, Hid (s = mulG (1)) := ⟨_, Lib.hid rfl⟩
 obtain ⟨p37, hp37⟩ : ∃ s : Pt, Hid (s = mulG (n34.val * 1)) := ⟨_, Lib.hid rfl⟩
 apply wp_plain_once (m := 9) (J := [[], [], [1], [2], [], [0, 3, 4], [5], [], [6, 7]]) (Je := [8]) (Rs := [Is _, Is _, Is _, Is _, Is _, Is _, Is _, Is _, Is _])
 ·
  kernel_rfl
 ·
  kernel_rfl
 ·
  intro u
  simp only [List.take_succ_cons, List.take_zero, List.map_cons, List.map_nil, fillU, List.setIfInBounds_toArray, List.set_cons_zero, List.set_cons_succ, Nat.reduceAdd]
  exact rfl
 ·
  simp only [List.take_succ_cons, List.take_zero]
  refine ⟨fun u W hb hd K hK => ?_, ?_⟩
  ·
   clear hd
   rw [if_pos (by rfl)]
   refine wp_builtV 29 _ rfl [] rfl (nC zeroP).toArray built6_0 ?_
   exact hK _ _ _ rfl (Below.refl _ _) IsOut
  refine ⟨fun u W hb hd K hK => ?_, ?_⟩
  ·
   clear hd
   go_simp
   apply hK
   ·
    simp only [Act.put, List.setIfInBounds_toArray, List.set_cons_zero, List.set_cons_succ]
    exact rfl
   ·
    exact Below.refl _ _
   ·
    exact IsOut
  refine ⟨fun u W hb hd K hK => ?_, ?_⟩
  ·
   simp only [Facts, nthR, Is, and_true] at hd
   simp only [hd] at hK ⊢
   clear hd
   have hw : IntKind.u64.wrap (n : Int) = (n : Int) := wrap_small hn
   go_simp
   apply hK
   ·
    simp only [Act.put, List.setIfInBounds_toArray, List.set_cons_zero, List.set_cons_succ]
    exact rfl
   ·
    exact Below.refl _ _
   ·
    exact IsOut
  refine ⟨fun u W hb hd K hK => ?_, ?_⟩
  ·
   simp only [Facts, nthR, Is, and_true] at hd
   simp only [hd] at hK ⊢
   clear hd
   rw [if_pos (by rfl)]
   refine wp_builtV 29 _ rfl [(0, .int .u64 (n : Int))] rfl (nC ⟨n, 0, 0, 0⟩).toArray (built6_n n) ?_
   exact hK _ _ _ rfl (Below.refl _ _) IsOut
  refine ⟨fun u W hb hd K hK => ?_, ?_⟩
  ·
   clear hd
   go_simp
   refine (rN _).mono ?_
   rintro e wy ⟨rfl, hby⟩
   exact hK _ _ _ rfl hby IsOut
  refine ⟨fun u W hb hd K hK => ?_, ?_⟩
  ·
   simp only [Facts, nthR, Is, and_true] at hd
   simp only [hd] at hK ⊢
   clear hd
   go_simp
   refine (RSubN (Lib.hid zeroP_ok) (Lib.hid (small_ok hn)) (Lib.hid orderP_ok) hn34 (by decide) _).mono ?_
   rintro e wy ⟨rfl, hby⟩
   exact hK _ _ _ rfl hby IsOut
  refine ⟨fun u W hb hd K hK => ?_, ?_⟩
  ·
   simp only [Facts, nthR, Is, and_true] at hd
   simp only [hd] at hK ⊢
   clear hd
   go_simp
   refine (RBytes hB35 _).mono ?_
   rintro e wy ⟨rfl, hby⟩
   exact hK _ _ _ rfl hby IsOut
  refine ⟨fun u W hb hd K hK => ?_, ?_⟩
  ·
   clear hd
   go_simp
   refine (BaseP (hT.up hb0 hb) hp36).mono ?_
   rintro e wy ⟨rfl, hby⟩
   exact hK _ _ _ rfl hby IsOut
  refine ⟨fun u W hb hd K hK => ?_, ?_⟩
  ·
   simp only [Facts, nthR, Is, and_true] at hd
   simp only [hd] at hK ⊢
   clear hd
   go_simp
   refine (TimesP (hT.up hb0 hb) (bytes_len hB35) (bytes_val hB35 (ok_red hn34) rfl) (hp36) hp37).mono ?_
   rintro e wy ⟨rfl, hby⟩
   exact hK _ _ _ rfl hby IsOut
  exact trivial
 ·
  exact (.is (.is (.is (.is (.is (.is (.is (.is (.is .nil)))))))))
 intro u w9 hb hd
 simp only [List.drop_succ_cons, List.drop_zero]
 simp only [Facts, nthR, Is, and_true] at hd
 have h8 := hd
 clear hd
 simp only [h8]
 clear h8
 replace bg7 := bg7.below hb lg7
 replace bg8 := bg8.below hb lg8
 replace hb0 := hb0.trans (hb.mono hb0.size)
 replace lg7 := bg7.lt
 replace lg8 := bg8.lt
 clear hb
 refine wpList_store_blk rfl 24 (.tmp 8) (.tmp 37) rfl rfl g8 (ptV p37) rfl rfl _ _ bg8 (infoPt.trans (by rw [ptV_length])) (by first | with_reducible rfl | rw [ptV_length, ptV_length] | rw [ptV_length]) (onePv _) ?_
 intro w10 bn hgs
 replace bg7 := bg7.grown hgs (fun e => Nat.ne_of_lt og8.out.2 (Option.some.inj e))
 replace hb0 := below_new hb0 hgs og8.out.1 hb0.size
 clear hgs bg8
 have bg8 := bn
 clear bn
 replace lg7 := bg7.lt
 replace lg8 := bg8.lt
 try simp only [Act.put]
 go_upto_region 9 with (fail)
 obtain ⟨p43, hp43⟩ : ∃ s : Pt, Hid (s = mulG (n + (n34.val * 1))) := ⟨_, Lib.hid rfl⟩
 apply wp_plain_once (m := 3) (J := [[], [], [0, 1]]) (Je := [2]) (Rs := [Is _, Is _, Is _])
 ·
  kernel_rfl
 ·
  kernel_rfl
 ·
  intro u
  simp only [List.take_succ_cons, List.take_zero, List.map_cons, List.map_nil, fillU, List.setIfInBounds_toArray, List.set_cons_zero, List.set_cons_succ, Nat.reduceAdd]
  exact rfl
 ·
  simp only [List.take_succ_cons, List.take_zero]
  refine ⟨fun u W hb hd K hK => ?_, ?_⟩
  ·
   clear hd
   rw [if_pos (by rfl)]
   refine wp_load_mid 24 (.tmp 7) rfl g7 0 rfl (ptV p15) _ (rangeAt_of_blk (bg7.below hb lg7)) Tryd.underlying24 rfl (infoPt.trans (by rw [ptV_length])) ?_
   exact hK _ _ _ rfl (Below.refl _ _) IsOut
  refine ⟨fun u W hb hd K hK => ?_, ?_⟩
  ·
   clear hd
   rw [if_pos (by rfl)]
   refine wp_load_mid 24 (.tmp 8) rfl g8 0 rfl (ptV p37) _ (rangeAt_of_blk (bg8.below hb lg8)) Tryd.underlying24 rfl (infoPt.trans (by rw [ptV_length])) ?_
   exact hK _ _ _ rfl (Below.refl _ _) IsOut
  refine ⟨fun u W hb hd K hK => ?_, ?_⟩
  ·
   simp only [Facts, nthR, Is, and_true] at hd
   simp only [hd] at hK ⊢
   clear hd
   go_simp
   refine (AddP (hT.up hb0 hb) (hp15) (hp37) hp43).mono ?_
   rintro e wy ⟨rfl, hby⟩
   exact hK _ _ _ rfl hby IsOut
  exact trivial
 ·
  exact (.is (.is (.is .nil)))
 intro u w11 hb hd
 simp only [List.drop_succ_cons, List.drop_zero]
 simp only [Facts, nthR, Is, and_true] at hd
 have h2 := hd
 clear hd
 simp only [h2]
 clear h2
 replace bg7 := bg7.below hb lg7
 replace bg8 := bg8.below hb lg8
 replace hb0 := hb0.trans (hb.mono hb0.size)
 replace lg7 := bg7.lt
 replace lg8 := bg8.lt
 clear hb
 refine wpList_new_blk rfl 24 rfl (ptV none) zeroPt ?_
 intro g9 w12 hg bg9 hb
 have og9 := Lib.hid (show w.heap.size ≤ g9 ∧ g7 < g9 ∧ g8 < g9 from ⟨Nat.le_trans hb0.size (Nat.le_of_eq hg.symm), Nat.lt_of_lt_of_le lg7 (Nat.le_of_eq hg.symm), Nat.lt_of_lt_of_le lg8 (Nat.le_of_eq hg.symm)⟩)
 clear hg
 replace bg7 := bg7.below hb lg7
 replace bg8 := bg8.below hb lg8
 replace hb0 := hb0.trans (hb.mono hb0.size)
 replace lg7 := bg7.lt
 replace lg8 := bg8.lt
 clear hb
 have lg9 := bg9.lt
 try simp only [Act.put, List.setIfInBounds_toArray, List.set_cons_zero, List.set_cons_succ]
 refine wpList_store_blk rfl 24 (.tmp 9) (.tmp 43) rfl rfl g9 (ptV p43) rfl rfl _ _ bg9 (infoPt.trans (by rw [ptV_length])) (by first | with_reducible rfl | rw [ptV_length, ptV_length] | rw [ptV_length]) (onePv _) ?_
 intro w13 bn hgs
 replace bg7 := bg7.grown hgs (fun e => Nat.ne_of_lt og9.out.2.1 (Option.some.inj e))
 replace bg8 := bg8.grown hgs (fun e => Nat.ne_of_lt og9.out.2.2 (Option.some.inj e))
 replace hb0 := below_new hb0 hgs og9.out.1 hb0.size
 clear hgs bg9
 have bg9 := bn
 clear bn
 replace lg7 := bg7.lt
 replace lg8 := bg8.lt
 replace lg9 := bg9.lt
 try simp only [Act.put]
 go_upto_region 10 with (fail)
 obtain ⟨p57, hp57⟩ : ∃ s : Pt, Hid (s = mulG (n + (n34.val * 1))) := ⟨_, Lib.hid rfl⟩
 refine wp_region_noPanic ?_
 apply wp_region_fresh (m := 18) (Z := [15]) (Fl := [false, false, false, false, false, false, false, false, false, false, false, false, false, false, false, false, true, true]) (D := [[], [0], [0, 1], [], [3], [0, 1, 2, 3, 4], [], [6], [0, 1, 2, 3, 4, 5, 6, 7], [], [9], [0, 1, 2, 3, 4, 5, 6, 7, 8, 9, 10], [0, 1, 2, 3, 4, 5, 6, 7, 8, 9, 10, 11], [0, 1, 2, 3, 4, 5, 6, 7, 8, 9, 10, 11, 12], [0, 1, 2, 3, 4, 5, 6, 7, 8, 9, 10, 11, 12, 13], [0, 1, 2, 3, 4, 5, 6, 7, 8, 9, 10, 11, 12, 13], [], [], [0, 1, 2, 3, 4, 5, 6, 7, 8, 9, 10, 11, 12, 13, 14, 16, 17], [0, 1, 2, 3, 4, 5, 6, 7, 8, 9, 10, 11, 12, 13, 14, 15, 16, 17, 18]]) (J := [[], [0], [1], [], [3], [4], [], [6], [7], [], [9], [10], [2, 5, 8, 11], [12], [13], [13], [], []]) (Je := [14, 15, 16, 17]) (Rs := [Is _, Is _, Is _, Is _, Is _, Is _, Is _, Is _, Is _, Is _, Is _, Is _, Is _, Is _, Is _, Is _, fun v V => ∃ g', v = .pointer (some ⟨g', 0, none⟩) ∧ w13.heap.size ≤ g' ∧ Blk V g' 29 (nC zeroP), fun v V => ∃ g', v = .pointer (some ⟨g', 0, none⟩) ∧ w13.heap.size ≤ g' ∧ Blk V g' 29 (nC zeroP)])
 ·
  kernel_rfl
 ·
  kernel_rfl
 ·
  kernel_rfl
 ·
  kernel_rfl
 ·
  kernel_rfl
 ·
  kernel_rfl
 ·
  kernel_rfl
 ·
  kernel_rfl
 ·
  exact fun _ _ _ _ _ _ h => h
 ·
  intro u
  simp only [List.take_succ_cons, List.take_zero, List.map_cons, List.map_nil, fillU, List.setIfInBounds_toArray, List.set_cons_zero, List.set_cons_succ, Nat.reduceAdd]
  exact rfl
 ·
  simp only [List.take_succ_cons, List.take_zero]
  refine ⟨fun u W hb hd K hK => ?_, ?_⟩
  ·
   clear hd
   go_simp
   apply hK
   ·
    simp only [Act.put, List.setIfInBounds_toArray, List.set_cons_zero, List.set_cons_succ]
    exact rfl
   ·
    exact Below.refl _ _
   ·
    exact IsOut
  refine ⟨fun u W hb hd K hK => ?_, ?_⟩
  ·
   simp only [Facts, nthR, Is, and_true] at hd
   simp only [hd] at hK ⊢
   clear hd
   rw [if_pos (by rfl)]
   refine wp_load_mid 22 (.tmp 45) rfl g7 0 rfl ((xB p15).map B8) _ (ptv_range0 (bg7.below hb lg7)) Tryd.underlying22 rfl (info40.trans (by rw [List.length_map, (Lib.hid (xB_length p15)).out])) ?_
   exact hK _ _ _ rfl (Below.refl _ _) IsOut
  refine ⟨fun u W hb hd K hK => ?_, ?_⟩
  ·
   simp only [Facts, nthR, Is, and_true] at hd
   simp only [hd] at hK ⊢
   clear hd
   go_simp
   refine (ROf (Lib.hid (of_xB p15)) (Lib.hid (xB_length p15)) _).mono ?_
   rintro e wy ⟨rfl, hby⟩
   exact hK _ _ _ rfl hby IsOut
  refine ⟨fun u W hb hd K hK => ?_, ?_⟩
  ·
   clear hd
   go_simp
   apply hK
   ·
    simp only [Act.put, List.setIfInBounds_toArray, List.set_cons_zero, List.set_cons_succ]
    exact rfl
   ·
    exact Below.refl _ _
   ·
    exact IsOut
  refine ⟨fun u W hb hd K hK => ?_, ?_⟩
  ·
   simp only [Facts, nthR, Is, and_true] at hd
   simp only [hd] at hK ⊢
   clear hd
   rw [if_pos (by rfl)]
   refine wp_load_mid 22 (.tmp 48) rfl g7 32 rfl ((yB p15).map B8) _ (ptv_range1 (bg7.below hb lg7)) Tryd.underlying22 rfl (info40.trans (by rw [List.length_map, (Lib.hid (yB_length p15)).out])) ?_
   exact hK _ _ _ rfl (Below.refl _ _) IsOut
  refine ⟨fun u W hb hd K hK => ?_, ?_⟩
  ·
   simp only [Facts, nthR, Is, and_true] at hd
   simp only [hd] at hK ⊢
   clear hd
   go_simp
   refine (ROf (Lib.hid (of_yB p15)) (Lib.hid (yB_length p15)) _).mono ?_
   rintro e wy ⟨rfl, hby⟩
   exact hK _ _ _ rfl hby IsOut
  refine ⟨fun u W hb hd K hK => ?_, ?_⟩
  ·
   clear hd
   go_simp
   apply hK
   ·
    simp only [Act.put, List.setIfInBounds_toArray, List.set_cons_zero, List.set_cons_succ]
    exact rfl
   ·
    exact Below.refl _ _
   ·
    exact IsOut
  refine ⟨fun u W hb hd K hK => ?_, ?_⟩
  ·
   simp only [Facts, nthR, Is, and_true] at hd
   simp only [hd] at hK ⊢
   clear hd
   rw [if_pos (by rfl)]
   refine wp_load_mid 22 (.tmp 51) rfl g8 0 rfl ((xB p37).map B8) _ (ptv_range0 (bg8.below hb lg8)) Tryd.underlying22 rfl (info40.trans (by rw [List.length_map, (Lib.hid (xB_length p37)).out])) ?_
   exact hK _ _ _ rfl (Below.refl _ _) IsOut
  refine ⟨fun u W hb hd K hK => ?_, ?_⟩
  ·
   simp only [Facts, nthR, Is, and_true] at hd
   simp only [hd] at hK ⊢
   clear hd
   go_simp
   refine (ROf (Lib.hid (of_xB p37)) (Lib.hid (xB_length p37)) _).mono ?_
   rintro e wy ⟨rfl, hby⟩
   exact hK _ _ _ rfl hby IsOut
  refine ⟨fun u W hb hd K hK => ?_, ?_⟩
  ·
   clear hd
   go_simp
   apply hK
   ·
    simp only [Act.put, List.setIfInBounds_toArray, List.set_cons_zero, List.set_cons_succ]
    exact rfl
   ·
    exact Below.refl _ _
   ·
    exact IsOut
  refine ⟨fun u W hb hd K hK => ?_, ?_⟩
  ·
   simp only [Facts, nthR, Is, and_true] at hd
   simp only [hd] at hK ⊢
   clear hd
   rw [if_pos (by rfl)]
   refine wp_load_mid 22 (.tmp 54) rfl g8 32 rfl ((yB p37).map B8) _ (ptv_range1 (bg8.below hb lg8)) Tryd.underlying22 rfl (info40.trans (by rw [List.length_map, (Lib.hid (yB_length p37)).out])) ?_
   exact hK _ _ _ rfl (Below.refl _ _) IsOut
  refine ⟨fun u W hb hd K hK => ?_, ?_⟩
  ·
   simp only [Facts, nthR, Is, and_true] at hd
   simp only [hd] at hK ⊢
   clear hd
   go_simp
   refine (ROf (Lib.hid (of_yB p37)) (Lib.hid (yB_length p37)) _).mono ?_
   rintro e wy ⟨rfl, hby⟩
   exact hK _ _ _ rfl hby IsOut
  refine ⟨fun u W hb hd K hK => ?_, ?_⟩
  ·
   simp only [Facts, nthR, Is, and_true] at hd
   simp only [hd] at hK ⊢
   clear hd
   go_simp
   refine (RAddP (hp15) (hp37) hp57 _).mono ?_
   rintro e wy ⟨rfl, hby⟩
   exact hK _ _ _ rfl hby IsOut
  refine ⟨fun u W hb hd K hK => ?_, ?_⟩
  ·
   simp only [Facts, nthR, Is, and_true] at hd
   simp only [hd] at hK ⊢
   clear hd
   go_simp
   apply hK
   ·
    simp only [Act.put, List.setIfInBounds_toArray, List.set_cons_zero, List.set_cons_succ]
    exact rfl
   ·
    exact Below.refl _ _
   ·
    exact IsOut
  refine ⟨fun u W hb hd K hK => ?_, ?_⟩
  ·
   simp only [Facts, nthR, Is, and_true] at hd
   simp only [hd] at hK ⊢
   clear hd
   go_simp
   apply hK
   ·
    simp only [Act.put, List.setIfInBounds_toArray, List.set_cons_zero, List.set_cons_succ]
    exact rfl
   ·
    exact Below.refl _ _
   ·
    exact IsOut
  refine ⟨fun u W hb hd K hK => ?_, ?_⟩
  ·
   simp only [Facts, nthR, Is, and_true] at hd
   simp only [hd] at hK ⊢
   clear hd
   go_simp
   apply hK
   ·
    simp only [Act.put, List.setIfInBounds_toArray, List.set_cons_zero, List.set_cons_succ]
    exact rfl
   ·
    exact Below.refl _ _
   ·
    exact IsOut
  refine ⟨fun u W hb hd K hK => ?_, ?_⟩
  ·
   clear hd
   go_simp
   apply hK
   ·
    simp only [Act.put, List.setIfInBounds_toArray, List.set_cons_zero, List.set_cons_succ]
    exact rfl
   ·
    exact (Below.refl _ _).alloc (Nat.le_refl _) _
   ·
    exact ⟨_, rfl, hb.size, Blk.new_of _ _ _ _ rfl⟩
   ·
    exact ⟨_, rfl, Nat.le_refl _, by simp⟩
  refine ⟨fun u W hb hd K hK => ?_, ?_⟩
  ·
   clear hd
   go_simp
   apply hK
   ·
    simp only [Act.put, List.setIfInBounds_toArray, List.set_cons_zero, List.set_cons_succ]
    exact rfl
   ·
    exact (Below.refl _ _).alloc (Nat.le_refl _) _
   ·
    exact ⟨_, rfl, hb.size, Blk.new_of _ _ _ _ rfl⟩
   ·
    exact ⟨_, rfl, Nat.le_refl _, by simp⟩
  exact trivial
 ·
  skip
  refine ⟨fun o ho u W hb hd => ?_, ?_⟩
  ·
   obtain rfl := Option.some.inj ho
   simp only [Facts, nthR, Is, and_true, List.getD_cons_succ, List.getD_cons_zero] at hd
   simp only [hd]
   clear hd
   exact ⟨_, .inl ⟨by rfl, fun w' => by go_simp⟩, IsOut (w := W)⟩
  exact trivial
 ·
  exact (.is (.is (.is (.is (.is (.is (.is (.is (.is (.is (.is (.is (.is (.is (.is (.is (.cons (fun v V V' ⟨g', h1, h2, h3⟩ hb => ⟨g', h1, h2, h3.below hb h3.lt⟩) (.cons (fun v V V' ⟨g', h1, h2, h3⟩ hb => ⟨g', h1, h2, h3.below hb h3.lt⟩) .nil))))))))))))))))))
 intro u w14 hb hd hne
 simp only [List.drop_succ_cons, List.drop_zero]
 simp only [Facts, nthR, Is, and_true] at hd
 obtain ⟨h14, h15, ⟨g10, h16, hng10, bg10⟩, ⟨g11, h17, hng11, bg11⟩⟩ := hd
 have og10 := Lib.hid (show w.heap.size ≤ g10 ∧ g7 < g10 ∧ g8 < g10 ∧ g9 < g10 from ⟨Nat.le_trans hb0.size hng10, Nat.lt_of_lt_of_le lg7 hng10, Nat.lt_of_lt_of_le lg8 hng10, Nat.lt_of_lt_of_le lg9 hng10⟩)
 have og11 := Lib.hid (show w.heap.size ≤ g11 ∧ g7 < g11 ∧ g8 < g11 ∧ g9 < g11 ∧ g10 ≠ g11 from ⟨Nat.le_trans hb0.size hng11, Nat.lt_of_lt_of_le lg7 hng11, Nat.lt_of_lt_of_le lg8 hng11, Nat.lt_of_lt_of_le lg9 hng11, (fun e => hne 16 17 rfl rfl (by decide) (by decide) (by decide) (by rw [h16, h17, e]))⟩)
 simp only [h14, h15, h16, h17]
 clear h14 h15 h16 h17 hne
 replace bg7 := bg7.below hb lg7
 replace bg8 := bg8.below hb lg8
 replace bg9 := bg9.below hb lg9
 replace hb0 := hb0.trans (hb.mono hb0.size)
 replace lg7 := bg7.lt
 replace lg8 := bg8.lt
 replace lg9 := bg9.lt
 clear hb
 have lg10 := bg10.lt
 clear hng10
 have lg11 := bg11.lt
 clear hng11
 refine wpList_store_blk rfl 29 (.tmp 10) (.tmp 58) rfl rfl g10 (nC (xN p57)) rfl rfl _ _ bg10 (infoN6.trans (by rw [nC_length])) (by first | with_reducible rfl | rw [nC_length, nC_length] | rw [nC_length]) (one4 _) ?_
 intro w15 bn hgs
 replace bg7 := bg7.grown hgs (fun e => Nat.ne_of_lt og10.out.2.1 (Option.some.inj e))
 replace bg8 := bg8.grown hgs (fun e => Nat.ne_of_lt og10.out.2.2.1 (Option.some.inj e))
 replace bg9 := bg9.grown hgs (fun e => Nat.ne_of_lt og10.out.2.2.2 (Option.some.inj e))
 replace bg11 := bg11.grown hgs (fun e => og11.out.2.2.2.2 (Option.some.inj e).symm)
 replace hb0 := below_new hb0 hgs og10.out.1 hb0.size
 clear hgs bg10
 have bg10 := bn
 clear bn
 replace lg7 := bg7.lt
 replace lg8 := bg8.lt
 replace lg9 := bg9.lt
 replace lg10 := bg10.lt
 replace lg11 := bg11.lt
 try simp only [Act.put]
 refine wpList_store_blk rfl 29 (.tmp 11) (.tmp 59) rfl rfl g11 (nC (yN p57)) rfl rfl _ _ bg11 (infoN6.trans (by rw [nC_length])) (by first | with_reducible rfl | rw [nC_length, nC_length] | rw [nC_length]) (one4 _) ?_
 intro w16 bn hgs
 replace bg7 := bg7.grown hgs (fun e => Nat.ne_of_lt og11.out.2.1 (Option.some.inj e))
 replace bg8 := bg8.grown hgs (fun e => Nat.ne_of_lt og11.out.2.2.1 (Option.some.inj e))
 replace bg9 := bg9.grown hgs (fun e => Nat.ne_of_lt og11.out.2.2.2.1 (Option.some.inj e))
 replace bg10 := bg10.grown hgs (fun e => og11.out.2.2.2.2 (Option.some.inj e))
 replace hb0 := below_new hb0 hgs og11.out.1 hb0.size
 clear hgs bg11
 have bg11 := bn
 clear bn
 replace lg7 := bg7.lt
 replace lg8 := bg8.lt
 replace lg9 := bg9.lt
 replace lg10 := bg10.lt
 replace lg11 := bg11.lt
 try simp only [Act.put]
 first | (go_wp2; refine NoPanic.normal ?_) | refine wpList_nil (NoPanic.normal ?_)
 go_upto_region 11 with (fail)
 obtain ⟨B65, hB65⟩ : ∃ s : List UInt8, Hid (bsTo (xN p57) 32 = s) := ⟨_, Lib.hid rfl⟩
 obtain ⟨B72, hB72⟩ : ∃ s : List UInt8, Hid (bsTo (yN p57) 32 = s) := ⟨_, Lib.hid rfl⟩
 obtain ⟨p78, hp78⟩ : ∃ s : Pt, Hid (s = mulG ((n34.val * 1) + n)) := ⟨_, Lib.hid rfl⟩
 have e57 := Lib.hid (show p57 = p43 by rw [hp57.out, hp43.out])
 have E6 := Lib.hid (show xB p43 = B65 by rw [← hB65.out, bs_xN, e57.out])
 have E13 := Lib.hid (show yB p43 = B72 by rw [← hB72.out, bs_yN, e57.out])
 have E20 := Lib.hid (show p78 = p43 by rw [hp78.out, hp43.out, Nat.add_comm])
 apply wp_region_once_tail (m := 26) (Z := []) (D := [[], [0], [0, 1], [0, 1, 2], [0, 1], [0, 1, 4], [0, 1, 2, 3, 4, 5], [0, 1, 2, 3, 4, 5, 6], [0, 1, 2, 3, 4, 5, 6, 7], [0, 1, 2, 3, 4, 5, 6, 7, 8], [0, 1, 2, 3, 4, 5, 6, 7, 8, 9], [0, 1, 2, 3, 4, 5, 6, 7, 8], [0, 1, 2, 3, 4, 5, 6, 7, 8, 11], [0, 1, 2, 3, 4, 5, 6, 7, 8, 9, 10, 11, 12], [0, 1, 2, 3, 4, 5, 6, 7, 8, 9, 10, 11, 12, 13], [0, 1, 2, 3, 4, 5, 6, 7, 8, 9, 10, 11, 12, 13, 14], [0, 1, 2, 3, 4, 5, 6, 7, 8, 9, 10, 11, 12, 13, 14, 15], [0, 1, 2, 3, 4, 5, 6, 7, 8, 9, 10, 11, 12, 13, 14, 15], [0, 1, 2, 3, 4, 5, 6, 7, 8, 9, 10, 11, 12, 13, 14, 15, 16, 17], [0, 1, 2, 3, 4, 5, 6, 7, 8, 9, 10, 11, 12, 13, 14, 15], [0, 1, 2, 3, 4, 5, 6, 7, 8, 9, 10, 11, 12, 13, 14, 15, 16, 17, 18, 19], [0, 1, 2, 3, 4, 5, 6, 7, 8, 9, 10, 11, 12, 13, 14, 15, 16, 17, 18, 19, 20], [0, 1, 2, 3, 4, 5, 6, 7, 8, 9, 10, 11, 12, 13, 14, 15, 16, 17, 18, 19, 20, 21], [0, 1, 2, 3, 4, 5, 6, 7, 8, 9, 10, 11, 12, 13, 14, 15, 16, 17, 18, 19, 20, 21, 22], [0, 1, 2, 3, 4, 5, 6, 7, 8, 9, 10, 11, 12, 13, 14, 15, 16, 17, 18, 19, 20, 21, 22, 23], [0, 1, 2, 3, 4, 5, 6, 7, 8, 9, 10, 11, 12, 13, 14, 15, 16, 17, 18, 19, 20, 21, 22, 23, 24], [0, 1, 2, 3, 4, 5, 6, 7, 8, 9, 10, 11, 12, 13, 14, 15, 16, 17, 18, 19, 20, 21, 22, 23, 24, 25]]) (J := [[], [0], [1], [1, 2], [1], [1, 4], [1, 3, 5], [1, 6], [7], [8], [8, 9], [8], [8, 11], [8, 10, 12], [8, 13], [14], [15], [15], [15, 16, 17], [15], [15, 18, 19], [15, 20], [21], [22], [22, 23], [22, 24]]) (Je := [25]) (Rs := [Is _, Is _, Is _, Is _, Is _, Is _, Is _, Is _, Is _, Is _, Is _, Is _, Is _, Is _, Is _, Is _, Is _, Is _, Is _, Is _, Is _, Is _, Is _, Is _, Is _, Is _])
 ·
  kernel_rfl
 ·
  kernel_rfl
 ·
  kernel_rfl
 ·
  kernel_rfl
 ·
  kernel_rfl
 ·
  kernel_rfl
 ·
  kernel_rfl
 ·
  exact fun h => absurd rfl h
 ·
  intro u
  simp only [List.take_succ_cons, List.take_zero, List.map_cons, List.map_nil, fillU, List.setIfInBounds_toArray, List.set_cons_zero, List.set_cons_succ, Nat.reduceAdd]
  exact rfl
 ·
  simp only [List.take_succ_cons, List.take_zero]
  refine ⟨fun u W hb hd K hK => ?_, ?_⟩
  ·
   clear hd
   go_simp
   refine (CurvesE (hT.up hb0 hb)).mono ?_
   rintro e wy ⟨rfl, hby⟩
   exact hK _ _ _ rfl hby IsOut
  refine ⟨fun u W hb hd K hK => ?_, ?_⟩
  ·
   simp only [Facts, nthR, Is, and_true] at hd
   simp only [hd] at hK ⊢
   clear hd
   go_simp
   apply hK
   ·
    simp only [Act.put, List.setIfInBounds_toArray, List.set_cons_zero, List.set_cons_succ]
    exact rfl
   ·
    exact Below.refl _ _
   ·
    exact IsOut
  refine ⟨fun u W hb hd K hK => ?_, ?_⟩
  ·
   simp only [Facts, nthR, Is, and_true] at hd
   simp only [hd] at hK ⊢
   clear hd
   go_simp
   apply hK
   ·
    simp only [Act.put, List.setIfInBounds_toArray, List.set_cons_zero, List.set_cons_succ]
    exact rfl
   ·
    exact Below.refl _ _
   ·
    exact IsOut
  refine ⟨fun u W hb hd K hK => ?_, ?_⟩
  ·
   simp only [Facts, nthR, Is, and_true] at hd
   simp only [hd] at hK ⊢
   clear hd
   rw [if_pos (by rfl)]
   refine wp_load_mid 22 (.tmp 62) rfl g9 0 rfl ((xB p43).map B8) _ (ptv_range0 (bg9.below hb lg9)) Tryd.underlying22 rfl (info40.trans (by rw [List.length_map, (Lib.hid (xB_length p43)).out])) ?_
   exact hK _ _ _ rfl (Below.refl _ _) IsOut
  refine ⟨fun u W hb hd K hK => ?_, ?_⟩
  ·
   simp only [Facts, nthR, Is, and_true] at hd
   simp only [hd] at hK ⊢
   clear hd
   rw [if_pos (by rfl)]
   refine wp_load_mid 29 (.tmp 10) rfl g10 0 rfl (nC (xN p57)) _ (rangeAt_of_blk (bg10.below hb lg10)) Tryd.underlying29 rfl (infoN6.trans (by rw [nC_length])) ?_
   exact hK _ _ _ rfl (Below.refl _ _) IsOut
  refine ⟨fun u W hb hd K hK => ?_, ?_⟩
  ·
   simp only [Facts, nthR, Is, and_true] at hd
   simp only [hd] at hK ⊢
   clear hd
   go_simp
   refine (RBytes hB65 _).mono ?_
   rintro e wy ⟨rfl, hby⟩
   exact hK _ _ _ rfl hby IsOut
  refine ⟨fun u W hb hd K hK => ?_, ?_⟩
  ·
   simp only [Facts, nthR, Is, and_true] at hd
   simp only [hd] at hK ⊢
   clear hd
   rw [if_pos (by rfl)]
   refine wp_eqlA rfl rfl rfl guardB32 (show (Op.equalIn 10000 22 (.agg ((xB p43).map B8).toArray) (.agg (B65.map B8).toArray)).run Tryd.prog W = .ok true W from EqB (Lib.hid (xB_length p43)) (bytes_len hB65) (Lib.hid (beq_iff_eq.2 (E6.out))) W) ?_
   exact hK _ _ (.bool true) rfl (Below.refl _ _) IsOut
  refine ⟨fun u W hb hd K hK => ?_, ?_⟩
  ·
   simp only [Facts, nthR, Is, and_true] at hd
   simp only [hd] at hK ⊢
   clear hd
   go_simp
   apply hK
   ·
    simp only [Act.put, List.setIfInBounds_toArray, List.set_cons_zero, List.set_cons_succ]
    exact rfl
   ·
    exact Below.refl _ _
   ·
    exact IsOut
  refine ⟨fun u W hb hd K hK => ?_, ?_⟩
  ·
   simp only [Facts, nthR, Is, and_true] at hd
   simp only [hd] at hK ⊢
   clear hd
   go_simp
   apply hK
   ·
    simp only [Act.put, List.setIfInBounds_toArray, List.set_cons_zero, List.set_cons_succ]
    exact rfl
   ·
    exact Below.refl _ _
   ·
    exact IsOut
  refine ⟨fun u W hb hd K hK => ?_, ?_⟩
  ·
   simp only [Facts, nthR, Is, and_true] at hd
   simp only [hd] at hK ⊢
   clear hd
   go_simp
   apply hK
   ·
    simp only [Act.put, List.setIfInBounds_toArray, List.set_cons_zero, List.set_cons_succ]
    exact rfl
   ·
    exact Below.refl _ _
   ·
    exact IsOut
  refine ⟨fun u W hb hd K hK => ?_, ?_⟩
  ·
   simp only [Facts, nthR, Is, and_true] at hd
   simp only [hd] at hK ⊢
   clear hd
   rw [if_pos (by rfl)]
   refine wp_load_mid 22 (.tmp 69) rfl g9 32 rfl ((yB p43).map B8) _ (ptv_range1 (bg9.below hb lg9)) Tryd.underlying22 rfl (info40.trans (by rw [List.length_map, (Lib.hid (yB_length p43)).out])) ?_
   exact hK _ _ _ rfl (Below.refl _ _) IsOut
  refine ⟨fun u W hb hd K hK => ?_, ?_⟩
  ·
   simp only [Facts, nthR, Is, and_true] at hd
   simp only [hd] at hK ⊢
   clear hd
   rw [if_pos (by rfl)]
   refine wp_load_mid 29 (.tmp 11) rfl g11 0 rfl (nC (yN p57)) _ (rangeAt_of_blk (bg11.below hb lg11)) Tryd.underlying29 rfl (infoN6.trans (by rw [nC_length])) ?_
   exact hK _ _ _ rfl (Below.refl _ _) IsOut
  refine ⟨fun u W hb hd K hK => ?_, ?_⟩
  ·
   simp only [Facts, nthR, Is, and_true] at hd
   simp only [hd] at hK ⊢
   clear hd
   go_simp
   refine (RBytes hB72 _).mono ?_
   rintro e wy ⟨rfl, hby⟩
   exact hK _ _ _ rfl hby IsOut
  refine ⟨fun u W hb hd K hK => ?_, ?_⟩
  ·
   simp only [Facts, nthR, Is, and_true] at hd
   simp only [hd] at hK ⊢
   clear hd
   rw [if_pos (by rfl)]
   refine wp_eqlA rfl rfl rfl guardB32 (show (Op.equalIn 10000 22 (.agg ((yB p43).map B8).toArray) (.agg (B72.map B8).toArray)).run Tryd.prog W = .ok true W from EqB (Lib.hid (yB_length p43)) (bytes_len hB72) (Lib.hid (beq_iff_eq.2 (E13.out))) W) ?_
   exact hK _ _ (.bool true) rfl (Below.refl _ _) IsOut
  refine ⟨fun u W hb hd K hK => ?_, ?_⟩
  ·
   simp only [Facts, nthR, Is, and_true] at hd
   simp only [hd] at hK ⊢
   clear hd
   go_simp
   apply hK
   ·
    simp only [Act.put, List.setIfInBounds_toArray, List.set_cons_zero, List.set_cons_succ]
    exact rfl
   ·
    exact Below.refl _ _
   ·
    exact IsOut
  refine ⟨fun u W hb hd K hK => ?_, ?_⟩
  ·
   simp only [Facts, nthR, Is, and_true] at hd
   simp only [hd] at hK ⊢
   clear hd
   go_simp
   apply hK
   ·
    simp only [Act.put, List.setIfInBounds_toArray, List.set_cons_zero, List.set_cons_succ]
    exact rfl
   ·
    exact Below.refl _ _
   ·
    exact IsOut
  refine ⟨fun u W hb hd K hK => ?_, ?_⟩
  ·
   simp only [Facts, nthR, Is, and_true] at hd
   simp only [hd] at hK ⊢
   clear hd
   rw [if_pos (by rfl)]
   refine wp_load_mid 24 (.tmp 8) rfl g8 0 rfl (ptV p37) _ (rangeAt_of_blk (bg8.below hb lg8)) Tryd.underlying24 rfl (infoPt.trans (by rw [ptV_length])) ?_
   exact hK _ _ _ rfl (Below.refl _ _) IsOut
  refine ⟨fun u W hb hd K hK => ?_, ?_⟩
  ·
   simp only [Facts, nthR, Is, and_true] at hd
   simp only [hd] at hK ⊢
   clear hd
   rw [if_pos (by rfl)]
   refine wp_load_mid 24 (.tmp 7) rfl g7 0 rfl (ptV p15) _ (rangeAt_of_blk (bg7.below hb lg7)) Tryd.underlying24 rfl (infoPt.trans (by rw [ptV_length])) ?_
   exact hK _ _ _ rfl (Below.refl _ _) IsOut
  refine ⟨fun u W hb hd K hK => ?_, ?_⟩
  ·
   simp only [Facts, nthR, Is, and_true] at hd
   simp only [hd] at hK ⊢
   clear hd
   go_simp
   refine (AddP (hT.up hb0 hb) (hp37) (hp15) hp78).mono ?_
   rintro e wy ⟨rfl, hby⟩
   exact hK _ _ _ rfl hby IsOut
  refine ⟨fun u W hb hd K hK => ?_, ?_⟩
  ·
   simp only [Facts, nthR, Is, and_true] at hd
   simp only [hd] at hK ⊢
   clear hd
   rw [if_pos (by rfl)]
   refine wp_load_mid 24 (.tmp 9) rfl g9 0 rfl (ptV p43) _ (rangeAt_of_blk (bg9.below hb lg9)) Tryd.underlying24 rfl (infoPt.trans (by rw [ptV_length])) ?_
   exact hK _ _ _ rfl (Below.refl _ _) IsOut
  refine ⟨fun u W hb hd K hK => ?_, ?_⟩
  ·
   simp only [Facts, nthR, Is, and_true] at hd
   simp only [hd] at hK ⊢
   clear hd
   rw [if_pos (by rfl)]
   refine wp_eqlA rfl rfl rfl guardPt (show (Op.equalIn 10000 24 (.agg (ptV p78).toArray) (.agg (ptV p43).toArray)).run Tryd.prog W = .ok true W from EqP (on_of (hp78)) (on_of (hp43)) (Lib.hid (decide_eq_true (E20.out))) W) ?_
   exact hK _ _ (.bool true) rfl (Below.refl _ _) IsOut
  refine ⟨fun u W hb hd K hK => ?_, ?_⟩
  ·
   simp only [Facts, nthR, Is, and_true] at hd
   simp only [hd] at hK ⊢
   clear hd
   go_simp
   apply hK
   ·
    simp only [Act.put, List.setIfInBounds_toArray, List.set_cons_zero, List.set_cons_succ]
    exact rfl
   ·
    exact Below.refl _ _
   ·
    exact IsOut
  refine ⟨fun u W hb hd K hK => ?_, ?_⟩
  ·
   simp only [Facts, nthR, Is, and_true] at hd
   simp only [hd] at hK ⊢
   clear hd
   go_simp
   apply hK
   ·
    simp only [Act.put, List.setIfInBounds_toArray, List.set_cons_zero, List.set_cons_succ]
    exact rfl
   ·
    exact Below.refl _ _
   ·
    exact IsOut
  refine ⟨fun u W hb hd K hK => ?_, ?_⟩
  ·
   simp only [Facts, nthR, Is, and_true] at hd
   simp only [hd] at hK ⊢
   clear hd
   rw [if_pos (by rfl)]
   refine wp_load_mid 24 (.tmp 9) rfl g9 0 rfl (ptV p43) _ (rangeAt_of_blk (bg9.below hb lg9)) Tryd.underlying24 rfl (infoPt.trans (by rw [ptV_length])) ?_
   exact hK _ _ _ rfl (Below.refl _ _) IsOut
  refine ⟨fun u W hb hd K hK => ?_, ?_⟩
  ·
   simp only [Facts, nthR, Is, and_true] at hd
   simp only [hd] at hK ⊢
   clear hd
   go_simp
   refine (OnP (hT.up hb0 hb) (hp43)).mono ?_
   rintro e wy ⟨rfl, hby⟩
   exact hK _ _ _ rfl hby IsOut
  refine ⟨fun u W hb hd K hK => ?_, ?_⟩
  ·
   simp only [Facts, nthR, Is, and_true] at hd
   simp only [hd] at hK ⊢
   clear hd
   go_simp
   apply hK
   ·
    simp only [Act.put, List.setIfInBounds_toArray, List.set_cons_zero, List.set_cons_succ]
    exact rfl
   ·
    exact Below.refl _ _
   ·
    exact IsOut
  exact trivial
 ·
  skip
  exact trivial
 ·
  exact (.is (.is (.is (.is (.is (.is (.is (.is (.is (.is (.is (.is (.is (.is (.is (.is (.is (.is (.is (.is (.is (.is (.is (.is (.is (.is .nil))))))))))))))))))))))))))
 intro u w17 hb hd
 simp only [List.drop_succ_cons, List.drop_zero]
 simp only [Facts, nthR, Is, and_true] at hd
 have h25 := hd
 clear hd
 simp only [h25]
 clear h25
 replace bg7 := bg7.below hb lg7
 replace bg8 := bg8.below hb lg8
 replace bg9 := bg9.below hb lg9
 replace bg10 := bg10.below hb lg10
 replace bg11 := bg11.below hb lg11
 replace hb0 := hb0.trans (hb.mono hb0.size)
 replace lg7 := bg7.lt
 replace lg8 := bg8.lt
 replace lg9 := bg9.lt
 replace lg10 := bg10.lt
 replace lg11 := bg11.lt
 clear hb
 go_wp2_with (fail)
 refine bodyPost_ret (results_tmp Tryd.results4 _ _ _) rfl ?_
 exact ⟨rfl, hb0⟩
set_option maxRecDepth 100000 in
set_option maxHeartbeats 4000000 in
theorem curveAdds_3 (n m z : Nat) (how : Int) (w : World) (hT : TabsC w) (hn : n < 65536) (hm : m < 65536) (hz : Hid (IntKind.u64.wrap how = (z : Int))) (hq : Hid ((z : Int).tmod 4 = 3)) (hq' : Hid ((z : Int) % 4 = 3)) : Calls Tryd.prog 4 #[.int .u16 (n : Int), .int .u16 (m : Int), .int .i64 how] w fun e w' => e = .returned (.bool true) ∧ Below w.heap.size w w' := by
 go_enter Tryd.func4, Tryd.ntmps4
 have hb0 : Below w.heap.size w w := Below.refl _ _
 go_upto_region 0 with (fail)
 refine wp_region_lit ?_
 go_upto_region 1 with (fail)
 obtain ⟨B14, hB14⟩ : ∃ s : List UInt8, Hid (s = bsTo ⟨n, 0, 0, 0⟩ 32) := ⟨_, Lib.hid rfl⟩
 obtain ⟨p15, hp15⟩ : ∃ s : Pt, Hid (s = mulG (n)) := ⟨_, Lib.hid rfl⟩
 obtain ⟨B18, hB18⟩ : ∃ s : List UInt8, Hid (s = bsTo ⟨m, 0, 0, 0⟩ 32) := ⟨_, Lib.hid rfl⟩
 obtain ⟨p19, hp19⟩ : ∃ s : Pt, Hid (s = mulG (m)) := ⟨_, Lib.hid rfl⟩
 apply wp_plain_once (m := 8) (J := [[], [0], [1], [2], [], [4], [5], [6]]) (Je := [3, 7]) (Rs := [Is _, Is _, Is _, Is _, Is _, Is _, Is _, Is _])
 ·
  kernel_rfl
 ·
  kernel_rfl
 ·
  intro u
  simp only [List.take_succ_cons, List.take_zero, List.map_cons, List.map_nil, fillU, List.setIfInBounds_toArray, List.set_cons_zero, List.set_cons_succ, Nat.reduceAdd]
  exact rfl
 ·
  simp only [List.take_succ_cons, List.take_zero]
  refine ⟨fun u W hb hd K hK => ?_, ?_⟩
  ·
   clear hd
   go_simp
   apply hK
   ·
    simp only [Act.put, List.setIfInBounds_toArray, List.set_cons_zero, List.set_cons_succ]
    exact rfl
   ·
    exact Below.refl _ _
   ·
    exact IsOut
  refine ⟨fun u W hb hd K hK => ?_, ?_⟩
  ·
   simp only [Facts, nthR, Is, and_true] at hd
   simp only [hd] at hK ⊢
   clear hd
   have hw : IntKind.i64.wrap (n : Int) = (n : Int) := wrap_i16 hn
   go_simp
   apply hK
   ·
    simp only [Act.put, List.setIfInBounds_toArray, List.set_cons_zero, List.set_cons_succ]
    exact rfl
   ·
    exact Below.refl _ _
   ·
    exact IsOut
  refine ⟨fun u W hb hd K hK => ?_, ?_⟩
  ·
   simp only [Facts, nthR, Is, and_true] at hd
   simp only [hd] at hK ⊢
   clear hd
   go_simp
   refine (SmallE hn hB14 _).mono ?_
   rintro e wy ⟨rfl, hby⟩
   exact hK _ _ _ rfl hby IsOut
  refine ⟨fun u W hb hd K hK => ?_, ?_⟩
  ·
   simp only [Facts, nthR, Is, and_true] at hd
   simp only [hd] at hK ⊢
   clear hd
   go_simp
   refine (OfE (hT.up hb0 hb) (small_len hB14) (small_val hn hB14) hp15).mono ?_
   rintro e wy ⟨rfl, hby⟩
   exact hK _ _ _ rfl hby IsOut
  refine ⟨fun u W hb hd K hK => ?_, ?_⟩
  ·
   clear hd
   go_simp
   apply hK
   ·
    simp only [Act.put, List.setIfInBounds_toArray, List.set_cons_zero, List.set_cons_succ]
    exact rfl
   ·
    exact Below.refl _ _
   ·
    exact IsOut
  refine ⟨fun u W hb hd K hK => ?_, ?_⟩
  ·
   simp only [Facts, nthR, Is, and_true] at hd
   simp only [hd] at hK ⊢
   clear hd
   have hw : IntKind.i64.wrap (m : Int) = (m : Int) := wrap_i16 hm
   go_simp
   apply hK
   ·
    simp only [Act.put, List.setIfInBounds_toArray, List.set_cons_zero, List.set_cons_succ]
    exact rfl
   ·
    exact Below.refl _ _
   ·
    exact IsOut
  refine ⟨fun u W hb hd K hK => ?_, ?_⟩
  ·
   simp only [Facts, nthR, Is, and_true] at hd
   simp only [hd] at hK ⊢
   clear hd
   go_simp
   refine (SmallE hm hB18 _).mono ?_
   rintro e wy ⟨rfl, hby⟩
   exact hK _ _ _ rfl hby IsOut
  refine ⟨fun u W hb hd K hK => ?_, ?_⟩
  ·
   simp only [Facts, nthR, Is, and_true] at hd
   simp only [hd] at hK ⊢
   clear hd
   go_simp
   refine (OfE (hT.up hb0 hb) (small_len hB18) (small_val hm hB18) hp19).mono ?_
   rintro e wy ⟨rfl, hby⟩
   exact hK _ _ _ rfl hby IsOut
  exact trivial
 ·
  exact (.is (.is (.is (.is (.is (.is (.is (.is .nil))))))))
 intro u w1 hb hd
 simp only [List.drop_succ_cons, List.drop_zero]
 simp only [Facts, nthR, Is, and_true] at hd
 obtain ⟨h3, h7⟩ := hd
 simp only [h3, h7]
 clear h3 h7
 replace hb0 := hb0.trans (hb.mono hb0.size)
 clear hb
 refine wpList_new_blk rfl 24 rfl (ptV none) zeroPt ?_
 intro g7 w2 hg bg7 hb
 have og7 := Lib.hid (show w.heap.size ≤ g7 from Nat.le_trans hb0.size (Nat.le_of_eq hg.symm))
 clear hg
 replace hb0 := hb0.trans (hb.mono hb0.size)
 clear hb
 have lg7 := bg7.lt
 try simp only [Act.put, List.setIfInBounds_toArray, List.set_cons_zero, List.set_cons_succ]
 refine wpList_new_blk rfl 24 rfl (ptV none) zeroPt ?_
 intro g8 w3 hg bg8 hb
 have og8 := Lib.hid (show w.heap.size ≤ g8 ∧ g7 < g8 from ⟨Nat.le_trans hb0.size (Nat.le_of_eq hg.symm), Nat.lt_of_lt_of_le lg7 (Nat.le_of_eq hg.symm)⟩)
 clear hg
 replace bg7 := bg7.below hb lg7
 replace hb0 := hb0.trans (hb.mono hb0.size)
 replace lg7 := bg7.lt
 clear hb
 have lg8 := bg8.lt
 try simp only [Act.put, List.setIfInBounds_toArray, List.set_cons_zero, List.set_cons_succ]
 refine wpList_store_blk rfl 24 (.tmp 7) (.tmp 15) rfl rfl g7 (ptV p15) rfl rfl _ _ bg7 (infoPt.trans (by rw [ptV_length])) (by first | with_reducible rfl | rw [ptV_length, ptV_length] | rw [ptV_length]) (onePv _) ?_
 intro w4 bn hgs
 replace bg8 := bg8.grown hgs (fun e => Nat.ne_of_gt og8.out.2 (Option.some.inj e))
 replace hb0 := below_new hb0 hgs og7.out hb0.size
 clear hgs bg7
 have bg7 := bn
 clear bn
 replace lg7 := bg7.lt
 replace lg8 := bg8.lt
 try simp only [Act.put]
 refine wpList_store_blk rfl 24 (.tmp 8) (.tmp 19) rfl rfl g8 (ptV p19) rfl rfl _ _ bg8 (infoPt.trans (by rw [ptV_length])) (by first | with_reducible rfl | rw [ptV_length, ptV_length] | rw [ptV_length]) (onePv _) ?_
 intro w5 bn hgs
 replace bg7 := bg7.grown hgs (fun e => Nat.ne_of_lt og8.out.2 (Option.some.inj e))
 replace hb0 := below_new hb0 hgs og8.out.1 hb0.size
 clear hgs bg8
 have bg8 := bn
 clear bn
 replace lg7 := bg7.lt
 replace lg8 := bg8.lt
 try simp only [Act.put]
 go_upto_region 2 with (fail)
 apply wp_plain_once (m := 4) (J := [[], [0], [1], [2]]) (Je := [3]) (Rs := [Is _, Is _, Is _, Is _])
 ·
  kernel_rfl
 ·
  kernel_rfl
 ·
  intro u
  simp only [List.take_succ_cons, List.take_zero, List.map_cons, List.map_nil, fillU, List.setIfInBounds_toArray, List.set_cons_zero, List.set_cons_succ, Nat.reduceAdd]
  exact rfl
 ·
  simp only [List.take_succ_cons, List.take_zero]
  refine ⟨fun u W hb hd K hK => ?_, ?_⟩
  ·
   clear hd
   go_simp
   apply hK
   ·
    simp only [Act.put, List.setIfInBounds_toArray, List.set_cons_zero, List.set_cons_succ]
    exact rfl
   ·
    exact Below.refl _ _
   ·
    exact IsOut
  refine ⟨fun u W hb hd K hK => ?_, ?_⟩
  ·
   simp only [Facts, nthR, Is, and_true] at hd
   simp only [hd] at hK ⊢
   clear hd
   have hw := hz.out
   go_simp
   apply hK
   ·
    simp only [Act.put, List.setIfInBounds_toArray, List.set_cons_zero, List.set_cons_succ]
    exact rfl
   ·
    exact Below.refl _ _
   ·
    exact IsOut
  refine ⟨fun u W hb hd K hK => ?_, ?_⟩
  ·
   simp only [Facts, nthR, Is, and_true] at hd
   simp only [hd] at hK ⊢
   clear hd
   have hw := hq.out
   have hw' := hq'.out
   go_simp
   apply hK
   ·
    simp only [Act.put, List.setIfInBounds_toArray, List.set_cons_zero, List.set_cons_succ]
    exact rfl
   ·
    exact Below.refl _ _
   ·
    exact IsOut
  refine ⟨fun u W hb hd K hK => ?_, ?_⟩
  ·
   simp only [Facts, nthR, Is, and_true] at hd
   simp only [hd] at hK ⊢
   clear hd
   have hw : IntKind.i64.wrap (3 : Int) = (3 : Int) := by decide
   go_simp
   apply hK
   ·
    simp only [Act.put, List.setIfInBounds_toArray, List.set_cons_zero, List.set_cons_succ]
    exact rfl
   ·
    exact Below.refl _ _
   ·
    exact IsOut
  exact trivial
 ·
  exact (.is (.is (.is (.is .nil))))
 intro u w6 hb hd
 simp only [List.drop_succ_cons, List.drop_zero]
 simp only [Facts, nthR, Is, and_true] at hd
 have h3 := hd
 clear hd
 simp only [h3]
 clear h3
 replace bg7 := bg7.below hb lg7
 replace bg8 := bg8.below hb lg8
 replace hb0 := hb0.trans (hb.mono hb0.size)
 replace lg7 := bg7.lt
 replace lg8 := bg8.lt
 clear hb
 go_upto_region 3 with (fail)
 apply wp_plain_once (m := 1) (J := [[]]) (Je := [0]) (Rs := [Is _])
 ·
  kernel_rfl
 ·
  kernel_rfl
 ·
  intro u
  simp only [List.take_succ_cons, List.take_zero, List.map_cons, List.map_nil, fillU, List.setIfInBounds_toArray, List.set_cons_zero, List.set_cons_succ]
  exact rfl
 ·
  simp only [List.take_succ_cons, List.take_zero]
  refine ⟨fun u W hb hd K hK => ?_, ?_⟩
  ·
   clear hd
   go_simp
   apply hK
   ·
    simp only [Act.put, List.setIfInBounds_toArray, List.set_cons_zero, List.set_cons_succ]
    exact rfl
   ·
    exact Below.refl _ _
   ·
    exact IsOut
  exact trivial
 ·
  exact (.is .nil)
 intro u w7 hb hd
 simp only [List.drop_succ_cons, List.drop_zero]
 simp only [Facts, nthR, Is, and_true] at hd
 have h0 := hd
 clear hd
 simp only [h0]
 clear h0
 replace bg7 := bg7.below hb lg7
 replace bg8 := bg8.below hb lg8
 replace hb0 := hb0.trans (hb.mono hb0.size)
 replace lg7 := bg7.lt
 replace lg8 := bg8.lt
 clear hb
 go_upto_region 5 with (fail)
 apply wp_plain_once (m := 1) (J := [[]]) (Je := [0]) (Rs := [Is _])
 ·
  kernel_rfl
 ·
  kernel_rfl
 ·
  intro u
  simp only [List.take_succ_cons, List.take_zero, List.map_cons, List.map_nil, fillU, List.setIfInBounds_toArray, List.set_cons_zero, List.set_cons_succ]
  exact rfl
 ·
  simp only [List.take_succ_cons, List.take_zero]
  refine ⟨fun u W hb hd K hK => ?_, ?_⟩
  ·
   clear hd
   go_simp
   apply hK
   ·
    simp only [Act.put, List.setIfInBounds_toArray, List.set_cons_zero, List.set_cons_succ]
    exact rfl
   ·
    exact Below.refl _ _
   ·
    exact IsOut
  exact trivial
 ·
  exact (.is .nil)
 intro u w8 hb hd
 simp only [List.drop_succ_cons, List.drop_zero]
 simp only [Facts, nthR, Is, and_true] at hd
 have h0 := hd
 clear hd
 simp only [h0]
 clear h0
 replace bg7 := bg7.below hb lg7
 replace bg8 := bg8.below hb lg8
 replace hb0 := hb0.trans (hb.mono hb0.size)
 replace lg7 := bg7.lt
 replace lg8 := bg8.lt
 clear hb
 go_upto_region 7 with (fail)
 apply wp_plain_once (m := 1) (J := [[]]) (Je := [0]) (Rs := [Is _])
 ·
  kernel_rfl
 ·
  kernel_rfl
 ·
  intro u
  simp only [List.take_succ_cons, List.take_zero, List.map_cons, List.map_nil, fillU, List.setIfInBounds_toArray, List.set_cons_zero, List.set_cons_succ]
  exact rfl
 ·
  simp only [List.take_succ_cons, List.take_zero]
  refine ⟨fun u W hb hd K hK => ?_, ?_⟩
  ·
   clear hd
   go_simp
   apply hK
   ·
    simp only [Act.put, List.setIfInBounds_toArray, List.set_cons_zero, List.set_cons_succ]
    exact rfl
   ·
    exact Below.refl _ _
   ·
    exact IsOut
  exact trivial
 ·
  exact (.is .nil)
 intro u w9 hb hd
 simp only [List.drop_succ_cons, List.drop_zero]
 simp only [Facts, nthR, Is, and_true] at hd
 have h0 := hd
 clear hd
 simp only [h0]
 clear h0
 replace bg7 := bg7.below hb lg7
 replace bg8 := bg8.below hb lg8
 replace hb0 := hb0.trans (hb.mono hb0.size)
 replace lg7 := bg7.lt
 replace lg8 := bg8.lt
 clear hb
 go_upto_region 8 with (fail)
 apply wp_plain_once (m := 1) (J := [[]]) (Je := [0]) (Rs := [Is _])
 ·
  kernel_rfl
 ·
  kernel_rfl
 ·
  intro u
  simp only [List.take_succ_cons, List.take_zero, List.map_cons, List.map_nil, fillU, List.setIfInBounds_toArray, List.set_cons_zero, List.set_cons_succ]
  exact rfl
 ·
  simp only [List.take_succ_cons, List.take_zero]
  refine ⟨fun u W hb hd K hK => ?_, ?_⟩
  ·
   clear hd
   rw [if_pos (by rfl)]
   refine wp_builtV 24 _ rfl [] rfl (ptV none).toArray builtZ ?_
   exact hK _ _ _ rfl (Below.refl _ _) IsOut
  exact trivial
 ·
  exact (.is .nil)
 intro u w10 hb hd
 simp only [List.drop_succ_cons, List.drop_zero]
 simp only [Facts, nthR, Is, and_true] at hd
 have h0 := hd
 clear hd
 simp only [h0]
 clear h0
 replace bg7 := bg7.below hb lg7
 replace bg8 := bg8.below hb lg8
 replace hb0 := hb0.trans (hb.mono hb0.size)
 replace lg7 := bg7.lt
 replace lg8 := bg8.lt
 clear hb
 refine wpList_store_blk rfl 24 (.tmp 8) (.tmp 40) rfl rfl g8 (ptV none) rfl rfl _ _ bg8 (infoPt.trans (by rw [ptV_length])) (by first | with_reducible rfl | rw [ptV_length, ptV_length] | rw [ptV_length]) (onePv _) ?_
 intro w11 bn hgs
 replace bg7 := bg7.grown hgs (fun e => Nat.ne_of_lt og8.out.2 (Option.some.inj e))
 replace hb0 := below_new hb0 hgs og8.out.1 hb0.size
 clear hgs bg8
 have bg8 := bn
 clear bn
 replace lg7 := bg7.lt
 replace lg8 := bg8.lt
 try simp only [Act.put]
 go_upto_region 9 with (fail)
 obtain ⟨p43, hp43⟩ : ∃ s : Pt, Hid (s = mulG (n + 0)) := ⟨_, Lib.hid rfl⟩
 apply wp_plain_once (m := 3) (J := [[], [], [0, 1]]) (Je := [2]) (Rs := [Is _, Is _, Is _])
 ·
  kernel_rfl
 ·
  kernel_rfl
 ·
  intro u
  simp only [List.take_succ_cons, List.take_zero, List.map_cons, List.map_nil, fillU, List.setIfInBounds_toArray, List.set_cons_zero, List.set_cons_succ, Nat.reduceAdd]
  exact rfl
 ·
  simp only [List.take_succ_cons, List.take_zero]
  refine ⟨fun u W hb hd K hK => ?_, ?_⟩
  ·
   clear hd
   rw [if_pos (by rfl)]
   refine wp_load_mid 24 (.tmp 7) rfl g7 0 rfl (ptV p15) _ (rangeAt_of_blk (bg7.below hb lg7)) Tryd.underlying24 rfl (infoPt.trans (by rw [ptV_length])) ?_
   exact hK _ _ _ rfl (Below.refl _ _) IsOut
  refine ⟨fun u W hb hd K hK => ?_, ?_⟩
  ·
   clear hd
   rw [if_pos (by rfl)]
   refine wp_load_mid 24 (.tmp 8) rfl g8 0 rfl (ptV none) _ (rangeAt_of_blk (bg8.below hb lg8)) Tryd.underlying24 rfl (infoPt.trans (by rw [ptV_length])) ?_
   exact hK _ _ _ rfl (Below.refl _ _) IsOut
  refine ⟨fun u W hb hd K hK => ?_, ?_⟩
  ·
   simp only [Facts, nthR, Is, and_true] at hd
   simp only [hd] at hK ⊢
   clear hd
   go_simp
   refine (AddP (hT.up hb0 hb) (hp15) ((Lib.hid rfl : Hid ((none : Pt) = mulG 0))) hp43).mono ?_
   rintro e wy ⟨rfl, hby⟩
   exact hK _ _ _ rfl hby IsOut
  exact trivial
 ·
  exact (.is (.is (.is .nil)))
 intro u w12 hb hd
 simp only [List.drop_succ_cons, List.drop_zero]
 simp only [Facts, nthR, Is, and_true] at hd
 have h2 := hd
 clear hd
 simp only [h2]
 clear h2
 replace bg7 := bg7.below hb lg7
 replace bg8 := bg8.below hb lg8
 replace hb0 := hb0.trans (hb.mono hb0.size)
 replace lg7 := bg7.lt
 replace lg8 := bg8.lt
 clear hb
 refine wpList_new_blk rfl 24 rfl (ptV none) zeroPt ?_
 intro g9 w13 hg bg9 hb
 have og9 := Lib.hid (show w.heap.size ≤ g9 ∧ g7 < g9 ∧ g8 < g9 from ⟨Nat.le_trans hb0.size (Nat.le_of_eq hg.symm), Nat.lt_of_lt_of_le lg7 (Nat.le_of_eq hg.symm), Nat.lt_of_lt_of_le lg8 (Nat.le_of_eq hg.symm)⟩)
 clear hg
 replace bg7 := bg7.below hb lg7
 replace bg8 := bg8.below hb lg8
 replace hb0 := hb0.trans (hb.mono hb0.size)
 replace lg7 := bg7.lt
 replace lg8 := bg8.lt
 clear hb
 have lg9 := bg9.lt
 try simp only [Act.put, List.setIfInBounds_toArray, List.set_cons_zero, List.set_cons_succ]
 refine wpList_store_blk rfl 24 (.tmp 9) (.tmp 43) rfl rfl g9 (ptV p43) rfl rfl _ _ bg9 (infoPt.trans (by rw [ptV_length])) (by first | with_reducible rfl | rw [ptV_length, ptV_length] | rw [ptV_length]) (onePv _) ?_
 intro w14 bn hgs
 replace bg7 := bg7.grown hgs (fun e => Nat.ne_of_lt og9.out.2.1 (Option.some.inj e))
 replace bg8 := bg8.grown hgs (fun e => Nat.ne_of_lt og9.out.2.2 (Option.some.inj e))
 replace hb0 := below_new hb0 hgs og9.out.1 hb0.size
 clear hgs bg9
 have bg9 := bn
 clear bn
 replace lg7 := bg7.lt
 replace lg8 := bg8.lt
 replace lg9 := bg9.lt
 try simp only [Act.put]
 go_upto_region 10 with (fail)
 obtain ⟨p57, hp57⟩ : ∃ s : Pt, Hid (s = mulG (n + 0)) := ⟨_, Lib.hid rfl⟩
 refine wp_region_noPanic ?_
 apply wp_region_fresh (m := 18) (Z := [15]) (Fl := [false, false, false, false, false, false, false, false, false, false, false, false, false, false, false, false, true, true]) (D := [[], [0], [0, 1], [], [3], [0, 1, 2, 3, 4], [], [6], [0, 1, 2, 3, 4, 5, 6, 7], [], [9], [0, 1, 2, 3, 4, 5, 6, 7, 8, 9, 10], [0, 1, 2, 3, 4, 5, 6, 7, 8, 9, 10, 11], [0, 1, 2, 3, 4, 5, 6, 7, 8, 9, 10, 11, 12], [0, 1, 2, 3, 4, 5, 6, 7, 8, 9, 10, 11, 12, 13], [0, 1, 2, 3, 4, 5, 6, 7, 8, 9, 10, 11, 12, 13], [], [], [0, 1, 2, 3, 4, 5, 6, 7, 8, 9, 10, 11, 12, 13, 14, 16, 17], [0, 1, 2, 3, 4, 5, 6, 7, 8, 9, 10, 11, 12, 13, 14, 15, 16, 17, 18]]) (J := [[], [0], [1], [], [3], [4], [], [6], [7], [], [9], [10], [2, 5, 8, 11], [12], [13], [13], [], []]) (Je := [14, 15, 16, 17]) (Rs := [Is _, Is _, Is _, Is _, Is _, Is _, Is _, Is _, Is _, Is _, Is _, Is _, Is _, Is _, Is _, Is _, fun v V => ∃ g', v = .pointer (some ⟨g', 0, none⟩) ∧ w14.heap.size ≤ g' ∧ Blk V g' 29 (nC zeroP), fun v V => ∃ g', v = .pointer (some ⟨g', 0, none⟩) ∧ w14.heap.size ≤ g' ∧ Blk V g' 29 (nC zeroP)])
 ·
  kernel_rfl
 ·
  kernel_rfl
 ·
  kernel_rfl
 ·
  kernel_rfl
 ·
  kernel_rfl
 ·
  kernel_rfl
 ·
  kernel_rfl
 ·
  kernel_rfl
 ·
  exact fun _ _ _ _ _ _ h => h
 ·
  intro u
  simp only [List.take_succ_cons, List.take_zero, List.map_cons, List.map_nil, fillU, List.setIfInBounds_toArray, List.set_cons_zero, List.set_cons_succ, Nat.reduceAdd]
  exact rfl
 ·
  simp only [List.take_succ_cons, List.take_zero]
  refine ⟨fun u W hb hd K hK => ?_, ?_⟩
  ·
   clear hd
   go_simp
   apply hK
   ·
    simp only [Act.put, List.setIfInBounds_toArray, List.set_cons_zero, List.set_cons_succ]
    exact rfl
   ·
    exact Below.refl _ _
   ·
    exact IsOut
  refine ⟨fun u W hb hd K hK => ?_, ?_⟩
  ·
   simp only [Facts, nthR, Is, and_true] at hd
   simp only [hd] at hK ⊢
   clear hd
   rw [if_pos (by rfl)]
   refine wp_load_mid 22 (.tmp 45) rfl g7 0 rfl ((xB p15).map B8) _ (ptv_range0 (bg7.below hb lg7)) Tryd.underlying22 rfl (info40.trans (by rw [List.length_map, (Lib.hid (xB_length p15)).out])) ?_
   exact hK _ _ _ rfl (Below.refl _ _) IsOut
  refine ⟨fun u W hb hd K hK => ?_, ?_⟩
  ·
   simp only [Facts, nthR, Is, and_true] at hd
   simp only [hd] at hK ⊢
   clear hd
   go_simp
   refine (ROf (Lib.hid (of_xB p15)) (Lib.hid (xB_length p15)) _).mono ?_
   rintro e wy ⟨rfl, hby⟩
   exact hK _ _ _ rfl hby IsOut
  refine ⟨fun u W hb hd K hK => ?_, ?_⟩
  ·
   clear hd
   go_simp
   apply hK
   ·
    simp only [Act.put, List.setIfInBounds_toArray, List.set_cons_zero, List.set_cons_succ]
    exact rfl
   ·
    exact Below.refl _ _
   ·
    exact IsOut
  refine ⟨fun u W hb hd K hK => ?_, ?_⟩
  ·
   simp only [Facts, nthR, Is, and_true] at hd
   simp only [hd] at hK ⊢
   clear hd
   rw [if_pos (by rfl)]
   refine wp_load_mid 22 (.tmp 48) rfl g7 32 rfl ((yB p15).map B8) _ (ptv_range1 (bg7.below hb lg7)) Tryd.underlying22 rfl (info40.trans (by rw [List.length_map, (Lib.hid (yB_length p15)).out])) ?_
   exact hK _ _ _ rfl (Below.refl _ _) IsOut
  refine ⟨fun u W hb hd K hK => ?_, ?_⟩
  ·
   simp only [Facts, nthR, Is, and_true] at hd
   simp only [hd] at hK ⊢
   clear hd
   go_simp
   refine (ROf (Lib.hid (of_yB p15)) (Lib.hid (yB_length p15)) _).mono ?_
   rintro e wy ⟨rfl, hby⟩
   exact hK _ _ _ rfl hby IsOut
  refine ⟨fun u W hb hd K hK => ?_, ?_⟩
  ·
   clear hd
   go_simp
   apply hK
   ·
    simp only [Act.put, List.setIfInBounds_toArray, List.set_cons_zero, List.set_cons_succ]
    exact rfl
   ·
    exact Below.refl _ _
   ·
    exact IsOut
  refine ⟨fun u W hb hd K hK => ?_, ?_⟩
  ·
   simp only [Facts, nthR, Is, and_true] at hd
   simp only [hd] at hK ⊢
   clear hd
   rw [if_pos (by rfl)]
   refine wp_load_mid 22 (.tmp 51) rfl g8 0 rfl ((xB none).map B8) _ (ptv_range0 (bg8.below hb lg8)) Tryd.underlying22 rfl (info40.trans (by rw [List.length_map, (Lib.hid (xB_length none)).out])) ?_
   exact hK _ _ _ rfl (Below.refl _ _) IsOut
  refine ⟨fun u W hb hd K hK => ?_, ?_⟩
  ·
   simp only [Facts, nthR, Is, and_true] at hd
   simp only [hd] at hK ⊢
   clear hd
   go_simp
   refine (ROf (Lib.hid (of_xB none)) (Lib.hid (xB_length none)) _).mono ?_
   rintro e wy ⟨rfl, hby⟩
   exact hK _ _ _ rfl hby IsOut
  refine ⟨fun u W hb hd K hK => ?_, ?_⟩
  ·
   clear hd
   go_simp
   apply hK
   ·
    simp only [Act.put, List.setIfInBounds_toArray, List.set_cons_zero, List.set_cons_succ]
    exact rfl
   ·
    exact Below.refl _ _
   ·
    exact IsOut
  refine ⟨fun u W hb hd K hK => ?_, ?_⟩
  ·
   simp only [Facts, nthR, Is, and_true] at hd
   simp only [hd] at hK ⊢
   clear hd
   rw [if_pos (by rfl)]
   refine wp_load_mid 22 (.tmp 54) rfl g8 32 rfl ((yB none).map B8) _ (ptv_range1 (bg8.below hb lg8)) Tryd.underlying22 rfl (info40.trans (by rw [List.length_map, (Lib.hid (yB_length none)).out])) ?_
   exact hK _ _ _ rfl (Below.refl _ _) IsOut
  refine ⟨fun u W hb hd K hK => ?_, ?_⟩
  ·
   simp only [Facts, nthR, Is, and_true] at hd
   simp only [hd] at hK ⊢
   clear hd
   go_simp
   refine (ROf (Lib.hid (of_yB none)) (Lib.hid (yB_length none)) _).mono ?_
   rintro e wy ⟨rfl, hby⟩
   exact hK _ _ _ rfl hby IsOut
  refine ⟨fun u W hb hd K hK => ?_, ?_⟩
  ·
   simp only [Facts, nthR, Is, and_true] at hd
   simp only [hd] at hK ⊢
   clear hd
   go_simp
   refine (RAddP (hp15) ((Lib.hid rfl : Hid ((none : Pt) = mulG 0))) hp57 _).mono ?_
   rintro e wy ⟨rfl, hby⟩
   exact hK _ _ _ rfl hby IsOut
  refine ⟨fun u W hb hd K hK => ?_, ?_⟩
  ·
   simp only [Facts, nthR, Is, and_true] at hd
   simp only [hd] at hK ⊢
   clear hd
   go_simp
   apply hK
   ·
    simp only [Act.put, List.setIfInBounds_toArray, List.set_cons_zero, List.set_cons_succ]
    exact rfl
   ·
    exact Below.refl _ _
   ·
    exact IsOut
  refine ⟨fun u W hb hd K hK => ?_, ?_⟩
  ·
   simp only [Facts, nthR, Is, and_true] at hd
   simp only [hd] at hK ⊢
   clear hd
   go_simp
   apply hK
   ·
    simp only [Act.put, List.setIfInBounds_toArray, List.set_cons_zero, List.set_cons_succ]
    exact rfl
   ·
    exact Below.refl _ _
   ·
    exact IsOut
  refine ⟨fun u W hb hd K hK => ?_, ?_⟩
  ·
   simp only [Facts, nthR, Is, and_true] at hd
   simp only [hd] at hK ⊢
   clear hd
   go_simp
   apply hK
   ·
    simp only [Act.put, List.setIfInBounds_toArray, List.set_cons_zero, List.set_cons_succ]
    exact rfl
   ·
    exact Below.refl _ _
   ·
    exact IsOut
  refine ⟨fun u W hb hd K hK => ?_, ?_⟩
  ·
   clear hd
   go_simp
   apply hK
   ·
    simp only [Act.put, List.setIfInBounds_toArray, List.set_cons_zero, List.set_cons_succ]
    exact rfl
   ·
    exact (Below.refl _ _).alloc (Nat.le_refl _) _
   ·
    exact ⟨_, rfl, hb.size, Blk.new_of _ _ _ _ rfl⟩
   ·
    exact ⟨_, rfl, Nat.le_refl _, by simp⟩
  refine ⟨fun u W hb hd K hK => ?_, ?_⟩
  ·
   clear hd
   go_simp
   apply hK
   ·
    simp only [Act.put, List.setIfInBounds_toArray, List.set_cons_zero, List.set_cons_succ]
    exact rfl
   ·
    exact (Below.refl _ _).alloc (Nat.le_refl _) _
   ·
    exact ⟨_, rfl, hb.size, Blk.new_of _ _ _ _ rfl⟩
   ·
    exact ⟨_, rfl, Nat.le_refl _, by simp⟩
  exact trivial
 ·
  skip
  refine ⟨fun o ho u W hb hd => ?_, ?_⟩
  ·
   obtain rfl := Option.some.inj ho
   simp only [Facts, nthR, Is, and_true, List.getD_cons_succ, List.getD_cons_zero] at hd
   simp only [hd]
   clear hd
   exact ⟨_, .inl ⟨by rfl, fun w' => by go_simp⟩, IsOut (w := W)⟩
  exact trivial
 ·
  exact (.is (.is (.is (.is (.is (.is (.is (.is (.is (.is (.is (.is (.is (.is (.is (.is (.cons (fun v V V' ⟨g', h1, h2, h3⟩ hb => ⟨g', h1, h2, h3.below hb h3.lt⟩) (.cons (fun v V V' ⟨g', h1, h2, h3⟩ hb => ⟨g', h1, h2, h3.below hb h3.lt⟩) .nil))))))))))))))))))
 intro u w15 hb hd hne
 simp only [List.drop_succ_cons, List.drop_zero]
 simp only [Facts, nthR, Is, and_true] at hd
 obtain ⟨h14, h15, ⟨g10, h16, hng10, bg10⟩, ⟨g11, h17, hng11, bg11⟩⟩ := hd
 have og10 := Lib.hid (show w.heap.size ≤ g10 ∧ g7 < g10 ∧ g8 < g10 ∧ g9 < g10 from ⟨Nat.le_trans hb0.size hng10, Nat.lt_of_lt_of_le lg7 hng10, Nat.lt_of_lt_of_le lg8 hng10, Nat.lt_of_lt_of_le lg9 hng10⟩)
 have og11 := Lib.hid (show w.heap.size ≤ g11 ∧ g7 < g11 ∧ g8 < g11 ∧ g9 < g11 ∧ g10 ≠ g11 from ⟨Nat.le_trans hb0.size hng11, Nat.lt_of_lt_of_le lg7 hng11, Nat.lt_of_lt_of_le lg8 hng11, Nat.lt_of_lt_of_le lg9 hng11, (fun e => hne 16 17 rfl rfl (by decide) (by decide) (by decide) (by rw [h16, h17, e]))⟩)
 simp only [h14, h15, h16, h17]
 clear h14 h15 h16 h17 hne
 replace bg7 := bg7.below hb lg7
 replace bg8 := bg8.below hb lg8
 replace bg9 := bg9.below hb lg9
 replace hb0 := hb0.trans (hb.mono hb0.size)
 replace lg7 := bg7.lt
 replace lg8 := bg8.lt
 replace lg9 := bg9.lt
 clear hb
 have lg10 := bg10.lt
 clear hng10
 have lg11 := bg11.lt
 clear hng11
 refine wpList_store_blk rfl 29 (.tmp 10) (.tmp 58) rfl rfl g10 (nC (xN p57)) rfl rfl _ _ bg10 (infoN6.trans (by rw [nC_length])) (by first | with_reducible rfl | rw [nC_length, nC_length] | rw [nC_length]) (one4 _) ?_
 intro w16 bn hgs
 replace bg7 := bg7.grown hgs (fun e => Nat.ne_of_lt og10.out.2.1 (Option.some.inj e))
 replace bg8 := bg8.grown hgs (fun e => Nat.ne_of_lt og10.out.2.2.1 (Option.some.inj e))
 replace bg9 := bg9.grown hgs (fun e => Nat.ne_of_lt og10.out.2.2.2 (Option.some.inj e))
 replace bg11 := bg11.grown hgs (fun e => og11.out.2.2.2.2 (Option.some.inj e).symm)
 replace hb0 := below_new hb0 hgs og10.out.1 hb0.size
 clear hgs bg10
 have bg10 := bn
 clear bn
 replace lg7 := bg7.lt
 replace lg8 := bg8.lt
 replace lg9 := bg9.lt
 replace lg10 := bg10.lt
 replace lg11 := bg11.lt
 try simp only [Act.put]
 refine wpList_store_blk rfl 29 (.tmp 11) (.tmp 59) rfl rfl g11 (nC (yN p57)) rfl rfl _ _ bg11 (infoN6.trans (by rw [nC_length])) (by first | with_reducible rfl | rw [nC_length, nC_length] | rw [nC_length]) (one4 _) ?_
 intro w17 bn hgs
 replace bg7 := bg7.grown hgs (fun e => Nat.ne_of_lt og11.out.2.1 (Option.some.inj e))
 replace bg8 := bg8.grown hgs (fun e => Nat.ne_of_lt og11.out.2.2.1 (Option.some.inj e))
 replace bg9 := bg9.grown hgs (fun e => Nat.ne_of_lt og11.out.2.2.2.1 (Option.some.inj e))
 replace bg10 := bg10.grown hgs (fun e => og11.out.2.2.2.2 (Option.some.inj e))
 replace hb0 := below_new hb0 hgs og11.out.1 hb0.size
 clear hgs bg11
 have bg11 := bn
 clear bn
 replace lg7 := bg7.lt
 replace lg8 := bg8.lt
 replace lg9 := bg9.lt
 replace lg10 := bg10.lt
 replace lg11 := bg11.lt
 try simp only [Act.put]
 first | (go_wp2; refine NoPanic.normal ?_) | refine wpList_nil (NoPanic.normal ?_)
 go_upto_region 11 with (fail)
 obtain ⟨B65, hB65⟩ : ∃ s : List UInt8, Hid (bsTo (xN p57) 32 = s) := ⟨_, Lib.hid rfl⟩
 obtain ⟨B72, hB72⟩ : ∃ s : List UInt8, Hid (bsTo (yN p57) 32 = s) := ⟨_, Lib.hid rfl⟩
 obtain ⟨p78, hp78⟩ : ∃ s : Pt, Hid (s = mulG (0 + n)) := ⟨_, Lib.hid rfl⟩
 have e57 := Lib.hid (show p57 = p43 by rw [hp57.out, hp43.out])
 have E6 := Lib.hid (show xB p43 = B65 by rw [← hB65.out, bs_xN, e57.out])
 have E13 := Lib.hid (show yB p43 = B72 by rw [← hB72.out, bs_yN, e57.out])
 have E20 := Lib.hid (show p78 = p43 by rw [hp78.out, hp43.out, Nat.add_comm])
 apply wp_region_once_tail (m := 26) (Z := []) (D := [[], [0], [0, 1], [0, 1, 2], [0, 1], [0, 1, 4], [0, 1, 2, 3, 4, 5], [0, 1, 2, 3, 4, 5, 6], [0, 1, 2, 3, 4, 5, 6, 7], [0, 1, 2, 3, 4, 5, 6, 7, 8], [0, 1, 2, 3, 4, 5, 6, 7, 8, 9], [0, 1, 2, 3, 4, 5, 6, 7, 8], [0, 1, 2, 3, 4, 5, 6, 7, 8, 11], [0, 1, 2, 3, 4, 5, 6, 7, 8, 9, 10, 11, 12], [0, 1, 2, 3, 4, 5, 6, 7, 8, 9, 10, 11, 12, 13], [0, 1, 2, 3, 4, 5, 6, 7, 8, 9, 10, 11, 12, 13, 14], [0, 1, 2, 3, 4, 5, 6, 7, 8, 9, 10, 11, 12, 13, 14, 15], [0, 1, 2, 3, 4, 5, 6, 7, 8, 9, 10, 11, 12, 13, 14, 15], [0, 1, 2, 3, 4, 5, 6, 7, 8, 9, 10, 11, 12, 13, 14, 15, 16, 17], [0, 1, 2, 3, 4, 5, 6, 7, 8, 9, 10, 11, 12, 13, 14, 15], [0, 1, 2, 3, 4, 5, 6, 7, 8, 9, 10, 11, 12, 13, 14, 15, 16, 17, 18, 19], [0, 1, 2, 3, 4, 5, 6, 7, 8, 9, 10, 11, 12, 13, 14, 15, 16, 17, 18, 19, 20], [0, 1, 2, 3, 4, 5, 6, 7, 8, 9, 10, 11, 12, 13, 14, 15, 16, 17, 18, 19, 20, 21], [0, 1, 2, 3, 4, 5, 6, 7, 8, 9, 10, 11, 12, 13, 14, 15, 16, 17, 18, 19, 20, 21, 22], [0, 1, 2, 3, 4, 5, 6, 7, 8, 9, 10, 11, 12, 13, 14, 15, 16, 17, 18, 19, 20, 21, 22, 23], [0, 1, 2, 3, 4, 5, 6, 7, 8, 9, 10, 11, 12, 13, 14, 15, 16, 17, 18, 19, 20, 21, 22, 23, 24], [0, 1, 2, 3, 4, 5, 6, 7, 8, 9, 10, 11, 12, 13, 14, 15, 16, 17, 18, 19, 20, 21, 22, 23, 24, 25]]) (J := [[], [0], [1], [1, 2], [1], [1, 4], [1, 3, 5], [1, 6], [7], [8], [8, 9], [8], [8, 11], [8, 10, 12], [8, 13], [14], [15], [15], [15, 16, 17], [15], [15, 18, 19], [15, 20], [21], [22], [22, 23], [22, 24]]) (Je := [25]) (Rs := [Is _, Is _, Is _, Is _, Is _, Is _, Is _, Is _, Is _, Is _, Is _, Is _, Is _, Is _, Is _, Is _, Is _, Is _, Is _, Is _, Is _, Is _, Is _, Is _, Is _, Is _])
 ·
  kernel_rfl
 ·
  kernel_rfl
 ·
  kernel_rfl
 ·
  kernel_rfl
 ·
  kernel_rfl
 ·
  kernel_rfl
 ·
  kernel_rfl
 ·
  exact fun h => absurd rfl h
 ·
  intro u
  simp only [List.take_succ_cons, List.take_zero, List.map_cons, List.map_nil, fillU, List.setIfInBounds_toArray, List.set_cons_zero, List.set_cons_succ, Nat.reduceAdd]
  exact rfl
 ·
  simp only [List.take_succ_cons, List.take_zero]
  refine ⟨fun u W hb hd K hK => ?_, ?_⟩
  ·
   clear hd
   go_simp
   refine (CurvesE (hT.up hb0 hb)).mono ?_
   rintro e wy ⟨rfl, hby⟩
   exact hK _ _ _ rfl hby IsOut
  refine ⟨fun u W hb hd K hK => ?_, ?_⟩
  ·
   simp only [Facts, nthR, Is, and_true] at hd
   simp only [hd] at hK ⊢
   clear hd
   go_simp
   apply hK
   ·
    simp only [Act.put, List.setIfInBounds_toArray, List.set_cons_zero, List.set_cons_succ]
    exact rfl
   ·
    exact Below.refl _ _
   ·
    exact IsOut
  refine ⟨fun u W hb hd K hK => ?_, ?_⟩
  ·
   simp only [Facts, nthR, Is, and_true] at hd
   simp only [hd] at hK ⊢
   clear hd
   go_simp
   apply hK
   ·
    simp only [Act.put, List.setIfInBounds_toArray, List.set_cons_zero, List.set_cons_succ]
    exact rfl
   ·
    exact Below.refl _ _
   ·
    exact IsOut
  refine ⟨fun u W hb hd K hK => ?_, ?_⟩
  ·
   simp only [Facts, nthR, Is, and_true] at hd
   simp only [hd] at hK ⊢
   clear hd
   rw [if_pos (by rfl)]
   refine wp_load_mid 22 (.tmp 62) rfl g9 0 rfl ((xB p43).map B8) _ (ptv_range0 (bg9.below hb lg9)) Tryd.underlying22 rfl (info40.trans (by rw [List.length_map, (Lib.hid (xB_length p43)).out])) ?_
   exact hK _ _ _ rfl (Below.refl _ _) IsOut
  refine ⟨fun u W hb hd K hK => ?_, ?_⟩
  ·
   simp only [Facts, nthR, Is, and_true] at hd
   simp only [hd] at hK ⊢
   clear hd
   rw [if_pos (by rfl)]
   refine wp_load_mid 29 (.tmp 10) rfl g10 0 rfl (nC (xN p57)) _ (rangeAt_of_blk (bg10.below hb lg10)) Tryd.underlying29 rfl (infoN6.trans (by rw [nC_length])) ?_
   exact hK _ _ _ rfl (Below.refl _ _) IsOut
  refine ⟨fun u W hb hd K hK => ?_, ?_⟩
  ·
   simp only [Facts, nthR, Is, and_true] at hd
   simp only [hd] at hK ⊢
   clear hd
   go_simp
   refine (RBytes hB65 _).mono ?_
   rintro e wy ⟨rfl, hby⟩
   exact hK _ _ _ rfl hby IsOut
  refine ⟨fun u W hb hd K hK => ?_, ?_⟩
  ·
   simp only [Facts, nthR, Is, and_true] at hd
   simp only [hd] at hK ⊢
   clear hd
   rw [if_pos (by rfl)]
   refine wp_eqlA rfl rfl rfl guardB32 (show (Op.equalIn 10000 22 (.agg ((xB p43).map B8).toArray) (.agg (B65.map B8).toArray)).run Tryd.prog W = .ok true W from EqB (Lib.hid (xB_length p43)) (bytes_len hB65) (Lib.hid (beq_iff_eq.2 (E6.out))) W) ?_
   exact hK _ _ (.bool true) rfl (Below.refl _ _) IsOut
  refine ⟨fun u W hb hd K hK => ?_, ?_⟩
  ·
   simp only [Facts, nthR, Is, and_true] at hd
   simp only [hd] at hK ⊢
   clear hd
   go_simp
   apply hK
   ·
    simp only [Act.put, List.setIfInBounds_toArray, List.set_cons_zero, List.set_cons_succ]
    exact rfl
   ·
    exact Below.refl _ _
   ·
    exact IsOut
  refine ⟨fun u W hb hd K hK => ?_, ?_⟩
  ·
   simp only [Facts, nthR, Is, and_true] at hd
   simp only [hd] at hK ⊢
   clear hd
   go_simp
   apply hK
   ·
    simp only [Act.put, List.setIfInBounds_toArray, List.set_cons_zero, List.set_cons_succ]
    exact rfl
   ·
    exact Below.refl _ _
   ·
    exact IsOut
  refine ⟨fun u W hb hd K hK => ?_, ?_⟩
  ·
   simp only [Facts, nthR, Is, and_true] at hd
   simp only [hd] at hK ⊢
   clear hd
   go_simp
   apply hK
   ·
    simp only [Act.put, List.setIfInBounds_toArray, List.set_cons_zero, List.set_cons_succ]
    exact rfl
   ·
    exact Below.refl _ _
   ·
    exact IsOut
  refine ⟨fun u W hb hd K hK => ?_, ?_⟩
  ·
   simp only [Facts, nthR, Is, and_true] at hd
   simp only [hd] at hK ⊢
   clear hd
   rw [if_pos (by rfl)]
   refine wp_load_mid 22 (.tmp 69) rfl g9 32 rfl ((yB p43).map B8) _ (ptv_range1 (bg9.below hb lg9)) Tryd.underlying22 rfl (info40.trans (by rw [List.length_map, (Lib.hid (yB_length p43)).out])) ?_
   exact hK _ _ _ rfl (Below.refl _ _) IsOut
  refine ⟨fun u W hb hd K hK => ?_, ?_⟩
  ·
   simp only [Facts, nthR, Is, and_true] at hd
   simp only [hd] at hK ⊢
   clear hd
   rw [if_pos (by rfl)]
   refine wp_load_mid 29 (.tmp 11) rfl g11 0 rfl (nC (yN p57)) _ (rangeAt_of_blk (bg11.below hb lg11)) Tryd.underlying29 rfl (infoN6.trans (by rw [nC_length])) ?_
   exact hK _ _ _ rfl (Below.refl _ _) IsOut
  refine ⟨fun u W hb hd K hK => ?_, ?_⟩
  ·
   simp only [Facts, nthR, Is, and_true] at hd
   simp only [hd] at hK ⊢
   clear hd
   go_simp
   refine (RBytes hB72 _).mono ?_
   rintro e wy ⟨rfl, hby⟩
   exact hK _ _ _ rfl hby IsOut
  refine ⟨fun u W hb hd K hK => ?_, ?_⟩
  ·
   simp only [Facts, nthR, Is, and_true] at hd
   simp only [hd] at hK ⊢
   clear hd
   rw [if_pos (by rfl)]
   refine wp_eqlA rfl rfl rfl guardB32 (show (Op.equalIn 10000 22 (.agg ((yB p43).map B8).toArray) (.agg (B72.map B8).toArray)).run Tryd.prog W = .ok true W from EqB (Lib.hid (yB_length p43)) (bytes_len hB72) (Lib.hid (beq_iff_eq.2 (E13.out))) W) ?_
   exact hK _ _ (.bool true) rfl (Below.refl _ _) IsOut
  refine ⟨fun u W hb hd K hK => ?_, ?_⟩
  ·
   simp only [Facts, nthR, Is, and_true] at hd
   simp only [hd] at hK ⊢
   clear hd
   go_simp
   apply hK
   ·
    simp only [Act.put, List.setIfInBounds_toArray, List.set_cons_zero, List.set_cons_succ]
    exact rfl
   ·
    exact Below.refl _ _
   ·
    exact IsOut
  refine ⟨fun u W hb hd K hK => ?_, ?_⟩
  ·
   simp only [Facts, nthR, Is, and_true] at hd
   simp only [hd] at hK ⊢
   clear hd
   go_simp
   apply hK
   ·
    simp only [Act.put, List.setIfInBounds_toArray, List.set_cons_zero, List.set_cons_succ]
    exact rfl
   ·
    exact Below.refl _ _
   ·
    exact IsOut
  refine ⟨fun u W hb hd K hK => ?_, ?_⟩
  ·
   simp only [Facts, nthR, Is, and_true] at hd
   simp only [hd] at hK ⊢
   clear hd
   rw [if_pos (by rfl)]
   refine wp_load_mid 24 (.tmp 8) rfl g8 0 rfl (ptV none) _ (rangeAt_of_blk (bg8.below hb lg8)) Tryd.underlying24 rfl (infoPt.trans (by rw [ptV_length])) ?_
   exact hK _ _ _ rfl (Below.refl _ _) IsOut
  refine ⟨fun u W hb hd K hK => ?_, ?_⟩
  ·
   simp only [Facts, nthR, Is, and_true] at hd
   simp only [hd] at hK ⊢
   clear hd
   rw [if_pos (by rfl)]
   refine wp_load_mid 24 (.tmp 7) rfl g7 0 rfl (ptV p15) _ (rangeAt_of_blk (bg7.below hb lg7)) Tryd.underlying24 rfl (infoPt.trans (by rw [ptV_length])) ?_
   exact hK _ _ _ rfl (Below.refl _ _) IsOut
  refine ⟨fun u W hb hd K hK => ?_, ?_⟩
  ·
   simp only [Facts, nthR, Is, and_true] at hd
   simp only [hd] at hK ⊢
   clear hd
   go_simp
   refine (AddP (hT.up hb0 hb) ((Lib.hid rfl : Hid ((none : Pt) = mulG 0))) (hp15) hp78).mono ?_
   rintro e wy ⟨rfl, hby⟩
   exact hK _ _ _ rfl hby IsOut
  refine ⟨fun u W hb hd K hK => ?_, ?_⟩
  ·
   simp only [Facts, nthR, Is, and_true] at hd
   simp only [hd] at hK ⊢
   clear hd
   rw [if_pos (by rfl)]
   refine wp_load_mid 24 (.tmp 9) rfl g9 0 rfl (ptV p43) _ (rangeAt_of_blk (bg9.below hb lg9)) Tryd.underlying24 rfl (infoPt.trans (by rw [ptV_length])) ?_
   exact hK _ _ _ rfl (Below.refl _ _) IsOut
  refine ⟨fun u W hb hd K hK => ?_, ?_⟩
  ·
   simp only [Facts, nthR, Is, and_true] at hd
   simp only [hd] at hK ⊢
   clear hd
   rw [if_pos (by rfl)]
   refine wp_eqlA rfl rfl rfl guardPt (show (Op.equalIn 10000 24 (.agg (ptV p78).toArray) (.agg (ptV p43).toArray)).run Tryd.prog W = .ok true W from EqP (on_of (hp78)) (on_of (hp43)) (Lib.hid (decide_eq_true (E20.out))) W) ?_
   exact hK _ _ (.bool true) rfl (Below.refl _ _) IsOut
  refine ⟨fun u W hb hd K hK => ?_, ?_⟩
  ·
   simp only [Facts, nthR, Is, and_true] at hd
   simp only [hd] at hK ⊢
   clear hd
   go_simp
   apply hK
   ·
    simp only [Act.put, List.setIfInBounds_toArray, List.set_cons_zero, List.set_cons_succ]
    exact rfl
   ·
    exact Below.refl _ _
   ·
    exact IsOut
  refine ⟨fun u W hb hd K hK => ?_, ?_⟩
  ·
   simp only [Facts, nthR, Is, and_true] at hd
   simp only [hd] at hK ⊢
   clear hd
   go_simp
   apply hK
   ·
    simp only [Act.put, List.setIfInBounds_toArray, List.set_cons_zero, List.set_cons_succ]
    exact rfl
   ·
    exact Below.refl _ _
   ·
    exact IsOut
  refine ⟨fun u W hb hd K hK => ?_, ?_⟩
  ·
   simp only [Facts, nthR, Is, and_true] at hd
   simp only [hd] at hK ⊢
   clear hd
   rw [if_pos (by rfl)]
   refine wp_load_mid 24 (.tmp 9) rfl g9 0 rfl (ptV p43) _ (rangeAt_of_blk (bg9.below hb lg9)) Tryd.underlying24 rfl (infoPt.trans (by rw [ptV_length])) ?_
   exact hK _ _ _ rfl (Below.refl _ _) IsOut
  refine ⟨fun u W hb hd K hK => ?_, ?_⟩
  ·
   simp only [Facts, nthR, Is, and_true] at hd
   simp only [hd] at hK ⊢
   clear hd
   go_simp
   refine (OnP (hT.up hb0 hb) (hp43)).mono ?_
   rintro e wy ⟨rfl, hby⟩
   exact hK _ _ _ rfl hby IsOut
  refine ⟨fun u W hb hd K hK => ?_, ?_⟩
  ·
   simp only [Facts, nthR, Is, and_true] at hd
   simp only [hd] at hK ⊢
   clear hd
   go_simp
   apply hK
   ·
    simp only [Act.put, List.setIfInBounds_toArray, List.set_cons_zero, List.set_cons_succ]
    exact rfl
   ·
    exact Below.refl _ _
   ·
    exact IsOut
  exact trivial
 ·
  skip
  exact trivial
 ·
  exact (.is (.is (.is (.is (.is (.is (.is (.is (.is (.is (.is (.is (.is (.is (.is (.is (.is (.is (.is (.is (.is (.is (.is (.is (.is (.is .nil))))))))))))))))))))))))))
 intro u w18 hb hd
 simp only [List.drop_succ_cons, List.drop_zero]
 simp only [Facts, nthR, Is, and_true] at hd
 have h25 := hd
 clear hd
 simp only [h25]
 clear h25
 replace bg7 := bg7.below hb lg7
 replace bg8 := bg8.below hb lg8
 replace bg9 := bg9.below hb lg9
 replace bg10 := bg10.below hb lg10
 replace bg11 := bg11.below hb lg11
 replace hb0 := hb0.trans (hb.mono hb0.size)
 replace lg7 := bg7.lt
 replace lg8 := bg8.lt
 replace lg9 := bg9.lt
 replace lg10 := bg10.lt
 replace lg11 := bg11.lt
 clear hb
 go_wp2_with (fail)
 refine bodyPost_ret (results_tmp Tryd.results4 _ _ _) rfl ?_
 exact ⟨rfl, hb0⟩
theorem curveAdds_any (n m : Nat) (how : Int) (w : World) (hT : TabsC w) (hn : n < 65536) (hm : m < 65536) : Calls Tryd.prog 4 #[.int .u16 (n : Int), .int .u16 (m : Int), .int .i64 how] w fun e w' => e = .returned (.bool true) ∧ Below w.heap.size w w' := by
 obtain ⟨z, hz⟩ : ∃ z : Nat, IntKind.u64.wrap how = (z : Int) := ⟨(IntKind.u64.wrap how).toNat, by rw [IntKind.wrap_u64]; omega⟩
 have ht : (z : Int).tmod 4 = (z : Int) % 4 := Int.tmod_eq_emod_of_nonneg (by omega)
 rcases (show (z : Int) % 4 = 0 ∨ (z : Int) % 4 = 1 ∨ (z : Int) % 4 = 2 ∨ (z : Int) % 4 = 3 by omega) with h | h | h | h
 ·
  exact curveAdds_0 n m z how w hT hn hm (Lib.hid hz) (Lib.hid (ht.trans h)) (Lib.hid h)
 ·
  exact curveAdds_1 n m z how w hT hn hm (Lib.hid hz) (Lib.hid (ht.trans h)) (Lib.hid h)
 ·
  exact curveAdds_2 n m z how w hT hn hm (Lib.hid hz) (Lib.hid (ht.trans h)) (Lib.hid h)
 ·
  exact curveAdds_3 n m z how w hT hn hm (Lib.hid hz) (Lib.hid (ht.trans h)) (Lib.hid h)
end Go.Proofs.YtnkikhnllnbhfaaDoor
