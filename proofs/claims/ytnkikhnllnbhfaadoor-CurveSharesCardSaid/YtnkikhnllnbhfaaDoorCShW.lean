/-
 CurveShares's walk.
-/
import Derived.Test.YtnkikhnllnbhfaaDoorCs3
namespace Go.Proofs.YtnkikhnllnbhfaaDoor
open Go.RowKit
open CurveMath

/-- What Public makes is read. -/
theorem pub_row {B : List UInt8} {n : Nat} {P : Pt} {bs : List UInt8} (hS : Hid (secretB B = true)) (hn : Hid ((ofTo B 32).val = n)) (hP : Hid (P = mulG n)) (hb : Hid (bs = wrB (xB (mulG n)) (yB (mulG n)))) : rdX bs = xB P ∧ rdY bs = yB P ∧ rdE bs = 0 ∧ Spots (xB P) (yB P) n := by
 obtain ⟨h1, h2⟩ := secret_of hS.out
 rw [hn.out] at h1 h2
 have h3 := mulG_some h1 h2
 match h : mulG n with
 | none => exact absurd h h3
 | some (x, y) =>
  obtain ⟨e0, e1, e2⟩ := rd_wr (on_mulG n) h
  rw [hb.out, hP.out]
  refine ⟨e1, e2, ?_, spots_of rfl⟩
  unfold rdE
  rw [e0, if_pos rfl]
theorem rd_nil : rdX [] = zero32 ∧ rdY [] = zero32 ∧ rdE [] = 15 := by
 have e0 : okR [] = false := by unfold okR; rfl
 unfold rdX rdY rdE
 rw [e0]
 exact ⟨rfl, rfl, rfl⟩
theorem rd_not {xs : List UInt8} (h : okR xs = false) : rdX xs = zero32 ∧ rdY xs = zero32 ∧ rdE xs = 15 := by
 unfold rdX rdY rdE
 rw [h]
 exact ⟨rfl, rfl, rfl⟩
theorem rd_yes {xs : List UInt8} (h : okR xs = true) : rdE xs = 0 := by
 unfold rdE
 rw [h, if_pos rfl]
set_option maxRecDepth 100000 in
set_option maxHeartbeats 4000000 in
theorem curveShares_000 (A B : List UInt8) (A3 : Option Addr) (n3 c3 : Nat) (xs : List UInt8) (w : World) (hT : TabsC w) (hA : Hid (A.length = 32)) (hB : Hid (B.length = 32)) (_hN : xs.length = n3) (_hI : In w w.heap.size A3 c3 xs) (hSA : Hid (secretB A = false)) (hSB : Hid (secretB B = false)) : Calls Tryd.prog 8 #[.agg (A.map B8).toArray, .agg (B.map B8).toArray, .slice A3 n3 c3] w fun e w' => e = .returned (.bool true) ∧ Below w.heap.size w w' := by
 go_enter Tryd.func8, Tryd.ntmps8
 have hb0 : Below w.heap.size w w := Below.refl _ _
 obtain ⟨vA, hvA⟩ : ∃ s, Hid ((ofTo A 32).val = s) := ⟨_, Lib.hid rfl⟩
 obtain ⟨vB, hvB⟩ : ∃ s, Hid ((ofTo B 32).val = s) := ⟨_, Lib.hid rfl⟩
 obtain ⟨hXN, hYN, hEN⟩ := rd_nil
 replace hXN := Lib.hid hXN
 replace hYN := Lib.hid hYN
 replace hEN := Lib.hid hEN
 go_upto_region 0 with (fail)
 refine wp_region_lit ?_
 refine wpList_box_blk rfl 22 (.tmp 0) rfl (A.map B8) rfl ?_
 intro g3 w1 hg bg3 hb
 have og3 := Lib.hid (show w.heap.size ≤ g3 from Nat.le_trans hb0.size (Nat.le_of_eq hg.symm))
 clear hg
 replace hb0 := hb0.trans (hb.mono hb0.size)
 clear hb
 have lg3 := bg3.lt
 try simp only [Act.put, List.setIfInBounds_toArray, List.set_cons_zero, List.set_cons_succ]
 refine wpList_box_blk rfl 22 (.tmp 1) rfl (B.map B8) rfl ?_
 intro g4 w2 hg bg4 hb
 have og4 := Lib.hid (show w.heap.size ≤ g4 ∧ g3 < g4 from ⟨Nat.le_trans hb0.size (Nat.le_of_eq hg.symm), Nat.lt_of_lt_of_le lg3 (Nat.le_of_eq hg.symm)⟩)
 clear hg
 replace bg3 := bg3.below hb lg3
 replace hb0 := hb0.trans (hb.mono hb0.size)
 replace lg3 := bg3.lt
 clear hb
 have lg4 := bg4.lt
 try simp only [Act.put, List.setIfInBounds_toArray, List.set_cons_zero, List.set_cons_succ]
 go_upto_region 1 with (fail)
 apply wp_plain_once (m := 5) (J := [[], [0], [1], [2], [2]]) (Je := [3, 4]) (Rs := [Is _, Is _, Is _, Is _, Is _])
 ·
  kernel_rfl
 ·
  kernel_rfl
 ·
  intro u
  simp only [List.take_succ_cons, List.take_zero, List.map_cons, List.map_nil, fillU, List.setIfInBounds_toArray, List.set_cons_zero, List.set_cons_succ, Nat.reduceAdd]
  exact rfl
 ·
  simp only [List.take_succ_cons, List.take_zero]
  refine ⟨fun u W hb hd K hK => ?_, ?_⟩
  ·
   clear hd
   rw [if_pos (by rfl)]
   refine wp_load_mid 22 (.tmp 3) rfl g3 0 rfl (A.map B8) _ (rangeAt_of_blk (bg3.below hb lg3)) Tryd.underlying22 rfl (info40.trans (by rw [List.length_map, (hA).out])) ?_
   exact hK _ _ _ rfl (Below.refl _ _) IsOut
  refine ⟨fun u W hb hd K hK => ?_, ?_⟩
  ·
   simp only [Facts, nthR, Is, and_true] at hd
   simp only [hd] at hK ⊢
   clear hd
   go_simp
   refine (curvePublic_0 A _ (hT.up hb0 hb) (hA) hSA).mono ?_
   rintro e wy ⟨rfl, hby⟩
   exact hK _ _ _ rfl hby IsOut
  refine ⟨fun u W hb hd K hK => ?_, ?_⟩
  ·
   simp only [Facts, nthR, Is, and_true] at hd
   simp only [hd] at hK ⊢
   clear hd
   go_simp
   apply hK
   ·
    simp only [Act.put, List.setIfInBounds_toArray, List.set_cons_zero, List.set_cons_succ]
    exact rfl
   ·
    exact Below.refl _ _
   ·
    exact IsOut
  refine ⟨fun u W hb hd K hK => ?_, ?_⟩
  ·
   simp only [Facts, nthR, Is, and_true] at hd
   simp only [hd] at hK ⊢
   clear hd
   go_simp
   apply hK
   ·
    simp only [Act.put, List.setIfInBounds_toArray, List.set_cons_zero, List.set_cons_succ]
    exact rfl
   ·
    exact Below.refl _ _
   ·
    exact IsOut
  refine ⟨fun u W hb hd K hK => ?_, ?_⟩
  ·
   simp only [Facts, nthR, Is, and_true] at hd
   simp only [hd] at hK ⊢
   clear hd
   go_simp
   apply hK
   ·
    simp only [Act.put, List.setIfInBounds_toArray, List.set_cons_zero, List.set_cons_succ]
    exact rfl
   ·
    exact Below.refl _ _
   ·
    exact IsOut
  exact trivial
 ·
  exact (.is (.is (.is (.is (.is .nil)))))
 intro u w3 hb hd
 simp only [List.drop_succ_cons, List.drop_zero]
 simp only [Facts, nthR, Is, and_true] at hd
 obtain ⟨h3, h4⟩ := hd
 simp only [h3, h4]
 clear h3 h4
 replace bg3 := bg3.below hb lg3
 replace bg4 := bg4.below hb lg4
 replace hb0 := hb0.trans (hb.mono hb0.size)
 replace lg3 := bg3.lt
 replace lg4 := bg4.lt
 clear hb
 go_upto_region 2 with (fail)
 apply wp_plain_once (m := 5) (J := [[], [0], [1], [2], [2]]) (Je := [3, 4]) (Rs := [Is _, Is _, Is _, Is _, Is _])
 ·
  kernel_rfl
 ·
  kernel_rfl
 ·
  intro u
  simp only [List.take_succ_cons, List.take_zero, List.map_cons, List.map_nil, fillU, List.setIfInBounds_toArray, List.set_cons_zero, List.set_cons_succ, Nat.reduceAdd]
  exact rfl
 ·
  simp only [List.take_succ_cons, List.take_zero]
  refine ⟨fun u W hb hd K hK => ?_, ?_⟩
  ·
   clear hd
   rw [if_pos (by rfl)]
   refine wp_load_mid 22 (.tmp 4) rfl g4 0 rfl (B.map B8) _ (rangeAt_of_blk (bg4.below hb lg4)) Tryd.underlying22 rfl (info40.trans (by rw [List.length_map, (hB).out])) ?_
   exact hK _ _ _ rfl (Below.refl _ _) IsOut
  refine ⟨fun u W hb hd K hK => ?_, ?_⟩
  ·
   simp only [Facts, nthR, Is, and_true] at hd
   simp only [hd] at hK ⊢
   clear hd
   go_simp
   refine (curvePublic_0 B _ (hT.up hb0 hb) (hB) hSB).mono ?_
   rintro e wy ⟨rfl, hby⟩
   exact hK _ _ _ rfl hby IsOut
  refine ⟨fun u W hb hd K hK => ?_, ?_⟩
  ·
   simp only [Facts, nthR, Is, and_true] at hd
   simp only [hd] at hK ⊢
   clear hd
   go_simp
   apply hK
   ·
    simp only [Act.put, List.setIfInBounds_toArray, List.set_cons_zero, List.set_cons_succ]
    exact rfl
   ·
    exact Below.refl _ _
   ·
    exact IsOut
  refine ⟨fun u W hb hd K hK => ?_, ?_⟩
  ·
   simp only [Facts, nthR, Is, and_true] at hd
   simp only [hd] at hK ⊢
   clear hd
   go_simp
   apply hK
   ·
    simp only [Act.put, List.setIfInBounds_toArray, List.set_cons_zero, List.set_cons_succ]
    exact rfl
   ·
    exact Below.refl _ _
   ·
    exact IsOut
  refine ⟨fun u W hb hd K hK => ?_, ?_⟩
  ·
   simp only [Facts, nthR, Is, and_true] at hd
   simp only [hd] at hK ⊢
   clear hd
   go_simp
   apply hK
   ·
    simp only [Act.put, List.setIfInBounds_toArray, List.set_cons_zero, List.set_cons_succ]
    exact rfl
   ·
    exact Below.refl _ _
   ·
    exact IsOut
  exact trivial
 ·
  exact (.is (.is (.is (.is (.is .nil)))))
 intro u w4 hb hd
 simp only [List.drop_succ_cons, List.drop_zero]
 simp only [Facts, nthR, Is, and_true] at hd
 obtain ⟨h3, h4⟩ := hd
 simp only [h3, h4]
 clear h3 h4
 replace bg3 := bg3.below hb lg3
 replace bg4 := bg4.below hb lg4
 replace hb0 := hb0.trans (hb.mono hb0.size)
 replace lg3 := bg3.lt
 replace lg4 := bg4.lt
 clear hb
 go_upto_region 3 with (fail)
 apply wp_plain_once (m := 2) (J := [[], [0]]) (Je := [1]) (Rs := [Is _, Is _])
 ·
  kernel_rfl
 ·
  kernel_rfl
 ·
  intro u
  simp only [List.take_succ_cons, List.take_zero, List.map_cons, List.map_nil, fillU, List.setIfInBounds_toArray, List.set_cons_zero, List.set_cons_succ, Nat.reduceAdd]
  exact rfl
 ·
  simp only [List.take_succ_cons, List.take_zero]
  refine ⟨fun u W hb hd K hK => ?_, ?_⟩
  ·
   clear hd
   rw [if_pos (by rfl)]
   refine wp_load_mid 22 (.tmp 3) rfl g3 0 rfl (A.map B8) _ (rangeAt_of_blk (bg3.below hb lg3)) Tryd.underlying22 rfl (info40.trans (by rw [List.length_map, (hA).out])) ?_
   exact hK _ _ _ rfl (Below.refl _ _) IsOut
  refine ⟨fun u W hb hd K hK => ?_, ?_⟩
  ·
   simp only [Facts, nthR, Is, and_true] at hd
   simp only [hd] at hK ⊢
   clear hd
   go_simp
   refine (Func1E (hA) hSA _).mono ?_
   rintro e wy ⟨rfl, hby⟩
   exact hK _ _ _ rfl hby IsOut
  exact trivial
 ·
  exact (.is (.is .nil))
 intro u w5 hb hd
 simp only [List.drop_succ_cons, List.drop_zero]
 simp only [Facts, nthR, Is, and_true] at hd
 have h1 := hd
 clear hd
 simp only [h1]
 clear h1
 replace bg3 := bg3.below hb lg3
 replace bg4 := bg4.below hb lg4
 replace hb0 := hb0.trans (hb.mono hb0.size)
 replace lg3 := bg3.lt
 replace lg4 := bg4.lt
 clear hb
 go_upto_region 4 with (fail)
 apply wp_plain_once (m := 2) (J := [[], [0]]) (Je := [1]) (Rs := [Is _, Is _])
 ·
  kernel_rfl
 ·
  kernel_rfl
 ·
  intro u
  simp only [List.take_succ_cons, List.take_zero, List.map_cons, List.map_nil, fillU, List.setIfInBounds_toArray, List.set_cons_zero, List.set_cons_succ, Nat.reduceAdd]
  exact rfl
 ·
  simp only [List.take_succ_cons, List.take_zero]
  refine ⟨fun u W hb hd K hK => ?_, ?_⟩
  ·
   clear hd
   rw [if_pos (by rfl)]
   refine wp_load_mid 22 (.tmp 4) rfl g4 0 rfl (B.map B8) _ (rangeAt_of_blk (bg4.below hb lg4)) Tryd.underlying22 rfl (info40.trans (by rw [List.length_map, (hB).out])) ?_
   exact hK _ _ _ rfl (Below.refl _ _) IsOut
  refine ⟨fun u W hb hd K hK => ?_, ?_⟩
  ·
   simp only [Facts, nthR, Is, and_true] at hd
   simp only [hd] at hK ⊢
   clear hd
   go_simp
   refine (Func1E (hB) hSB _).mono ?_
   rintro e wy ⟨rfl, hby⟩
   exact hK _ _ _ rfl hby IsOut
  exact trivial
 ·
  exact (.is (.is .nil))
 intro u w6 hb hd
 simp only [List.drop_succ_cons, List.drop_zero]
 simp only [Facts, nthR, Is, and_true] at hd
 have h1 := hd
 clear hd
 simp only [h1]
 clear h1
 replace bg3 := bg3.below hb lg3
 replace bg4 := bg4.below hb lg4
 replace hb0 := hb0.trans (hb.mono hb0.size)
 replace lg3 := bg3.lt
 replace lg4 := bg4.lt
 clear hb
 go_upto_region 5 with (fail)
 apply wp_plain_once (m := 6) (J := [[], [], [0, 1], [2], [3], [3]]) (Je := [4, 5]) (Rs := [Is _, Is _, Is _, Is _, Is _, Is _])
 ·
  kernel_rfl
 ·
  kernel_rfl
 ·
  intro u
  simp only [List.take_succ_cons, List.take_zero, List.map_cons, List.map_nil, fillU, List.setIfInBounds_toArray, List.set_cons_zero, List.set_cons_succ, Nat.reduceAdd]
  exact rfl
 ·
  simp only [List.take_succ_cons, List.take_zero]
  refine ⟨fun u W hb hd K hK => ?_, ?_⟩
  ·
   clear hd
   rw [if_pos (by rfl)]
   refine wp_load_mid 22 (.tmp 3) rfl g3 0 rfl (A.map B8) _ (rangeAt_of_blk (bg3.below hb lg3)) Tryd.underlying22 rfl (info40.trans (by rw [List.length_map, (hA).out])) ?_
   exact hK _ _ _ rfl (Below.refl _ _) IsOut
  refine ⟨fun u W hb hd K hK => ?_, ?_⟩
  ·
   clear hd
   go_simp
   apply hK
   ·
    simp only [Act.put, List.setIfInBounds_toArray, List.set_cons_zero, List.set_cons_succ]
    exact rfl
   ·
    exact Below.refl _ _
   ·
    exact IsOut
  refine ⟨fun u W hb hd K hK => ?_, ?_⟩
  ·
   simp only [Facts, nthR, Is, and_true] at hd
   simp only [hd] at hK ⊢
   clear hd
   go_simp
   refine (curveShared_0 A none 0 0 [] _ (hT.up hb0 hb) (hA) rfl (in_nil _ 0 (by decide) none) hSA).mono ?_
   rintro e wy ⟨rfl, hby⟩
   exact hK _ _ _ rfl hby IsOut
  refine ⟨fun u W hb hd K hK => ?_, ?_⟩
  ·
   simp only [Facts, nthR, Is, and_true] at hd
   simp only [hd] at hK ⊢
   clear hd
   go_simp
   apply hK
   ·
    simp only [Act.put, List.setIfInBounds_toArray, List.set_cons_zero, List.set_cons_succ]
    exact rfl
   ·
    exact Below.refl _ _
   ·
    exact IsOut
  refine ⟨fun u W hb hd K hK => ?_, ?_⟩
  ·
   simp only [Facts, nthR, Is, and_true] at hd
   simp only [hd] at hK ⊢
   clear hd
   go_simp
   apply hK
   ·
    simp only [Act.put, List.setIfInBounds_toArray, List.set_cons_zero, List.set_cons_succ]
    exact rfl
   ·
    exact Below.refl _ _
   ·
    exact IsOut
  refine ⟨fun u W hb hd K hK => ?_, ?_⟩
  ·
   simp only [Facts, nthR, Is, and_true] at hd
   simp only [hd] at hK ⊢
   clear hd
   go_simp
   apply hK
   ·
    simp only [Act.put, List.setIfInBounds_toArray, List.set_cons_zero, List.set_cons_succ]
    exact rfl
   ·
    exact Below.refl _ _
   ·
    exact IsOut
  exact trivial
 ·
  exact (.is (.is (.is (.is (.is (.is .nil))))))
 intro u w7 hb hd
 simp only [List.drop_succ_cons, List.drop_zero]
 simp only [Facts, nthR, Is, and_true] at hd
 obtain ⟨h4, h5⟩ := hd
 simp only [h4, h5]
 clear h4 h5
 replace bg3 := bg3.below hb lg3
 replace bg4 := bg4.below hb lg4
 replace hb0 := hb0.trans (hb.mono hb0.size)
 replace lg3 := bg3.lt
 replace lg4 := bg4.lt
 clear hb
 refine wpList_new_store rfl 22 rfl rfl (zero32.map B8) zeroB32 rfl rfl rfl (zero32.map B8) (fun _ => rfl) (fun _ => rfl) (info40.trans (by rw [List.length_map, ((Lib.hid (by decide) : Hid (zero32.length = 32))).out])) (by first | with_reducible rfl | rw [List.length_map, ((Lib.hid (by decide) : Hid (zero32.length = 32))).out, List.length_map, ((Lib.hid (by decide) : Hid (zero32.length = 32))).out] | rw [List.length_map, ((Lib.hid (by decide) : Hid (zero32.length = 32))).out]) (one8 _) ?_
 intro g13 w8 hg bg13 hb
 have og13 := Lib.hid (show w.heap.size ≤ g13 ∧ g3 < g13 ∧ g4 < g13 from ⟨Nat.le_trans hb0.size (Nat.le_of_eq hg.symm), Nat.lt_of_lt_of_le lg3 (Nat.le_of_eq hg.symm), Nat.lt_of_lt_of_le lg4 (Nat.le_of_eq hg.symm)⟩)
 clear hg
 replace bg3 := bg3.below hb lg3
 replace bg4 := bg4.below hb lg4
 replace hb0 := hb0.trans (hb.mono hb0.size)
 replace lg3 := bg3.lt
 replace lg4 := bg4.lt
 clear hb
 have lg13 := bg13.lt
 try simp only [Act.put, List.setIfInBounds_toArray, List.set_cons_zero, List.set_cons_succ]
 go_upto_region 6 with (fail)
 apply wp_plain_once (m := 6) (J := [[], [], [0, 1], [2], [3], [3]]) (Je := [4, 5]) (Rs := [Is _, Is _, Is _, Is _, Is _, Is _])
 ·
  kernel_rfl
 ·
  kernel_rfl
 ·
  intro u
  simp only [List.take_succ_cons, List.take_zero, List.map_cons, List.map_nil, fillU, List.setIfInBounds_toArray, List.set_cons_zero, List.set_cons_succ, Nat.reduceAdd]
  exact rfl
 ·
  simp only [List.take_succ_cons, List.take_zero]
  refine ⟨fun u W hb hd K hK => ?_, ?_⟩
  ·
   clear hd
   rw [if_pos (by rfl)]
   refine wp_load_mid 22 (.tmp 4) rfl g4 0 rfl (B.map B8) _ (rangeAt_of_blk (bg4.below hb lg4)) Tryd.underlying22 rfl (info40.trans (by rw [List.length_map, (hB).out])) ?_
   exact hK _ _ _ rfl (Below.refl _ _) IsOut
  refine ⟨fun u W hb hd K hK => ?_, ?_⟩
  ·
   clear hd
   go_simp
   apply hK
   ·
    simp only [Act.put, List.setIfInBounds_toArray, List.set_cons_zero, List.set_cons_succ]
    exact rfl
   ·
    exact Below.refl _ _
   ·
    exact IsOut
  refine ⟨fun u W hb hd K hK => ?_, ?_⟩
  ·
   simp only [Facts, nthR, Is, and_true] at hd
   simp only [hd] at hK ⊢
   clear hd
   go_simp
   refine (curveShared_0 B none 0 0 [] _ (hT.up hb0 hb) (hB) rfl (in_nil _ 0 (by decide) none) hSB).mono ?_
   rintro e wy ⟨rfl, hby⟩
   exact hK _ _ _ rfl hby IsOut
  refine ⟨fun u W hb hd K hK => ?_, ?_⟩
  ·
   simp only [Facts, nthR, Is, and_true] at hd
   simp only [hd] at hK ⊢
   clear hd
   go_simp
   apply hK
   ·
    simp only [Act.put, List.setIfInBounds_toArray, List.set_cons_zero, List.set_cons_succ]
    exact rfl
   ·
    exact Below.refl _ _
   ·
    exact IsOut
  refine ⟨fun u W hb hd K hK => ?_, ?_⟩
  ·
   simp only [Facts, nthR, Is, and_true] at hd
   simp only [hd] at hK ⊢
   clear hd
   go_simp
   apply hK
   ·
    simp only [Act.put, List.setIfInBounds_toArray, List.set_cons_zero, List.set_cons_succ]
    exact rfl
   ·
    exact Below.refl _ _
   ·
    exact IsOut
  refine ⟨fun u W hb hd K hK => ?_, ?_⟩
  ·
   simp only [Facts, nthR, Is, and_true] at hd
   simp only [hd] at hK ⊢
   clear hd
   go_simp
   apply hK
   ·
    simp only [Act.put, List.setIfInBounds_toArray, List.set_cons_zero, List.set_cons_succ]
    exact rfl
   ·
    exact Below.refl _ _
   ·
    exact IsOut
  exact trivial
 ·
  exact (.is (.is (.is (.is (.is (.is .nil))))))
 intro u w9 hb hd
 simp only [List.drop_succ_cons, List.drop_zero]
 simp only [Facts, nthR, Is, and_true] at hd
 obtain ⟨h4, h5⟩ := hd
 simp only [h4, h5]
 clear h4 h5
 replace bg3 := bg3.below hb lg3
 replace bg4 := bg4.below hb lg4
 replace bg13 := bg13.below hb lg13
 replace hb0 := hb0.trans (hb.mono hb0.size)
 replace lg3 := bg3.lt
 replace lg4 := bg4.lt
 replace lg13 := bg13.lt
 clear hb
 refine wpList_new_store rfl 22 rfl rfl (zero32.map B8) zeroB32 rfl rfl rfl (zero32.map B8) (fun _ => rfl) (fun _ => rfl) (info40.trans (by rw [List.length_map, ((Lib.hid (by decide) : Hid (zero32.length = 32))).out])) (by first | with_reducible rfl | rw [List.length_map, ((Lib.hid (by decide) : Hid (zero32.length = 32))).out, List.length_map, ((Lib.hid (by decide) : Hid (zero32.length = 32))).out] | rw [List.length_map, ((Lib.hid (by decide) : Hid (zero32.length = 32))).out]) (one8 _) ?_
 intro g15 w10 hg bg15 hb
 have og15 := Lib.hid (show w.heap.size ≤ g15 ∧ g3 < g15 ∧ g4 < g15 ∧ g13 < g15 from ⟨Nat.le_trans hb0.size (Nat.le_of_eq hg.symm), Nat.lt_of_lt_of_le lg3 (Nat.le_of_eq hg.symm), Nat.lt_of_lt_of_le lg4 (Nat.le_of_eq hg.symm), Nat.lt_of_lt_of_le lg13 (Nat.le_of_eq hg.symm)⟩)
 clear hg
 replace bg3 := bg3.below hb lg3
 replace bg4 := bg4.below hb lg4
 replace bg13 := bg13.below hb lg13
 replace hb0 := hb0.trans (hb.mono hb0.size)
 replace lg3 := bg3.lt
 replace lg4 := bg4.lt
 replace lg13 := bg13.lt
 clear hb
 have lg15 := bg15.lt
 try simp only [Act.put, List.setIfInBounds_toArray, List.set_cons_zero, List.set_cons_succ]
 go_upto_region 7 with (fail)
 apply wp_plain_once (m := 22) (J := [[], [0], [1], [2], [2, 3], [2], [2, 4, 5], [2, 6], [7], [8], [8, 9], [8], [8, 10, 11], [8, 12], [13], [14], [14, 15], [14, 16], [17], [17, 18], [14, 17, 19], [14, 20]]) (Je := [21]) (Rs := [Is _, Is _, Is _, Is _, Is _, Is _, Is _, Is _, Is _, Is _, Is _, Is _, Is _, Is _, Is _, Is _, Is _, Is _, Is _, Is _, Is _, Is _])
 ·
  kernel_rfl
 ·
  kernel_rfl
 ·
  intro u
  simp only [List.take_succ_cons, List.take_zero, List.map_cons, List.map_nil, fillU, List.setIfInBounds_toArray, List.set_cons_zero, List.set_cons_succ, Nat.reduceAdd]
  exact rfl
 ·
  simp only [List.take_succ_cons, List.take_zero]
  refine ⟨fun u W hb hd K hK => ?_, ?_⟩
  ·
   clear hd
   go_simp
   refine (CurvesE (hT.up hb0 hb)).mono ?_
   rintro e wy ⟨rfl, hby⟩
   exact hK _ _ _ rfl hby IsOut
  refine ⟨fun u W hb hd K hK => ?_, ?_⟩
  ·
   simp only [Facts, nthR, Is, and_true] at hd
   simp only [hd] at hK ⊢
   clear hd
   go_simp
   apply hK
   ·
    simp only [Act.put, List.setIfInBounds_toArray, List.set_cons_zero, List.set_cons_succ]
    exact rfl
   ·
    exact Below.refl _ _
   ·
    exact IsOut
  refine ⟨fun u W hb hd K hK => ?_, ?_⟩
  ·
   simp only [Facts, nthR, Is, and_true] at hd
   simp only [hd] at hK ⊢
   clear hd
   go_simp
   apply hK
   ·
    simp only [Act.put, List.setIfInBounds_toArray, List.set_cons_zero, List.set_cons_succ]
    exact rfl
   ·
    exact Below.refl _ _
   ·
    exact IsOut
  refine ⟨fun u W hb hd K hK => ?_, ?_⟩
  ·
   simp only [Facts, nthR, Is, and_true] at hd
   simp only [hd] at hK ⊢
   clear hd
   go_simp
   apply hK
   ·
    simp only [Act.put, List.setIfInBounds_toArray, List.set_cons_zero, List.set_cons_succ]
    exact rfl
   ·
    exact Below.refl _ _
   ·
    exact IsOut
  refine ⟨fun u W hb hd K hK => ?_, ?_⟩
  ·
   simp only [Facts, nthR, Is, and_true] at hd
   simp only [hd] at hK ⊢
   clear hd
   go_simp
   apply hK
   ·
    simp only [Act.put, List.setIfInBounds_toArray, List.set_cons_zero, List.set_cons_succ]
    exact rfl
   ·
    exact Below.refl _ _
   ·
    exact IsOut
  refine ⟨fun u W hb hd K hK => ?_, ?_⟩
  ·
   simp only [Facts, nthR, Is, and_true] at hd
   simp only [hd] at hK ⊢
   clear hd
   go_simp
   apply hK
   ·
    simp only [Act.put, List.setIfInBounds_toArray, List.set_cons_zero, List.set_cons_succ]
    exact rfl
   ·
    exact Below.refl _ _
   ·
    exact IsOut
  refine ⟨fun u W hb hd K hK => ?_, ?_⟩
  ·
   simp only [Facts, nthR, Is, and_true] at hd
   simp only [hd] at hK ⊢
   clear hd
   go_simp
   apply hK
   ·
    simp only [Act.put, List.setIfInBounds_toArray, List.set_cons_zero, List.set_cons_succ]
    exact rfl
   ·
    exact Below.refl _ _
   ·
    exact IsOut
  refine ⟨fun u W hb hd K hK => ?_, ?_⟩
  ·
   simp only [Facts, nthR, Is, and_true] at hd
   simp only [hd] at hK ⊢
   clear hd
   go_simp
   apply hK
   ·
    simp only [Act.put, List.setIfInBounds_toArray, List.set_cons_zero, List.set_cons_succ]
    exact rfl
   ·
    exact Below.refl _ _
   ·
    exact IsOut
  refine ⟨fun u W hb hd K hK => ?_, ?_⟩
  ·
   simp only [Facts, nthR, Is, and_true] at hd
   simp only [hd] at hK ⊢
   clear hd
   go_simp
   apply hK
   ·
    simp only [Act.put, List.setIfInBounds_toArray, List.set_cons_zero, List.set_cons_succ]
    exact rfl
   ·
    exact Below.refl _ _
   ·
    exact IsOut
  refine ⟨fun u W hb hd K hK => ?_, ?_⟩
  ·
   simp only [Facts, nthR, Is, and_true] at hd
   simp only [hd] at hK ⊢
   clear hd
   go_simp
   apply hK
   ·
    simp only [Act.put, List.setIfInBounds_toArray, List.set_cons_zero, List.set_cons_succ]
    exact rfl
   ·
    exact Below.refl _ _
   ·
    exact IsOut
  refine ⟨fun u W hb hd K hK => ?_, ?_⟩
  ·
   simp only [Facts, nthR, Is, and_true] at hd
   simp only [hd] at hK ⊢
   clear hd
   go_simp
   apply hK
   ·
    simp only [Act.put, List.setIfInBounds_toArray, List.set_cons_zero, List.set_cons_succ]
    exact rfl
   ·
    exact Below.refl _ _
   ·
    exact IsOut
  refine ⟨fun u W hb hd K hK => ?_, ?_⟩
  ·
   simp only [Facts, nthR, Is, and_true] at hd
   simp only [hd] at hK ⊢
   clear hd
   go_simp
   apply hK
   ·
    simp only [Act.put, List.setIfInBounds_toArray, List.set_cons_zero, List.set_cons_succ]
    exact rfl
   ·
    exact Below.refl _ _
   ·
    exact IsOut
  refine ⟨fun u W hb hd K hK => ?_, ?_⟩
  ·
   simp only [Facts, nthR, Is, and_true] at hd
   simp only [hd] at hK ⊢
   clear hd
   go_simp
   apply hK
   ·
    simp only [Act.put, List.setIfInBounds_toArray, List.set_cons_zero, List.set_cons_succ]
    exact rfl
   ·
    exact Below.refl _ _
   ·
    exact IsOut
  refine ⟨fun u W hb hd K hK => ?_, ?_⟩
  ·
   simp only [Facts, nthR, Is, and_true] at hd
   simp only [hd] at hK ⊢
   clear hd
   go_simp
   apply hK
   ·
    simp only [Act.put, List.setIfInBounds_toArray, List.set_cons_zero, List.set_cons_succ]
    exact rfl
   ·
    exact Below.refl _ _
   ·
    exact IsOut
  refine ⟨fun u W hb hd K hK => ?_, ?_⟩
  ·
   simp only [Facts, nthR, Is, and_true] at hd
   simp only [hd] at hK ⊢
   clear hd
   go_simp
   apply hK
   ·
    simp only [Act.put, List.setIfInBounds_toArray, List.set_cons_zero, List.set_cons_succ]
    exact rfl
   ·
    exact Below.refl _ _
   ·
    exact IsOut
  refine ⟨fun u W hb hd K hK => ?_, ?_⟩
  ·
   simp only [Facts, nthR, Is, and_true] at hd
   simp only [hd] at hK ⊢
   clear hd
   go_simp
   apply hK
   ·
    simp only [Act.put, List.setIfInBounds_toArray, List.set_cons_zero, List.set_cons_succ]
    exact rfl
   ·
    exact Below.refl _ _
   ·
    exact IsOut
  refine ⟨fun u W hb hd K hK => ?_, ?_⟩
  ·
   simp only [Facts, nthR, Is, and_true] at hd
   simp only [hd] at hK ⊢
   clear hd
   go_simp
   apply hK
   ·
    simp only [Act.put, List.setIfInBounds_toArray, List.set_cons_zero, List.set_cons_succ]
    exact rfl
   ·
    exact Below.refl _ _
   ·
    exact IsOut
  refine ⟨fun u W hb hd K hK => ?_, ?_⟩
  ·
   simp only [Facts, nthR, Is, and_true] at hd
   simp only [hd] at hK ⊢
   clear hd
   go_simp
   apply hK
   ·
    simp only [Act.put, List.setIfInBounds_toArray, List.set_cons_zero, List.set_cons_succ]
    exact rfl
   ·
    exact Below.refl _ _
   ·
    exact IsOut
  refine ⟨fun u W hb hd K hK => ?_, ?_⟩
  ·
   simp only [Facts, nthR, Is, and_true] at hd
   simp only [hd] at hK ⊢
   clear hd
   go_simp
   apply hK
   ·
    simp only [Act.put, List.setIfInBounds_toArray, List.set_cons_zero, List.set_cons_succ]
    exact rfl
   ·
    exact Below.refl _ _
   ·
    exact IsOut
  refine ⟨fun u W hb hd K hK => ?_, ?_⟩
  ·
   simp only [Facts, nthR, Is, and_true] at hd
   simp only [hd] at hK ⊢
   clear hd
   go_simp
   apply hK
   ·
    simp only [Act.put, List.setIfInBounds_toArray, List.set_cons_zero, List.set_cons_succ]
    exact rfl
   ·
    exact Below.refl _ _
   ·
    exact IsOut
  refine ⟨fun u W hb hd K hK => ?_, ?_⟩
  ·
   simp only [Facts, nthR, Is, and_true] at hd
   simp only [hd] at hK ⊢
   clear hd
   go_simp
   apply hK
   ·
    simp only [Act.put, List.setIfInBounds_toArray, List.set_cons_zero, List.set_cons_succ]
    exact rfl
   ·
    exact Below.refl _ _
   ·
    exact IsOut
  refine ⟨fun u W hb hd K hK => ?_, ?_⟩
  ·
   simp only [Facts, nthR, Is, and_true] at hd
   simp only [hd] at hK ⊢
   clear hd
   go_simp
   apply hK
   ·
    simp only [Act.put, List.setIfInBounds_toArray, List.set_cons_zero, List.set_cons_succ]
    exact rfl
   ·
    exact Below.refl _ _
   ·
    exact IsOut
  exact trivial
 ·
  exact (.is (.is (.is (.is (.is (.is (.is (.is (.is (.is (.is (.is (.is (.is (.is (.is (.is (.is (.is (.is (.is (.is .nil))))))))))))))))))))))
 intro u w11 hb hd
 simp only [List.drop_succ_cons, List.drop_zero]
 simp only [Facts, nthR, Is, and_true] at hd
 have h21 := hd
 clear hd
 simp only [h21]
 clear h21
 replace bg3 := bg3.below hb lg3
 replace bg4 := bg4.below hb lg4
 replace bg13 := bg13.below hb lg13
 replace bg15 := bg15.below hb lg15
 replace hb0 := hb0.trans (hb.mono hb0.size)
 replace lg3 := bg3.lt
 replace lg4 := bg4.lt
 replace lg13 := bg13.lt
 replace lg15 := bg15.lt
 clear hb
 go_upto_region 9 with (fail)
 apply wp_plain_once (m := 2) (J := [[], [0]]) (Je := [1]) (Rs := [Is _, Is _])
 ·
  kernel_rfl
 ·
  kernel_rfl
 ·
  intro u
  simp only [List.take_succ_cons, List.take_zero, List.map_cons, List.map_nil, fillU, List.setIfInBounds_toArray, List.set_cons_zero, List.set_cons_succ, Nat.reduceAdd]
  exact rfl
 ·
  simp only [List.take_succ_cons, List.take_zero]
  refine ⟨fun u W hb hd K hK => ?_, ?_⟩
  ·
   clear hd
   go_simp
   apply hK
   ·
    simp only [Act.put, List.setIfInBounds_toArray, List.set_cons_zero, List.set_cons_succ]
    exact rfl
   ·
    exact Below.refl _ _
   ·
    exact IsOut
  refine ⟨fun u W hb hd K hK => ?_, ?_⟩
  ·
   simp only [Facts, nthR, Is, and_true] at hd
   simp only [hd] at hK ⊢
   clear hd
   go_simp
   apply hK
   ·
    simp only [Act.put, List.setIfInBounds_toArray, List.set_cons_zero, List.set_cons_succ]
    exact rfl
   ·
    exact Below.refl _ _
   ·
    exact IsOut
  exact trivial
 ·
  exact (.is (.is .nil))
 intro u w12 hb hd
 simp only [List.drop_succ_cons, List.drop_zero]
 simp only [Facts, nthR, Is, and_true] at hd
 have h1 := hd
 clear hd
 simp only [h1]
 clear h1
 replace bg3 := bg3.below hb lg3
 replace bg4 := bg4.below hb lg4
 replace bg13 := bg13.below hb lg13
 replace bg15 := bg15.below hb lg15
 replace hb0 := hb0.trans (hb.mono hb0.size)
 replace lg3 := bg3.lt
 replace lg4 := bg4.lt
 replace lg13 := bg13.lt
 replace lg15 := bg15.lt
 clear hb
 go_upto_region 10 with (fail)
 apply wp_plain_once (m := 7) (J := [[], [0], [1], [2], [2, 3], [2, 4], [2, 5]]) (Je := [6]) (Rs := [Is _, Is _, Is _, Is _, Is _, Is _, Is _])
 ·
  kernel_rfl
 ·
  kernel_rfl
 ·
  intro u
  simp only [List.take_succ_cons, List.take_zero, List.map_cons, List.map_nil, fillU, List.setIfInBounds_toArray, List.set_cons_zero, List.set_cons_succ, Nat.reduceAdd]
  exact rfl
 ·
  simp only [List.take_succ_cons, List.take_zero]
  refine ⟨fun u W hb hd K hK => ?_, ?_⟩
  ·
   clear hd
   go_simp
   apply hK
   ·
    simp only [Act.put, List.setIfInBounds_toArray, List.set_cons_zero, List.set_cons_succ]
    exact rfl
   ·
    exact Below.refl _ _
   ·
    exact IsOut
  refine ⟨fun u W hb hd K hK => ?_, ?_⟩
  ·
   simp only [Facts, nthR, Is, and_true] at hd
   simp only [hd] at hK ⊢
   clear hd
   go_simp
   apply hK
   ·
    simp only [Act.put, List.setIfInBounds_toArray, List.set_cons_zero, List.set_cons_succ]
    exact rfl
   ·
    exact Below.refl _ _
   ·
    exact IsOut
  refine ⟨fun u W hb hd K hK => ?_, ?_⟩
  ·
   simp only [Facts, nthR, Is, and_true] at hd
   simp only [hd] at hK ⊢
   clear hd
   go_simp
   apply hK
   ·
    simp only [Act.put, List.setIfInBounds_toArray, List.set_cons_zero, List.set_cons_succ]
    exact rfl
   ·
    exact Below.refl _ _
   ·
    exact IsOut
  refine ⟨fun u W hb hd K hK => ?_, ?_⟩
  ·
   simp only [Facts, nthR, Is, and_true] at hd
   simp only [hd] at hK ⊢
   clear hd
   go_simp
   apply hK
   ·
    simp only [Act.put, List.setIfInBounds_toArray, List.set_cons_zero, List.set_cons_succ]
    exact rfl
   ·
    exact Below.refl _ _
   ·
    exact IsOut
  refine ⟨fun u W hb hd K hK => ?_, ?_⟩
  ·
   simp only [Facts, nthR, Is, and_true] at hd
   simp only [hd] at hK ⊢
   clear hd
   go_simp
   apply hK
   ·
    simp only [Act.put, List.setIfInBounds_toArray, List.set_cons_zero, List.set_cons_succ]
    exact rfl
   ·
    exact Below.refl _ _
   ·
    exact IsOut
  refine ⟨fun u W hb hd K hK => ?_, ?_⟩
  ·
   simp only [Facts, nthR, Is, and_true] at hd
   simp only [hd] at hK ⊢
   clear hd
   go_simp
   apply hK
   ·
    simp only [Act.put, List.setIfInBounds_toArray, List.set_cons_zero, List.set_cons_succ]
    exact rfl
   ·
    exact Below.refl _ _
   ·
    exact IsOut
  refine ⟨fun u W hb hd K hK => ?_, ?_⟩
  ·
   simp only [Facts, nthR, Is, and_true] at hd
   simp only [hd] at hK ⊢
   clear hd
   go_simp
   apply hK
   ·
    simp only [Act.put, List.setIfInBounds_toArray, List.set_cons_zero, List.set_cons_succ]
    exact rfl
   ·
    exact Below.refl _ _
   ·
    exact IsOut
  exact trivial
 ·
  exact (.is (.is (.is (.is (.is (.is (.is .nil)))))))
 intro u w13 hb hd
 simp only [List.drop_succ_cons, List.drop_zero]
 simp only [Facts, nthR, Is, and_true] at hd
 have h6 := hd
 clear hd
 simp only [h6]
 clear h6
 replace bg3 := bg3.below hb lg3
 replace bg4 := bg4.below hb lg4
 replace bg13 := bg13.below hb lg13
 replace bg15 := bg15.below hb lg15
 replace hb0 := hb0.trans (hb.mono hb0.size)
 replace lg3 := bg3.lt
 replace lg4 := bg4.lt
 replace lg13 := bg13.lt
 replace lg15 := bg15.lt
 clear hb
 go_wp2_with (fail)
 refine bodyPost_ret (results_tmp Tryd.results8 _ _ _) rfl ?_
 exact ⟨rfl, hb0⟩
set_option maxRecDepth 100000 in
set_option maxHeartbeats 4000000 in
theorem curveShares_010 (A B : List UInt8) (A3 : Option Addr) (n3 c3 : Nat) (xs : List UInt8) (w : World) (hT : TabsC w) (hA : Hid (A.length = 32)) (hB : Hid (B.length = 32)) (_hN : xs.length = n3) (_hI : In w w.heap.size A3 c3 xs) (hSA : Hid (secretB A = false)) (hSB : Hid (secretB B = true)) : Calls Tryd.prog 8 #[.agg (A.map B8).toArray, .agg (B.map B8).toArray, .slice A3 n3 c3] w fun e w' => e = .returned (.bool true) ∧ Below w.heap.size w w' := by
 go_enter Tryd.func8, Tryd.ntmps8
 have hb0 : Below w.heap.size w w := Below.refl _ _
 obtain ⟨vA, hvA⟩ : ∃ s, Hid ((ofTo A 32).val = s) := ⟨_, Lib.hid rfl⟩
 obtain ⟨vB, hvB⟩ : ∃ s, Hid ((ofTo B 32).val = s) := ⟨_, Lib.hid rfl⟩
 obtain ⟨bq, hbq⟩ : ∃ s, Hid (s = wrB (xB (mulG vB)) (yB (mulG vB))) := ⟨_, Lib.hid rfl⟩
 obtain ⟨Pq, hPq⟩ : ∃ s : Pt, Hid (s = mulG vB) := ⟨_, Lib.hid rfl⟩
 obtain ⟨hXq, hYq, hEq, hSpq⟩ := pub_row hSB hvB hPq hbq
 replace hXq := Lib.hid hXq
 replace hYq := Lib.hid hYq
 replace hEq := Lib.hid hEq
 replace hSpq := Lib.hid hSpq
 obtain ⟨hXN, hYN, hEN⟩ := rd_nil
 replace hXN := Lib.hid hXN
 replace hYN := Lib.hid hYN
 replace hEN := Lib.hid hEN
 go_upto_region 0 with (fail)
 refine wp_region_lit ?_
 refine wpList_box_blk rfl 22 (.tmp 0) rfl (A.map B8) rfl ?_
 intro g3 w1 hg bg3 hb
 have og3 := Lib.hid (show w.heap.size ≤ g3 from Nat.le_trans hb0.size (Nat.le_of_eq hg.symm))
 clear hg
 replace hb0 := hb0.trans (hb.mono hb0.size)
 clear hb
 have lg3 := bg3.lt
 try simp only [Act.put, List.setIfInBounds_toArray, List.set_cons_zero, List.set_cons_succ]
 refine wpList_box_blk rfl 22 (.tmp 1) rfl (B.map B8) rfl ?_
 intro g4 w2 hg bg4 hb
 have og4 := Lib.hid (show w.heap.size ≤ g4 ∧ g3 < g4 from ⟨Nat.le_trans hb0.size (Nat.le_of_eq hg.symm), Nat.lt_of_lt_of_le lg3 (Nat.le_of_eq hg.symm)⟩)
 clear hg
 replace bg3 := bg3.below hb lg3
 replace hb0 := hb0.trans (hb.mono hb0.size)
 replace lg3 := bg3.lt
 clear hb
 have lg4 := bg4.lt
 try simp only [Act.put, List.setIfInBounds_toArray, List.set_cons_zero, List.set_cons_succ]
 go_upto_region 1 with (fail)
 apply wp_plain_once (m := 5) (J := [[], [0], [1], [2], [2]]) (Je := [3, 4]) (Rs := [Is _, Is _, Is _, Is _, Is _])
 ·
  kernel_rfl
 ·
  kernel_rfl
 ·
  intro u
  simp only [List.take_succ_cons, List.take_zero, List.map_cons, List.map_nil, fillU, List.setIfInBounds_toArray, List.set_cons_zero, List.set_cons_succ, Nat.reduceAdd]
  exact rfl
 ·
  simp only [List.take_succ_cons, List.take_zero]
  refine ⟨fun u W hb hd K hK => ?_, ?_⟩
  ·
   clear hd
   rw [if_pos (by rfl)]
   refine wp_load_mid 22 (.tmp 3) rfl g3 0 rfl (A.map B8) _ (rangeAt_of_blk (bg3.below hb lg3)) Tryd.underlying22 rfl (info40.trans (by rw [List.length_map, (hA).out])) ?_
   exact hK _ _ _ rfl (Below.refl _ _) IsOut
  refine ⟨fun u W hb hd K hK => ?_, ?_⟩
  ·
   simp only [Facts, nthR, Is, and_true] at hd
   simp only [hd] at hK ⊢
   clear hd
   go_simp
   refine (curvePublic_0 A _ (hT.up hb0 hb) (hA) hSA).mono ?_
   rintro e wy ⟨rfl, hby⟩
   exact hK _ _ _ rfl hby IsOut
  refine ⟨fun u W hb hd K hK => ?_, ?_⟩
  ·
   simp only [Facts, nthR, Is, and_true] at hd
   simp only [hd] at hK ⊢
   clear hd
   go_simp
   apply hK
   ·
    simp only [Act.put, List.setIfInBounds_toArray, List.set_cons_zero, List.set_cons_succ]
    exact rfl
   ·
    exact Below.refl _ _
   ·
    exact IsOut
  refine ⟨fun u W hb hd K hK => ?_, ?_⟩
  ·
   simp only [Facts, nthR, Is, and_true] at hd
   simp only [hd] at hK ⊢
   clear hd
   go_simp
   apply hK
   ·
    simp only [Act.put, List.setIfInBounds_toArray, List.set_cons_zero, List.set_cons_succ]
    exact rfl
   ·
    exact Below.refl _ _
   ·
    exact IsOut
  refine ⟨fun u W hb hd K hK => ?_, ?_⟩
  ·
   simp only [Facts, nthR, Is, and_true] at hd
   simp only [hd] at hK ⊢
   clear hd
   go_simp
   apply hK
   ·
    simp only [Act.put, List.setIfInBounds_toArray, List.set_cons_zero, List.set_cons_succ]
    exact rfl
   ·
    exact Below.refl _ _
   ·
    exact IsOut
  exact trivial
 ·
  exact (.is (.is (.is (.is (.is .nil)))))
 intro u w3 hb hd
 simp only [List.drop_succ_cons, List.drop_zero]
 simp only [Facts, nthR, Is, and_true] at hd
 obtain ⟨h3, h4⟩ := hd
 simp only [h3, h4]
 clear h3 h4
 replace bg3 := bg3.below hb lg3
 replace bg4 := bg4.below hb lg4
 replace hb0 := hb0.trans (hb.mono hb0.size)
 replace lg3 := bg3.lt
 replace lg4 := bg4.lt
 clear hb
 go_upto_region 2 with (fail)
 apply wp_plain_once (m := 2) (J := [[], [0]]) (Je := [1]) (Rs := [Is _, fun v V => ∃ A c, v = .tuple #[.slice A bq.length c, .int .i64 0] ∧ Buf V w3.heap.size A bq.length c bq])
 ·
  kernel_rfl
 ·
  kernel_rfl
 ·
  intro u
  simp only [List.take_succ_cons, List.take_zero, List.map_cons, List.map_nil, fillU, List.setIfInBounds_toArray, List.set_cons_zero, List.set_cons_succ, Nat.reduceAdd]
  exact rfl
 ·
  simp only [List.take_succ_cons, List.take_zero]
  refine ⟨fun u W hb hd K hK => ?_, ?_⟩
  ·
   clear hd
   rw [if_pos (by rfl)]
   refine wp_load_mid 22 (.tmp 4) rfl g4 0 rfl (B.map B8) _ (rangeAt_of_blk (bg4.below hb lg4)) Tryd.underlying22 rfl (info40.trans (by rw [List.length_map, (hB).out])) ?_
   exact hK _ _ _ rfl (Below.refl _ _) IsOut
  refine ⟨fun u W hb hd K hK => ?_, ?_⟩
  ·
   simp only [Facts, nthR, Is, and_true] at hd
   simp only [hd] at hK ⊢
   clear hd
   go_simp
   refine (curvePublic_1 B bq vB _ (hT.up hb0 hb) (hB) hvB hSB hbq).mono ?_
   rintro e wy ⟨A, c, rfl, hF, hby⟩
   exact hK _ _ _ rfl hby ⟨A, c, rfl, hF.base hb.size⟩
  exact trivial
 ·
  exact (.is (.cons (fun v V V' ⟨A, c, h1, h2⟩ hb => ⟨A, c, h1, h2.below hb⟩) .nil))
 intro u w4 hb hd
 simp only [List.drop_succ_cons, List.drop_zero]
 simp only [Facts, nthR, and_true] at hd
 obtain ⟨Aq, cq, h1, fq⟩ := hd
 simp only [h1]
 clear h1
 replace bg3 := bg3.below hb lg3
 replace bg4 := bg4.below hb lg4
 replace hb0 := hb0.trans (hb.mono hb0.size)
 replace lg3 := bg3.lt
 replace lg4 := bg4.lt
 clear hb
 refine wpList_plain rfl (fun K hK => ?_)
 go_simp
 refine hK _ _ ?_
 clear hK K
 try simp only [Act.put, List.setIfInBounds_toArray, List.set_cons_zero, List.set_cons_succ]
 refine wpList_plain rfl (fun K hK => ?_)
 go_simp
 refine hK _ _ ?_
 clear hK K
 try simp only [Act.put, List.setIfInBounds_toArray, List.set_cons_zero, List.set_cons_succ]
 refine wpList_plain rfl (fun K hK => ?_)
 go_simp
 refine hK _ _ ?_
 clear hK K
 try simp only [Act.put, List.setIfInBounds_toArray, List.set_cons_zero, List.set_cons_succ]
 go_upto_region 3 with (fail)
 apply wp_plain_once (m := 2) (J := [[], [0]]) (Je := [1]) (Rs := [Is _, Is _])
 ·
  kernel_rfl
 ·
  kernel_rfl
 ·
  intro u
  simp only [List.take_succ_cons, List.take_zero, List.map_cons, List.map_nil, fillU, List.setIfInBounds_toArray, List.set_cons_zero, List.set_cons_succ, Nat.reduceAdd]
  exact rfl
 ·
  simp only [List.take_succ_cons, List.take_zero]
  refine ⟨fun u W hb hd K hK => ?_, ?_⟩
  ·
   clear hd
   rw [if_pos (by rfl)]
   refine wp_load_mid 22 (.tmp 3) rfl g3 0 rfl (A.map B8) _ (rangeAt_of_blk (bg3.below hb lg3)) Tryd.underlying22 rfl (info40.trans (by rw [List.length_map, (hA).out])) ?_
   exact hK _ _ _ rfl (Below.refl _ _) IsOut
  refine ⟨fun u W hb hd K hK => ?_, ?_⟩
  ·
   simp only [Facts, nthR, Is, and_true] at hd
   simp only [hd] at hK ⊢
   clear hd
   go_simp
   refine (Func1E (hA) hSA _).mono ?_
   rintro e wy ⟨rfl, hby⟩
   exact hK _ _ _ rfl hby IsOut
  exact trivial
 ·
  exact (.is (.is .nil))
 intro u w5 hb hd
 simp only [List.drop_succ_cons, List.drop_zero]
 simp only [Facts, nthR, Is, and_true] at hd
 have h1 := hd
 clear hd
 simp only [h1]
 clear h1
 replace bg3 := bg3.below hb lg3
 replace bg4 := bg4.below hb lg4
 replace hb0 := hb0.trans (hb.mono hb0.size)
 replace lg3 := bg3.lt
 replace lg4 := bg4.lt
 replace fq := fq.below hb
 clear hb
 go_upto_region 4 with (fail)
 apply wp_plain_once (m := 2) (J := [[], [0]]) (Je := [1]) (Rs := [Is _, Is _])
 ·
  kernel_rfl
 ·
  kernel_rfl
 ·
  intro u
  simp only [List.take_succ_cons, List.take_zero, List.map_cons, List.map_nil, fillU, List.setIfInBounds_toArray, List.set_cons_zero, List.set_cons_succ, Nat.reduceAdd]
  exact rfl
 ·
  simp only [List.take_succ_cons, List.take_zero]
  refine ⟨fun u W hb hd K hK => ?_, ?_⟩
  ·
   clear hd
   rw [if_pos (by rfl)]
   refine wp_load_mid 22 (.tmp 4) rfl g4 0 rfl (B.map B8) _ (rangeAt_of_blk (bg4.below hb lg4)) Tryd.underlying22 rfl (info40.trans (by rw [List.length_map, (hB).out])) ?_
   exact hK _ _ _ rfl (Below.refl _ _) IsOut
  refine ⟨fun u W hb hd K hK => ?_, ?_⟩
  ·
   simp only [Facts, nthR, Is, and_true] at hd
   simp only [hd] at hK ⊢
   clear hd
   go_simp
   refine (Func1E (hB) hSB _).mono ?_
   rintro e wy ⟨rfl, hby⟩
   exact hK _ _ _ rfl hby IsOut
  exact trivial
 ·
  exact (.is (.is .nil))
 intro u w6 hb hd
 simp only [List.drop_succ_cons, List.drop_zero]
 simp only [Facts, nthR, Is, and_true] at hd
 have h1 := hd
 clear hd
 simp only [h1]
 clear h1
 replace bg3 := bg3.below hb lg3
 replace bg4 := bg4.below hb lg4
 replace hb0 := hb0.trans (hb.mono hb0.size)
 replace lg3 := bg3.lt
 replace lg4 := bg4.lt
 replace fq := fq.below hb
 clear hb
 go_upto_region 5 with (fail)
 apply wp_plain_once (m := 6) (J := [[], [], [0, 1], [2], [3], [3]]) (Je := [4, 5]) (Rs := [Is _, Is _, Is _, Is _, Is _, Is _])
 ·
  kernel_rfl
 ·
  kernel_rfl
 ·
  intro u
  simp only [List.take_succ_cons, List.take_zero, List.map_cons, List.map_nil, fillU, List.setIfInBounds_toArray, List.set_cons_zero, List.set_cons_succ, Nat.reduceAdd]
  exact rfl
 ·
  simp only [List.take_succ_cons, List.take_zero]
  refine ⟨fun u W hb hd K hK => ?_, ?_⟩
  ·
   clear hd
   rw [if_pos (by rfl)]
   refine wp_load_mid 22 (.tmp 3) rfl g3 0 rfl (A.map B8) _ (rangeAt_of_blk (bg3.below hb lg3)) Tryd.underlying22 rfl (info40.trans (by rw [List.length_map, (hA).out])) ?_
   exact hK _ _ _ rfl (Below.refl _ _) IsOut
  refine ⟨fun u W hb hd K hK => ?_, ?_⟩
  ·
   clear hd
   go_simp
   apply hK
   ·
    simp only [Act.put, List.setIfInBounds_toArray, List.set_cons_zero, List.set_cons_succ]
    exact rfl
   ·
    exact Below.refl _ _
   ·
    exact IsOut
  refine ⟨fun u W hb hd K hK => ?_, ?_⟩
  ·
   simp only [Facts, nthR, Is, and_true] at hd
   simp only [hd] at hK ⊢
   clear hd
   go_simp
   refine (curveShared_0 A Aq bq.length cq bq _ (hT.up hb0 hb) (hA) rfl ((fq.below hb).toIn (Nat.le_refl _)) hSA).mono ?_
   rintro e wy ⟨rfl, hby⟩
   exact hK _ _ _ rfl hby IsOut
  refine ⟨fun u W hb hd K hK => ?_, ?_⟩
  ·
   simp only [Facts, nthR, Is, and_true] at hd
   simp only [hd] at hK ⊢
   clear hd
   go_simp
   apply hK
   ·
    simp only [Act.put, List.setIfInBounds_toArray, List.set_cons_zero, List.set_cons_succ]
    exact rfl
   ·
    exact Below.refl _ _
   ·
    exact IsOut
  refine ⟨fun u W hb hd K hK => ?_, ?_⟩
  ·
   simp only [Facts, nthR, Is, and_true] at hd
   simp only [hd] at hK ⊢
   clear hd
   go_simp
   apply hK
   ·
    simp only [Act.put, List.setIfInBounds_toArray, List.set_cons_zero, List.set_cons_succ]
    exact rfl
   ·
    exact Below.refl _ _
   ·
    exact IsOut
  refine ⟨fun u W hb hd K hK => ?_, ?_⟩
  ·
   simp only [Facts, nthR, Is, and_true] at hd
   simp only [hd] at hK ⊢
   clear hd
   go_simp
   apply hK
   ·
    simp only [Act.put, List.setIfInBounds_toArray, List.set_cons_zero, List.set_cons_succ]
    exact rfl
   ·
    exact Below.refl _ _
   ·
    exact IsOut
  exact trivial
 ·
  exact (.is (.is (.is (.is (.is (.is .nil))))))
 intro u w7 hb hd
 simp only [List.drop_succ_cons, List.drop_zero]
 simp only [Facts, nthR, Is, and_true] at hd
 obtain ⟨h4, h5⟩ := hd
 simp only [h4, h5]
 clear h4 h5
 replace bg3 := bg3.below hb lg3
 replace bg4 := bg4.below hb lg4
 replace hb0 := hb0.trans (hb.mono hb0.size)
 replace lg3 := bg3.lt
 replace lg4 := bg4.lt
 replace fq := fq.below hb
 clear hb
 refine wpList_new_store rfl 22 rfl rfl (zero32.map B8) zeroB32 rfl rfl rfl (zero32.map B8) (fun _ => rfl) (fun _ => rfl) (info40.trans (by rw [List.length_map, ((Lib.hid (by decide) : Hid (zero32.length = 32))).out])) (by first | with_reducible rfl | rw [List.length_map, ((Lib.hid (by decide) : Hid (zero32.length = 32))).out, List.length_map, ((Lib.hid (by decide) : Hid (zero32.length = 32))).out] | rw [List.length_map, ((Lib.hid (by decide) : Hid (zero32.length = 32))).out]) (one8 _) ?_
 intro g13 w8 hg bg13 hb
 have og13 := Lib.hid (show w.heap.size ≤ g13 ∧ g3 < g13 ∧ g4 < g13 from ⟨Nat.le_trans hb0.size (Nat.le_of_eq hg.symm), Nat.lt_of_lt_of_le lg3 (Nat.le_of_eq hg.symm), Nat.lt_of_lt_of_le lg4 (Nat.le_of_eq hg.symm)⟩)
 clear hg
 replace bg3 := bg3.below hb lg3
 replace bg4 := bg4.below hb lg4
 replace hb0 := hb0.trans (hb.mono hb0.size)
 replace lg3 := bg3.lt
 replace lg4 := bg4.lt
 replace fq := fq.below hb
 clear hb
 have lg13 := bg13.lt
 try simp only [Act.put, List.setIfInBounds_toArray, List.set_cons_zero, List.set_cons_succ]
 go_upto_region 6 with (fail)
 apply wp_plain_once (m := 6) (J := [[], [], [0, 1], [2], [3], [3]]) (Je := [4, 5]) (Rs := [Is _, Is _, Is _, Is _, Is _, Is _])
 ·
  kernel_rfl
 ·
  kernel_rfl
 ·
  intro u
  simp only [List.take_succ_cons, List.take_zero, List.map_cons, List.map_nil, fillU, List.setIfInBounds_toArray, List.set_cons_zero, List.set_cons_succ, Nat.reduceAdd]
  exact rfl
 ·
  simp only [List.take_succ_cons, List.take_zero]
  refine ⟨fun u W hb hd K hK => ?_, ?_⟩
  ·
   clear hd
   rw [if_pos (by rfl)]
   refine wp_load_mid 22 (.tmp 4) rfl g4 0 rfl (B.map B8) _ (rangeAt_of_blk (bg4.below hb lg4)) Tryd.underlying22 rfl (info40.trans (by rw [List.length_map, (hB).out])) ?_
   exact hK _ _ _ rfl (Below.refl _ _) IsOut
  refine ⟨fun u W hb hd K hK => ?_, ?_⟩
  ·
   clear hd
   go_simp
   apply hK
   ·
    simp only [Act.put, List.setIfInBounds_toArray, List.set_cons_zero, List.set_cons_succ]
    exact rfl
   ·
    exact Below.refl _ _
   ·
    exact IsOut
  refine ⟨fun u W hb hd K hK => ?_, ?_⟩
  ·
   simp only [Facts, nthR, Is, and_true] at hd
   simp only [hd] at hK ⊢
   clear hd
   go_simp
   refine (curveShared_1 B none 0 0 [] _ (hT.up hb0 hb) (hB) rfl (in_nil _ 0 (by decide) none) _ _ (Lib.hid zero32_length) (Lib.hid zero32_length) hSB hXN hYN hEN).mono ?_
   rintro e wy ⟨rfl, hby⟩
   exact hK _ _ _ rfl hby IsOut
  refine ⟨fun u W hb hd K hK => ?_, ?_⟩
  ·
   simp only [Facts, nthR, Is, and_true] at hd
   simp only [hd] at hK ⊢
   clear hd
   go_simp
   apply hK
   ·
    simp only [Act.put, List.setIfInBounds_toArray, List.set_cons_zero, List.set_cons_succ]
    exact rfl
   ·
    exact Below.refl _ _
   ·
    exact IsOut
  refine ⟨fun u W hb hd K hK => ?_, ?_⟩
  ·
   simp only [Facts, nthR, Is, and_true] at hd
   simp only [hd] at hK ⊢
   clear hd
   go_simp
   apply hK
   ·
    simp only [Act.put, List.setIfInBounds_toArray, List.set_cons_zero, List.set_cons_succ]
    exact rfl
   ·
    exact Below.refl _ _
   ·
    exact IsOut
  refine ⟨fun u W hb hd K hK => ?_, ?_⟩
  ·
   simp only [Facts, nthR, Is, and_true] at hd
   simp only [hd] at hK ⊢
   clear hd
   go_simp
   apply hK
   ·
    simp only [Act.put, List.setIfInBounds_toArray, List.set_cons_zero, List.set_cons_succ]
    exact rfl
   ·
    exact Below.refl _ _
   ·
    exact IsOut
  exact trivial
 ·
  exact (.is (.is (.is (.is (.is (.is .nil))))))
 intro u w9 hb hd
 simp only [List.drop_succ_cons, List.drop_zero]
 simp only [Facts, nthR, Is, and_true] at hd
 obtain ⟨h4, h5⟩ := hd
 simp only [h4, h5]
 clear h4 h5
 replace bg3 := bg3.below hb lg3
 replace bg4 := bg4.below hb lg4
 replace bg13 := bg13.below hb lg13
 replace hb0 := hb0.trans (hb.mono hb0.size)
 replace lg3 := bg3.lt
 replace lg4 := bg4.lt
 replace lg13 := bg13.lt
 replace fq := fq.below hb
 clear hb
 refine wpList_new_store rfl 22 rfl rfl (zero32.map B8) zeroB32 rfl rfl rfl (zero32.map B8) (fun _ => rfl) (fun _ => rfl) (info40.trans (by rw [List.length_map, ((Lib.hid (by decide) : Hid (zero32.length = 32))).out])) (by first | with_reducible rfl | rw [List.length_map, ((Lib.hid (by decide) : Hid (zero32.length = 32))).out, List.length_map, ((Lib.hid (by decide) : Hid (zero32.length = 32))).out] | rw [List.length_map, ((Lib.hid (by decide) : Hid (zero32.length = 32))).out]) (one8 _) ?_
 intro g15 w10 hg bg15 hb
 have og15 := Lib.hid (show w.heap.size ≤ g15 ∧ g3 < g15 ∧ g4 < g15 ∧ g13 < g15 from ⟨Nat.le_trans hb0.size (Nat.le_of_eq hg.symm), Nat.lt_of_lt_of_le lg3 (Nat.le_of_eq hg.symm), Nat.lt_of_lt_of_le lg4 (Nat.le_of_eq hg.symm), Nat.lt_of_lt_of_le lg13 (Nat.le_of_eq hg.symm)⟩)
 clear hg
 replace bg3 := bg3.below hb lg3
 replace bg4 := bg4.below hb lg4
 replace bg13 := bg13.below hb lg13
 replace hb0 := hb0.trans (hb.mono hb0.size)
 replace lg3 := bg3.lt
 replace lg4 := bg4.lt
 replace lg13 := bg13.lt
 replace fq := fq.below hb
 clear hb
 have lg15 := bg15.lt
 try simp only [Act.put, List.setIfInBounds_toArray, List.set_cons_zero, List.set_cons_succ]
 go_upto_region 7 with (fail)
 apply wp_plain_once (m := 22) (J := [[], [0], [1], [2], [2, 3], [2], [2, 4, 5], [2, 6], [7], [8], [8, 9], [8], [8, 10, 11], [8, 12], [13], [14], [14, 15], [14, 16], [17], [17, 18], [14, 17, 19], [14, 20]]) (Je := [21]) (Rs := [Is _, Is _, Is _, Is _, Is _, Is _, Is _, Is _, Is _, Is _, Is _, Is _, Is _, Is _, Is _, Is _, Is _, Is _, Is _, Is _, Is _, Is _])
 ·
  kernel_rfl
 ·
  kernel_rfl
 ·
  intro u
  simp only [List.take_succ_cons, List.take_zero, List.map_cons, List.map_nil, fillU, List.setIfInBounds_toArray, List.set_cons_zero, List.set_cons_succ, Nat.reduceAdd]
  exact rfl
 ·
  simp only [List.take_succ_cons, List.take_zero]
  refine ⟨fun u W hb hd K hK => ?_, ?_⟩
  ·
   clear hd
   go_simp
   refine (CurvesE (hT.up hb0 hb)).mono ?_
   rintro e wy ⟨rfl, hby⟩
   exact hK _ _ _ rfl hby IsOut
  refine ⟨fun u W hb hd K hK => ?_, ?_⟩
  ·
   simp only [Facts, nthR, Is, and_true] at hd
   simp only [hd] at hK ⊢
   clear hd
   go_simp
   apply hK
   ·
    simp only [Act.put, List.setIfInBounds_toArray, List.set_cons_zero, List.set_cons_succ]
    exact rfl
   ·
    exact Below.refl _ _
   ·
    exact IsOut
  refine ⟨fun u W hb hd K hK => ?_, ?_⟩
  ·
   simp only [Facts, nthR, Is, and_true] at hd
   simp only [hd] at hK ⊢
   clear hd
   go_simp
   apply hK
   ·
    simp only [Act.put, List.setIfInBounds_toArray, List.set_cons_zero, List.set_cons_succ]
    exact rfl
   ·
    exact Below.refl _ _
   ·
    exact IsOut
  refine ⟨fun u W hb hd K hK => ?_, ?_⟩
  ·
   simp only [Facts, nthR, Is, and_true] at hd
   simp only [hd] at hK ⊢
   clear hd
   go_simp
   apply hK
   ·
    simp only [Act.put, List.setIfInBounds_toArray, List.set_cons_zero, List.set_cons_succ]
    exact rfl
   ·
    exact Below.refl _ _
   ·
    exact IsOut
  refine ⟨fun u W hb hd K hK => ?_, ?_⟩
  ·
   simp only [Facts, nthR, Is, and_true] at hd
   simp only [hd] at hK ⊢
   clear hd
   go_simp
   apply hK
   ·
    simp only [Act.put, List.setIfInBounds_toArray, List.set_cons_zero, List.set_cons_succ]
    exact rfl
   ·
    exact Below.refl _ _
   ·
    exact IsOut
  refine ⟨fun u W hb hd K hK => ?_, ?_⟩
  ·
   simp only [Facts, nthR, Is, and_true] at hd
   simp only [hd] at hK ⊢
   clear hd
   go_simp
   apply hK
   ·
    simp only [Act.put, List.setIfInBounds_toArray, List.set_cons_zero, List.set_cons_succ]
    exact rfl
   ·
    exact Below.refl _ _
   ·
    exact IsOut
  refine ⟨fun u W hb hd K hK => ?_, ?_⟩
  ·
   simp only [Facts, nthR, Is, and_true] at hd
   simp only [hd] at hK ⊢
   clear hd
   go_simp
   apply hK
   ·
    simp only [Act.put, List.setIfInBounds_toArray, List.set_cons_zero, List.set_cons_succ]
    exact rfl
   ·
    exact Below.refl _ _
   ·
    exact IsOut
  refine ⟨fun u W hb hd K hK => ?_, ?_⟩
  ·
   simp only [Facts, nthR, Is, and_true] at hd
   simp only [hd] at hK ⊢
   clear hd
   go_simp
   apply hK
   ·
    simp only [Act.put, List.setIfInBounds_toArray, List.set_cons_zero, List.set_cons_succ]
    exact rfl
   ·
    exact Below.refl _ _
   ·
    exact IsOut
  refine ⟨fun u W hb hd K hK => ?_, ?_⟩
  ·
   simp only [Facts, nthR, Is, and_true] at hd
   simp only [hd] at hK ⊢
   clear hd
   go_simp
   apply hK
   ·
    simp only [Act.put, List.setIfInBounds_toArray, List.set_cons_zero, List.set_cons_succ]
    exact rfl
   ·
    exact Below.refl _ _
   ·
    exact IsOut
  refine ⟨fun u W hb hd K hK => ?_, ?_⟩
  ·
   simp only [Facts, nthR, Is, and_true] at hd
   simp only [hd] at hK ⊢
   clear hd
   go_simp
   apply hK
   ·
    simp only [Act.put, List.setIfInBounds_toArray, List.set_cons_zero, List.set_cons_succ]
    exact rfl
   ·
    exact Below.refl _ _
   ·
    exact IsOut
  refine ⟨fun u W hb hd K hK => ?_, ?_⟩
  ·
   simp only [Facts, nthR, Is, and_true] at hd
   simp only [hd] at hK ⊢
   clear hd
   go_simp
   apply hK
   ·
    simp only [Act.put, List.setIfInBounds_toArray, List.set_cons_zero, List.set_cons_succ]
    exact rfl
   ·
    exact Below.refl _ _
   ·
    exact IsOut
  refine ⟨fun u W hb hd K hK => ?_, ?_⟩
  ·
   simp only [Facts, nthR, Is, and_true] at hd
   simp only [hd] at hK ⊢
   clear hd
   go_simp
   apply hK
   ·
    simp only [Act.put, List.setIfInBounds_toArray, List.set_cons_zero, List.set_cons_succ]
    exact rfl
   ·
    exact Below.refl _ _
   ·
    exact IsOut
  refine ⟨fun u W hb hd K hK => ?_, ?_⟩
  ·
   simp only [Facts, nthR, Is, and_true] at hd
   simp only [hd] at hK ⊢
   clear hd
   go_simp
   apply hK
   ·
    simp only [Act.put, List.setIfInBounds_toArray, List.set_cons_zero, List.set_cons_succ]
    exact rfl
   ·
    exact Below.refl _ _
   ·
    exact IsOut
  refine ⟨fun u W hb hd K hK => ?_, ?_⟩
  ·
   simp only [Facts, nthR, Is, and_true] at hd
   simp only [hd] at hK ⊢
   clear hd
   go_simp
   apply hK
   ·
    simp only [Act.put, List.setIfInBounds_toArray, List.set_cons_zero, List.set_cons_succ]
    exact rfl
   ·
    exact Below.refl _ _
   ·
    exact IsOut
  refine ⟨fun u W hb hd K hK => ?_, ?_⟩
  ·
   simp only [Facts, nthR, Is, and_true] at hd
   simp only [hd] at hK ⊢
   clear hd
   go_simp
   apply hK
   ·
    simp only [Act.put, List.setIfInBounds_toArray, List.set_cons_zero, List.set_cons_succ]
    exact rfl
   ·
    exact Below.refl _ _
   ·
    exact IsOut
  refine ⟨fun u W hb hd K hK => ?_, ?_⟩
  ·
   simp only [Facts, nthR, Is, and_true] at hd
   simp only [hd] at hK ⊢
   clear hd
   go_simp
   apply hK
   ·
    simp only [Act.put, List.setIfInBounds_toArray, List.set_cons_zero, List.set_cons_succ]
    exact rfl
   ·
    exact Below.refl _ _
   ·
    exact IsOut
  refine ⟨fun u W hb hd K hK => ?_, ?_⟩
  ·
   simp only [Facts, nthR, Is, and_true] at hd
   simp only [hd] at hK ⊢
   clear hd
   go_simp
   apply hK
   ·
    simp only [Act.put, List.setIfInBounds_toArray, List.set_cons_zero, List.set_cons_succ]
    exact rfl
   ·
    exact Below.refl _ _
   ·
    exact IsOut
  refine ⟨fun u W hb hd K hK => ?_, ?_⟩
  ·
   simp only [Facts, nthR, Is, and_true] at hd
   simp only [hd] at hK ⊢
   clear hd
   go_simp
   apply hK
   ·
    simp only [Act.put, List.setIfInBounds_toArray, List.set_cons_zero, List.set_cons_succ]
    exact rfl
   ·
    exact Below.refl _ _
   ·
    exact IsOut
  refine ⟨fun u W hb hd K hK => ?_, ?_⟩
  ·
   simp only [Facts, nthR, Is, and_true] at hd
   simp only [hd] at hK ⊢
   clear hd
   go_simp
   apply hK
   ·
    simp only [Act.put, List.setIfInBounds_toArray, List.set_cons_zero, List.set_cons_succ]
    exact rfl
   ·
    exact Below.refl _ _
   ·
    exact IsOut
  refine ⟨fun u W hb hd K hK => ?_, ?_⟩
  ·
   simp only [Facts, nthR, Is, and_true] at hd
   simp only [hd] at hK ⊢
   clear hd
   go_simp
   apply hK
   ·
    simp only [Act.put, List.setIfInBounds_toArray, List.set_cons_zero, List.set_cons_succ]
    exact rfl
   ·
    exact Below.refl _ _
   ·
    exact IsOut
  refine ⟨fun u W hb hd K hK => ?_, ?_⟩
  ·
   simp only [Facts, nthR, Is, and_true] at hd
   simp only [hd] at hK ⊢
   clear hd
   go_simp
   apply hK
   ·
    simp only [Act.put, List.setIfInBounds_toArray, List.set_cons_zero, List.set_cons_succ]
    exact rfl
   ·
    exact Below.refl _ _
   ·
    exact IsOut
  refine ⟨fun u W hb hd K hK => ?_, ?_⟩
  ·
   simp only [Facts, nthR, Is, and_true] at hd
   simp only [hd] at hK ⊢
   clear hd
   go_simp
   apply hK
   ·
    simp only [Act.put, List.setIfInBounds_toArray, List.set_cons_zero, List.set_cons_succ]
    exact rfl
   ·
    exact Below.refl _ _
   ·
    exact IsOut
  exact trivial
 ·
  exact (.is (.is (.is (.is (.is (.is (.is (.is (.is (.is (.is (.is (.is (.is (.is (.is (.is (.is (.is (.is (.is (.is .nil))))))))))))))))))))))
 intro u w11 hb hd
 simp only [List.drop_succ_cons, List.drop_zero]
 simp only [Facts, nthR, Is, and_true] at hd
 have h21 := hd
 clear hd
 simp only [h21]
 clear h21
 replace bg3 := bg3.below hb lg3
 replace bg4 := bg4.below hb lg4
 replace bg13 := bg13.below hb lg13
 replace bg15 := bg15.below hb lg15
 replace hb0 := hb0.trans (hb.mono hb0.size)
 replace lg3 := bg3.lt
 replace lg4 := bg4.lt
 replace lg13 := bg13.lt
 replace lg15 := bg15.lt
 replace fq := fq.below hb
 clear hb
 go_upto_region 9 with (fail)
 apply wp_plain_once (m := 2) (J := [[], [0]]) (Je := [1]) (Rs := [Is _, Is _])
 ·
  kernel_rfl
 ·
  kernel_rfl
 ·
  intro u
  simp only [List.take_succ_cons, List.take_zero, List.map_cons, List.map_nil, fillU, List.setIfInBounds_toArray, List.set_cons_zero, List.set_cons_succ, Nat.reduceAdd]
  exact rfl
 ·
  simp only [List.take_succ_cons, List.take_zero]
  refine ⟨fun u W hb hd K hK => ?_, ?_⟩
  ·
   clear hd
   go_simp
   apply hK
   ·
    simp only [Act.put, List.setIfInBounds_toArray, List.set_cons_zero, List.set_cons_succ]
    exact rfl
   ·
    exact Below.refl _ _
   ·
    exact IsOut
  refine ⟨fun u W hb hd K hK => ?_, ?_⟩
  ·
   simp only [Facts, nthR, Is, and_true] at hd
   simp only [hd] at hK ⊢
   clear hd
   go_simp
   apply hK
   ·
    simp only [Act.put, List.setIfInBounds_toArray, List.set_cons_zero, List.set_cons_succ]
    exact rfl
   ·
    exact Below.refl _ _
   ·
    exact IsOut
  exact trivial
 ·
  exact (.is (.is .nil))
 intro u w12 hb hd
 simp only [List.drop_succ_cons, List.drop_zero]
 simp only [Facts, nthR, Is, and_true] at hd
 have h1 := hd
 clear hd
 simp only [h1]
 clear h1
 replace bg3 := bg3.below hb lg3
 replace bg4 := bg4.below hb lg4
 replace bg13 := bg13.below hb lg13
 replace bg15 := bg15.below hb lg15
 replace hb0 := hb0.trans (hb.mono hb0.size)
 replace lg3 := bg3.lt
 replace lg4 := bg4.lt
 replace lg13 := bg13.lt
 replace lg15 := bg15.lt
 replace fq := fq.below hb
 clear hb
 go_upto_region 10 with (fail)
 apply wp_plain_once (m := 7) (J := [[], [0], [1], [2], [2, 3], [2, 4], [2, 5]]) (Je := [6]) (Rs := [Is _, Is _, Is _, Is _, Is _, Is _, Is _])
 ·
  kernel_rfl
 ·
  kernel_rfl
 ·
  intro u
  simp only [List.take_succ_cons, List.take_zero, List.map_cons, List.map_nil, fillU, List.setIfInBounds_toArray, List.set_cons_zero, List.set_cons_succ, Nat.reduceAdd]
  exact rfl
 ·
  simp only [List.take_succ_cons, List.take_zero]
  refine ⟨fun u W hb hd K hK => ?_, ?_⟩
  ·
   clear hd
   go_simp
   apply hK
   ·
    simp only [Act.put, List.setIfInBounds_toArray, List.set_cons_zero, List.set_cons_succ]
    exact rfl
   ·
    exact Below.refl _ _
   ·
    exact IsOut
  refine ⟨fun u W hb hd K hK => ?_, ?_⟩
  ·
   simp only [Facts, nthR, Is, and_true] at hd
   simp only [hd] at hK ⊢
   clear hd
   go_simp
   apply hK
   ·
    simp only [Act.put, List.setIfInBounds_toArray, List.set_cons_zero, List.set_cons_succ]
    exact rfl
   ·
    exact Below.refl _ _
   ·
    exact IsOut
  refine ⟨fun u W hb hd K hK => ?_, ?_⟩
  ·
   simp only [Facts, nthR, Is, and_true] at hd
   simp only [hd] at hK ⊢
   clear hd
   go_simp
   apply hK
   ·
    simp only [Act.put, List.setIfInBounds_toArray, List.set_cons_zero, List.set_cons_succ]
    exact rfl
   ·
    exact Below.refl _ _
   ·
    exact IsOut
  refine ⟨fun u W hb hd K hK => ?_, ?_⟩
  ·
   simp only [Facts, nthR, Is, and_true] at hd
   simp only [hd] at hK ⊢
   clear hd
   go_simp
   apply hK
   ·
    simp only [Act.put, List.setIfInBounds_toArray, List.set_cons_zero, List.set_cons_succ]
    exact rfl
   ·
    exact Below.refl _ _
   ·
    exact IsOut
  refine ⟨fun u W hb hd K hK => ?_, ?_⟩
  ·
   simp only [Facts, nthR, Is, and_true] at hd
   simp only [hd] at hK ⊢
   clear hd
   go_simp
   apply hK
   ·
    simp only [Act.put, List.setIfInBounds_toArray, List.set_cons_zero, List.set_cons_succ]
    exact rfl
   ·
    exact Below.refl _ _
   ·
    exact IsOut
  refine ⟨fun u W hb hd K hK => ?_, ?_⟩
  ·
   simp only [Facts, nthR, Is, and_true] at hd
   simp only [hd] at hK ⊢
   clear hd
   go_simp
   apply hK
   ·
    simp only [Act.put, List.setIfInBounds_toArray, List.set_cons_zero, List.set_cons_succ]
    exact rfl
   ·
    exact Below.refl _ _
   ·
    exact IsOut
  refine ⟨fun u W hb hd K hK => ?_, ?_⟩
  ·
   simp only [Facts, nthR, Is, and_true] at hd
   simp only [hd] at hK ⊢
   clear hd
   go_simp
   apply hK
   ·
    simp only [Act.put, List.setIfInBounds_toArray, List.set_cons_zero, List.set_cons_succ]
    exact rfl
   ·
    exact Below.refl _ _
   ·
    exact IsOut
  exact trivial
 ·
  exact (.is (.is (.is (.is (.is (.is (.is .nil)))))))
 intro u w13 hb hd
 simp only [List.drop_succ_cons, List.drop_zero]
 simp only [Facts, nthR, Is, and_true] at hd
 have h6 := hd
 clear hd
 simp only [h6]
 clear h6
 replace bg3 := bg3.below hb lg3
 replace bg4 := bg4.below hb lg4
 replace bg13 := bg13.below hb lg13
 replace bg15 := bg15.below hb lg15
 replace hb0 := hb0.trans (hb.mono hb0.size)
 replace lg3 := bg3.lt
 replace lg4 := bg4.lt
 replace lg13 := bg13.lt
 replace lg15 := bg15.lt
 replace fq := fq.below hb
 clear hb
 go_wp2_with (fail)
 refine bodyPost_ret (results_tmp Tryd.results8 _ _ _) rfl ?_
 exact ⟨rfl, hb0⟩
set_option maxRecDepth 100000 in
set_option maxHeartbeats 4000000 in
theorem curveShares_100 (A B : List UInt8) (A3 : Option Addr) (n3 c3 : Nat) (xs : List UInt8) (w : World) (hT : TabsC w) (hA : Hid (A.length = 32)) (hB : Hid (B.length = 32)) (hN : xs.length = n3) (hI : In w w.heap.size A3 c3 xs) (hSA : Hid (secretB A = true)) (hSB : Hid (secretB B = false)) (hok : Hid (okR xs = false)) : Calls Tryd.prog 8 #[.agg (A.map B8).toArray, .agg (B.map B8).toArray, .slice A3 n3 c3] w fun e w' => e = .returned (.bool true) ∧ Below w.heap.size w w' := by
 go_enter Tryd.func8, Tryd.ntmps8
 have hb0 : Below w.heap.size w w := Below.refl _ _
 obtain ⟨vA, hvA⟩ : ∃ s, Hid ((ofTo A 32).val = s) := ⟨_, Lib.hid rfl⟩
 obtain ⟨bp, hbp⟩ : ∃ s, Hid (s = wrB (xB (mulG vA)) (yB (mulG vA))) := ⟨_, Lib.hid rfl⟩
 obtain ⟨Pp, hPp⟩ : ∃ s : Pt, Hid (s = mulG vA) := ⟨_, Lib.hid rfl⟩
 obtain ⟨hXp, hYp, hEp, hSpp⟩ := pub_row hSA hvA hPp hbp
 replace hXp := Lib.hid hXp
 replace hYp := Lib.hid hYp
 replace hEp := Lib.hid hEp
 replace hSpp := Lib.hid hSpp
 obtain ⟨vB, hvB⟩ : ∃ s, Hid ((ofTo B 32).val = s) := ⟨_, Lib.hid rfl⟩
 obtain ⟨hXN, hYN, hEN⟩ := rd_nil
 replace hXN := Lib.hid hXN
 replace hYN := Lib.hid hYN
 replace hEN := Lib.hid hEN
 obtain ⟨X, hXj⟩ : ∃ s, Hid (rdX xs = s) := ⟨_, Lib.hid rfl⟩
 obtain ⟨Y, hYj⟩ : ∃ s, Hid (rdY xs = s) := ⟨_, Lib.hid rfl⟩
 have hXl : Hid (X.length = 32) := Lib.hid (by rw [← hXj.out]; exact rdX_length _)
 have hYl : Hid (Y.length = 32) := Lib.hid (by rw [← hYj.out]; exact rdY_length _)
 obtain ⟨hXJ, hYJ, hEJ⟩ := rd_not hok.out
 have hEj := Lib.hid hEJ
 replace hXJ := Lib.hid hXJ
 replace hYJ := Lib.hid hYJ
 replace hEJ := Lib.hid hEJ
 go_upto_region 0 with (fail)
 refine wp_region_lit ?_
 refine wpList_box_blk rfl 22 (.tmp 0) rfl (A.map B8) rfl ?_
 intro g3 w1 hg bg3 hb
 have og3 := Lib.hid (show w.heap.size ≤ g3 from Nat.le_trans hb0.size (Nat.le_of_eq hg.symm))
 clear hg
 replace hb0 := hb0.trans (hb.mono hb0.size)
 clear hb
 have lg3 := bg3.lt
 try simp only [Act.put, List.setIfInBounds_toArray, List.set_cons_zero, List.set_cons_succ]
 refine wpList_box_blk rfl 22 (.tmp 1) rfl (B.map B8) rfl ?_
 intro g4 w2 hg bg4 hb
 have og4 := Lib.hid (show w.heap.size ≤ g4 ∧ g3 < g4 from ⟨Nat.le_trans hb0.size (Nat.le_of_eq hg.symm), Nat.lt_of_lt_of_le lg3 (Nat.le_of_eq hg.symm)⟩)
 clear hg
 replace bg3 := bg3.below hb lg3
 replace hb0 := hb0.trans (hb.mono hb0.size)
 replace lg3 := bg3.lt
 clear hb
 have lg4 := bg4.lt
 try simp only [Act.put, List.setIfInBounds_toArray, List.set_cons_zero, List.set_cons_succ]
 go_upto_region 1 with (fail)
 apply wp_plain_once (m := 2) (J := [[], [0]]) (Je := [1]) (Rs := [Is _, fun v V => ∃ A c, v = .tuple #[.slice A bp.length c, .int .i64 0] ∧ Buf V w2.heap.size A bp.length c bp])
 ·
  kernel_rfl
 ·
  kernel_rfl
 ·
  intro u
  simp only [List.take_succ_cons, List.take_zero, List.map_cons, List.map_nil, fillU, List.setIfInBounds_toArray, List.set_cons_zero, List.set_cons_succ, Nat.reduceAdd]
  exact rfl
 ·
  simp only [List.take_succ_cons, List.take_zero]
  refine ⟨fun u W hb hd K hK => ?_, ?_⟩
  ·
   clear hd
   rw [if_pos (by rfl)]
   refine wp_load_mid 22 (.tmp 3) rfl g3 0 rfl (A.map B8) _ (rangeAt_of_blk (bg3.below hb lg3)) Tryd.underlying22 rfl (info40.trans (by rw [List.length_map, (hA).out])) ?_
   exact hK _ _ _ rfl (Below.refl _ _) IsOut
  refine ⟨fun u W hb hd K hK => ?_, ?_⟩
  ·
   simp only [Facts, nthR, Is, and_true] at hd
   simp only [hd] at hK ⊢
   clear hd
   go_simp
   refine (curvePublic_1 A bp vA _ (hT.up hb0 hb) (hA) hvA hSA hbp).mono ?_
   rintro e wy ⟨A, c, rfl, hF, hby⟩
   exact hK _ _ _ rfl hby ⟨A, c, rfl, hF.base hb.size⟩
  exact trivial
 ·
  exact (.is (.cons (fun v V V' ⟨A, c, h1, h2⟩ hb => ⟨A, c, h1, h2.below hb⟩) .nil))
 intro u w3 hb hd
 simp only [List.drop_succ_cons, List.drop_zero]
 simp only [Facts, nthR, and_true] at hd
 obtain ⟨Ap, cp, h1, fp⟩ := hd
 simp only [h1]
 clear h1
 replace bg3 := bg3.below hb lg3
 replace bg4 := bg4.below hb lg4
 replace hb0 := hb0.trans (hb.mono hb0.size)
 replace lg3 := bg3.lt
 replace lg4 := bg4.lt
 clear hb
 refine wpList_plain rfl (fun K hK => ?_)
 go_simp
 refine hK _ _ ?_
 clear hK K
 try simp only [Act.put, List.setIfInBounds_toArray, List.set_cons_zero, List.set_cons_succ]
 refine wpList_plain rfl (fun K hK => ?_)
 go_simp
 refine hK _ _ ?_
 clear hK K
 try simp only [Act.put, List.setIfInBounds_toArray, List.set_cons_zero, List.set_cons_succ]
 refine wpList_plain rfl (fun K hK => ?_)
 go_simp
 refine hK _ _ ?_
 clear hK K
 try simp only [Act.put, List.setIfInBounds_toArray, List.set_cons_zero, List.set_cons_succ]
 go_upto_region 2 with (fail)
 apply wp_plain_once (m := 5) (J := [[], [0], [1], [2], [2]]) (Je := [3, 4]) (Rs := [Is _, Is _, Is _, Is _, Is _])
 ·
  kernel_rfl
 ·
  kernel_rfl
 ·
  intro u
  simp only [List.take_succ_cons, List.take_zero, List.map_cons, List.map_nil, fillU, List.setIfInBounds_toArray, List.set_cons_zero, List.set_cons_succ, Nat.reduceAdd]
  exact rfl
 ·
  simp only [List.take_succ_cons, List.take_zero]
  refine ⟨fun u W hb hd K hK => ?_, ?_⟩
  ·
   clear hd
   rw [if_pos (by rfl)]
   refine wp_load_mid 22 (.tmp 4) rfl g4 0 rfl (B.map B8) _ (rangeAt_of_blk (bg4.below hb lg4)) Tryd.underlying22 rfl (info40.trans (by rw [List.length_map, (hB).out])) ?_
   exact hK _ _ _ rfl (Below.refl _ _) IsOut
  refine ⟨fun u W hb hd K hK => ?_, ?_⟩
  ·
   simp only [Facts, nthR, Is, and_true] at hd
   simp only [hd] at hK ⊢
   clear hd
   go_simp
   refine (curvePublic_0 B _ (hT.up hb0 hb) (hB) hSB).mono ?_
   rintro e wy ⟨rfl, hby⟩
   exact hK _ _ _ rfl hby IsOut
  refine ⟨fun u W hb hd K hK => ?_, ?_⟩
  ·
   simp only [Facts, nthR, Is, and_true] at hd
   simp only [hd] at hK ⊢
   clear hd
   go_simp
   apply hK
   ·
    simp only [Act.put, List.setIfInBounds_toArray, List.set_cons_zero, List.set_cons_succ]
    exact rfl
   ·
    exact Below.refl _ _
   ·
    exact IsOut
  refine ⟨fun u W hb hd K hK => ?_, ?_⟩
  ·
   simp only [Facts, nthR, Is, and_true] at hd
   simp only [hd] at hK ⊢
   clear hd
   go_simp
   apply hK
   ·
    simp only [Act.put, List.setIfInBounds_toArray, List.set_cons_zero, List.set_cons_succ]
    exact rfl
   ·
    exact Below.refl _ _
   ·
    exact IsOut
  refine ⟨fun u W hb hd K hK => ?_, ?_⟩
  ·
   simp only [Facts, nthR, Is, and_true] at hd
   simp only [hd] at hK ⊢
   clear hd
   go_simp
   apply hK
   ·
    simp only [Act.put, List.setIfInBounds_toArray, List.set_cons_zero, List.set_cons_succ]
    exact rfl
   ·
    exact Below.refl _ _
   ·
    exact IsOut
  exact trivial
 ·
  exact (.is (.is (.is (.is (.is .nil)))))
 intro u w4 hb hd
 simp only [List.drop_succ_cons, List.drop_zero]
 simp only [Facts, nthR, Is, and_true] at hd
 obtain ⟨h3, h4⟩ := hd
 simp only [h3, h4]
 clear h3 h4
 replace bg3 := bg3.below hb lg3
 replace bg4 := bg4.below hb lg4
 replace hb0 := hb0.trans (hb.mono hb0.size)
 replace lg3 := bg3.lt
 replace lg4 := bg4.lt
 replace fp := fp.below hb
 clear hb
 go_upto_region 3 with (fail)
 apply wp_plain_once (m := 2) (J := [[], [0]]) (Je := [1]) (Rs := [Is _, Is _])
 ·
  kernel_rfl
 ·
  kernel_rfl
 ·
  intro u
  simp only [List.take_succ_cons, List.take_zero, List.map_cons, List.map_nil, fillU, List.setIfInBounds_toArray, List.set_cons_zero, List.set_cons_succ, Nat.reduceAdd]
  exact rfl
 ·
  simp only [List.take_succ_cons, List.take_zero]
  refine ⟨fun u W hb hd K hK => ?_, ?_⟩
  ·
   clear hd
   rw [if_pos (by rfl)]
   refine wp_load_mid 22 (.tmp 3) rfl g3 0 rfl (A.map B8) _ (rangeAt_of_blk (bg3.below hb lg3)) Tryd.underlying22 rfl (info40.trans (by rw [List.length_map, (hA).out])) ?_
   exact hK _ _ _ rfl (Below.refl _ _) IsOut
  refine ⟨fun u W hb hd K hK => ?_, ?_⟩
  ·
   simp only [Facts, nthR, Is, and_true] at hd
   simp only [hd] at hK ⊢
   clear hd
   go_simp
   refine (Func1E (hA) hSA _).mono ?_
   rintro e wy ⟨rfl, hby⟩
   exact hK _ _ _ rfl hby IsOut
  exact trivial
 ·
  exact (.is (.is .nil))
 intro u w5 hb hd
 simp only [List.drop_succ_cons, List.drop_zero]
 simp only [Facts, nthR, Is, and_true] at hd
 have h1 := hd
 clear hd
 simp only [h1]
 clear h1
 replace bg3 := bg3.below hb lg3
 replace bg4 := bg4.below hb lg4
 replace hb0 := hb0.trans (hb.mono hb0.size)
 replace lg3 := bg3.lt
 replace lg4 := bg4.lt
 replace fp := fp.below hb
 clear hb
 go_upto_region 4 with (fail)
 apply wp_plain_once (m := 2) (J := [[], [0]]) (Je := [1]) (Rs := [Is _, Is _])
 ·
  kernel_rfl
 ·
  kernel_rfl
 ·
  intro u
  simp only [List.take_succ_cons, List.take_zero, List.map_cons, List.map_nil, fillU, List.setIfInBounds_toArray, List.set_cons_zero, List.set_cons_succ, Nat.reduceAdd]
  exact rfl
 ·
  simp only [List.take_succ_cons, List.take_zero]
  refine ⟨fun u W hb hd K hK => ?_, ?_⟩
  ·
   clear hd
   rw [if_pos (by rfl)]
   refine wp_load_mid 22 (.tmp 4) rfl g4 0 rfl (B.map B8) _ (rangeAt_of_blk (bg4.below hb lg4)) Tryd.underlying22 rfl (info40.trans (by rw [List.length_map, (hB).out])) ?_
   exact hK _ _ _ rfl (Below.refl _ _) IsOut
  refine ⟨fun u W hb hd K hK => ?_, ?_⟩
  ·
   simp only [Facts, nthR, Is, and_true] at hd
   simp only [hd] at hK ⊢
   clear hd
   go_simp
   refine (Func1E (hB) hSB _).mono ?_
   rintro e wy ⟨rfl, hby⟩
   exact hK _ _ _ rfl hby IsOut
  exact trivial
 ·
  exact (.is (.is .nil))
 intro u w6 hb hd
 simp only [List.drop_succ_cons, List.drop_zero]
 simp only [Facts, nthR, Is, and_true] at hd
 have h1 := hd
 clear hd
 simp only [h1]
 clear h1
 replace bg3 := bg3.below hb lg3
 replace bg4 := bg4.below hb lg4
 replace hb0 := hb0.trans (hb.mono hb0.size)
 replace lg3 := bg3.lt
 replace lg4 := bg4.lt
 replace fp := fp.below hb
 clear hb
 go_upto_region 5 with (fail)
 apply wp_plain_once (m := 6) (J := [[], [], [0, 1], [2], [3], [3]]) (Je := [4, 5]) (Rs := [Is _, Is _, Is _, Is _, Is _, Is _])
 ·
  kernel_rfl
 ·
  kernel_rfl
 ·
  intro u
  simp only [List.take_succ_cons, List.take_zero, List.map_cons, List.map_nil, fillU, List.setIfInBounds_toArray, List.set_cons_zero, List.set_cons_succ, Nat.reduceAdd]
  exact rfl
 ·
  simp only [List.take_succ_cons, List.take_zero]
  refine ⟨fun u W hb hd K hK => ?_, ?_⟩
  ·
   clear hd
   rw [if_pos (by rfl)]
   refine wp_load_mid 22 (.tmp 3) rfl g3 0 rfl (A.map B8) _ (rangeAt_of_blk (bg3.below hb lg3)) Tryd.underlying22 rfl (info40.trans (by rw [List.length_map, (hA).out])) ?_
   exact hK _ _ _ rfl (Below.refl _ _) IsOut
  refine ⟨fun u W hb hd K hK => ?_, ?_⟩
  ·
   clear hd
   go_simp
   apply hK
   ·
    simp only [Act.put, List.setIfInBounds_toArray, List.set_cons_zero, List.set_cons_succ]
    exact rfl
   ·
    exact Below.refl _ _
   ·
    exact IsOut
  refine ⟨fun u W hb hd K hK => ?_, ?_⟩
  ·
   simp only [Facts, nthR, Is, and_true] at hd
   simp only [hd] at hK ⊢
   clear hd
   go_simp
   refine (curveShared_1 A none 0 0 [] _ (hT.up hb0 hb) (hA) rfl (in_nil _ 0 (by decide) none) _ _ (Lib.hid zero32_length) (Lib.hid zero32_length) hSA hXN hYN hEN).mono ?_
   rintro e wy ⟨rfl, hby⟩
   exact hK _ _ _ rfl hby IsOut
  refine ⟨fun u W hb hd K hK => ?_, ?_⟩
  ·
   simp only [Facts, nthR, Is, and_true] at hd
   simp only [hd] at hK ⊢
   clear hd
   go_simp
   apply hK
   ·
    simp only [Act.put, List.setIfInBounds_toArray, List.set_cons_zero, List.set_cons_succ]
    exact rfl
   ·
    exact Below.refl _ _
   ·
    exact IsOut
  refine ⟨fun u W hb hd K hK => ?_, ?_⟩
  ·
   simp only [Facts, nthR, Is, and_true] at hd
   simp only [hd] at hK ⊢
   clear hd
   go_simp
   apply hK
   ·
    simp only [Act.put, List.setIfInBounds_toArray, List.set_cons_zero, List.set_cons_succ]
    exact rfl
   ·
    exact Below.refl _ _
   ·
    exact IsOut
  refine ⟨fun u W hb hd K hK => ?_, ?_⟩
  ·
   simp only [Facts, nthR, Is, and_true] at hd
   simp only [hd] at hK ⊢
   clear hd
   go_simp
   apply hK
   ·
    simp only [Act.put, List.setIfInBounds_toArray, List.set_cons_zero, List.set_cons_succ]
    exact rfl
   ·
    exact Below.refl _ _
   ·
    exact IsOut
  exact trivial
 ·
  exact (.is (.is (.is (.is (.is (.is .nil))))))
 intro u w7 hb hd
 simp only [List.drop_succ_cons, List.drop_zero]
 simp only [Facts, nthR, Is, and_true] at hd
 obtain ⟨h4, h5⟩ := hd
 simp only [h4, h5]
 clear h4 h5
 replace bg3 := bg3.below hb lg3
 replace bg4 := bg4.below hb lg4
 replace hb0 := hb0.trans (hb.mono hb0.size)
 replace lg3 := bg3.lt
 replace lg4 := bg4.lt
 replace fp := fp.below hb
 clear hb
 refine wpList_new_store rfl 22 rfl rfl (zero32.map B8) zeroB32 rfl rfl rfl (zero32.map B8) (fun _ => rfl) (fun _ => rfl) (info40.trans (by rw [List.length_map, ((Lib.hid (by decide) : Hid (zero32.length = 32))).out])) (by first | with_reducible rfl | rw [List.length_map, ((Lib.hid (by decide) : Hid (zero32.length = 32))).out, List.length_map, ((Lib.hid (by decide) : Hid (zero32.length = 32))).out] | rw [List.length_map, ((Lib.hid (by decide) : Hid (zero32.length = 32))).out]) (one8 _) ?_
 intro g13 w8 hg bg13 hb
 have og13 := Lib.hid (show w.heap.size ≤ g13 ∧ g3 < g13 ∧ g4 < g13 from ⟨Nat.le_trans hb0.size (Nat.le_of_eq hg.symm), Nat.lt_of_lt_of_le lg3 (Nat.le_of_eq hg.symm), Nat.lt_of_lt_of_le lg4 (Nat.le_of_eq hg.symm)⟩)
 clear hg
 replace bg3 := bg3.below hb lg3
 replace bg4 := bg4.below hb lg4
 replace hb0 := hb0.trans (hb.mono hb0.size)
 replace lg3 := bg3.lt
 replace lg4 := bg4.lt
 replace fp := fp.below hb
 clear hb
 have lg13 := bg13.lt
 try simp only [Act.put, List.setIfInBounds_toArray, List.set_cons_zero, List.set_cons_succ]
 go_upto_region 6 with (fail)
 apply wp_plain_once (m := 6) (J := [[], [], [0, 1], [2], [3], [3]]) (Je := [4, 5]) (Rs := [Is _, Is _, Is _, Is _, Is _, Is _])
 ·
  kernel_rfl
 ·
  kernel_rfl
 ·
  intro u
  simp only [List.take_succ_cons, List.take_zero, List.map_cons, List.map_nil, fillU, List.setIfInBounds_toArray, List.set_cons_zero, List.set_cons_succ, Nat.reduceAdd]
  exact rfl
 ·
  simp only [List.take_succ_cons, List.take_zero]
  refine ⟨fun u W hb hd K hK => ?_, ?_⟩
  ·
   clear hd
   rw [if_pos (by rfl)]
   refine wp_load_mid 22 (.tmp 4) rfl g4 0 rfl (B.map B8) _ (rangeAt_of_blk (bg4.below hb lg4)) Tryd.underlying22 rfl (info40.trans (by rw [List.length_map, (hB).out])) ?_
   exact hK _ _ _ rfl (Below.refl _ _) IsOut
  refine ⟨fun u W hb hd K hK => ?_, ?_⟩
  ·
   clear hd
   go_simp
   apply hK
   ·
    simp only [Act.put, List.setIfInBounds_toArray, List.set_cons_zero, List.set_cons_succ]
    exact rfl
   ·
    exact Below.refl _ _
   ·
    exact IsOut
  refine ⟨fun u W hb hd K hK => ?_, ?_⟩
  ·
   simp only [Facts, nthR, Is, and_true] at hd
   simp only [hd] at hK ⊢
   clear hd
   go_simp
   refine (curveShared_0 B Ap bp.length cp bp _ (hT.up hb0 hb) (hB) rfl ((fp.below hb).toIn (Nat.le_refl _)) hSB).mono ?_
   rintro e wy ⟨rfl, hby⟩
   exact hK _ _ _ rfl hby IsOut
  refine ⟨fun u W hb hd K hK => ?_, ?_⟩
  ·
   simp only [Facts, nthR, Is, and_true] at hd
   simp only [hd] at hK ⊢
   clear hd
   go_simp
   apply hK
   ·
    simp only [Act.put, List.setIfInBounds_toArray, List.set_cons_zero, List.set_cons_succ]
    exact rfl
   ·
    exact Below.refl _ _
   ·
    exact IsOut
  refine ⟨fun u W hb hd K hK => ?_, ?_⟩
  ·
   simp only [Facts, nthR, Is, and_true] at hd
   simp only [hd] at hK ⊢
   clear hd
   go_simp
   apply hK
   ·
    simp only [Act.put, List.setIfInBounds_toArray, List.set_cons_zero, List.set_cons_succ]
    exact rfl
   ·
    exact Below.refl _ _
   ·
    exact IsOut
  refine ⟨fun u W hb hd K hK => ?_, ?_⟩
  ·
   simp only [Facts, nthR, Is, and_true] at hd
   simp only [hd] at hK ⊢
   clear hd
   go_simp
   apply hK
   ·
    simp only [Act.put, List.setIfInBounds_toArray, List.set_cons_zero, List.set_cons_succ]
    exact rfl
   ·
    exact Below.refl _ _
   ·
    exact IsOut
  exact trivial
 ·
  exact (.is (.is (.is (.is (.is (.is .nil))))))
 intro u w9 hb hd
 simp only [List.drop_succ_cons, List.drop_zero]
 simp only [Facts, nthR, Is, and_true] at hd
 obtain ⟨h4, h5⟩ := hd
 simp only [h4, h5]
 clear h4 h5
 replace bg3 := bg3.below hb lg3
 replace bg4 := bg4.below hb lg4
 replace bg13 := bg13.below hb lg13
 replace hb0 := hb0.trans (hb.mono hb0.size)
 replace lg3 := bg3.lt
 replace lg4 := bg4.lt
 replace lg13 := bg13.lt
 replace fp := fp.below hb
 clear hb
 refine wpList_new_store rfl 22 rfl rfl (zero32.map B8) zeroB32 rfl rfl rfl (zero32.map B8) (fun _ => rfl) (fun _ => rfl) (info40.trans (by rw [List.length_map, ((Lib.hid (by decide) : Hid (zero32.length = 32))).out])) (by first | with_reducible rfl | rw [List.length_map, ((Lib.hid (by decide) : Hid (zero32.length = 32))).out, List.length_map, ((Lib.hid (by decide) : Hid (zero32.length = 32))).out] | rw [List.length_map, ((Lib.hid (by decide) : Hid (zero32.length = 32))).out]) (one8 _) ?_
 intro g15 w10 hg bg15 hb
 have og15 := Lib.hid (show w.heap.size ≤ g15 ∧ g3 < g15 ∧ g4 < g15 ∧ g13 < g15 from ⟨Nat.le_trans hb0.size (Nat.le_of_eq hg.symm), Nat.lt_of_lt_of_le lg3 (Nat.le_of_eq hg.symm), Nat.lt_of_lt_of_le lg4 (Nat.le_of_eq hg.symm), Nat.lt_of_lt_of_le lg13 (Nat.le_of_eq hg.symm)⟩)
 clear hg
 replace bg3 := bg3.below hb lg3
 replace bg4 := bg4.below hb lg4
 replace bg13 := bg13.below hb lg13
 replace hb0 := hb0.trans (hb.mono hb0.size)
 replace lg3 := bg3.lt
 replace lg4 := bg4.lt
 replace lg13 := bg13.lt
 replace fp := fp.below hb
 clear hb
 have lg15 := bg15.lt
 try simp only [Act.put, List.setIfInBounds_toArray, List.set_cons_zero, List.set_cons_succ]
 go_upto_region 7 with (fail)
 apply wp_plain_once (m := 22) (J := [[], [0], [1], [2], [2, 3], [2], [2, 4, 5], [2, 6], [7], [8], [8, 9], [8], [8, 10, 11], [8, 12], [13], [14], [14, 15], [14, 16], [17], [17, 18], [14, 17, 19], [14, 20]]) (Je := [21]) (Rs := [Is _, Is _, Is _, Is _, Is _, Is _, Is _, Is _, Is _, Is _, Is _, Is _, Is _, Is _, Is _, Is _, Is _, Is _, Is _, Is _, Is _, Is _])
 ·
  kernel_rfl
 ·
  kernel_rfl
 ·
  intro u
  simp only [List.take_succ_cons, List.take_zero, List.map_cons, List.map_nil, fillU, List.setIfInBounds_toArray, List.set_cons_zero, List.set_cons_succ, Nat.reduceAdd]
  exact rfl
 ·
  simp only [List.take_succ_cons, List.take_zero]
  refine ⟨fun u W hb hd K hK => ?_, ?_⟩
  ·
   clear hd
   go_simp
   refine (CurvesE (hT.up hb0 hb)).mono ?_
   rintro e wy ⟨rfl, hby⟩
   exact hK _ _ _ rfl hby IsOut
  refine ⟨fun u W hb hd K hK => ?_, ?_⟩
  ·
   simp only [Facts, nthR, Is, and_true] at hd
   simp only [hd] at hK ⊢
   clear hd
   go_simp
   apply hK
   ·
    simp only [Act.put, List.setIfInBounds_toArray, List.set_cons_zero, List.set_cons_succ]
    exact rfl
   ·
    exact Below.refl _ _
   ·
    exact IsOut
  refine ⟨fun u W hb hd K hK => ?_, ?_⟩
  ·
   simp only [Facts, nthR, Is, and_true] at hd
   simp only [hd] at hK ⊢
   clear hd
   go_simp
   apply hK
   ·
    simp only [Act.put, List.setIfInBounds_toArray, List.set_cons_zero, List.set_cons_succ]
    exact rfl
   ·
    exact Below.refl _ _
   ·
    exact IsOut
  refine ⟨fun u W hb hd K hK => ?_, ?_⟩
  ·
   simp only [Facts, nthR, Is, and_true] at hd
   simp only [hd] at hK ⊢
   clear hd
   go_simp
   apply hK
   ·
    simp only [Act.put, List.setIfInBounds_toArray, List.set_cons_zero, List.set_cons_succ]
    exact rfl
   ·
    exact Below.refl _ _
   ·
    exact IsOut
  refine ⟨fun u W hb hd K hK => ?_, ?_⟩
  ·
   simp only [Facts, nthR, Is, and_true] at hd
   simp only [hd] at hK ⊢
   clear hd
   go_simp
   apply hK
   ·
    simp only [Act.put, List.setIfInBounds_toArray, List.set_cons_zero, List.set_cons_succ]
    exact rfl
   ·
    exact Below.refl _ _
   ·
    exact IsOut
  refine ⟨fun u W hb hd K hK => ?_, ?_⟩
  ·
   simp only [Facts, nthR, Is, and_true] at hd
   simp only [hd] at hK ⊢
   clear hd
   go_simp
   apply hK
   ·
    simp only [Act.put, List.setIfInBounds_toArray, List.set_cons_zero, List.set_cons_succ]
    exact rfl
   ·
    exact Below.refl _ _
   ·
    exact IsOut
  refine ⟨fun u W hb hd K hK => ?_, ?_⟩
  ·
   simp only [Facts, nthR, Is, and_true] at hd
   simp only [hd] at hK ⊢
   clear hd
   go_simp
   apply hK
   ·
    simp only [Act.put, List.setIfInBounds_toArray, List.set_cons_zero, List.set_cons_succ]
    exact rfl
   ·
    exact Below.refl _ _
   ·
    exact IsOut
  refine ⟨fun u W hb hd K hK => ?_, ?_⟩
  ·
   simp only [Facts, nthR, Is, and_true] at hd
   simp only [hd] at hK ⊢
   clear hd
   go_simp
   apply hK
   ·
    simp only [Act.put, List.setIfInBounds_toArray, List.set_cons_zero, List.set_cons_succ]
    exact rfl
   ·
    exact Below.refl _ _
   ·
    exact IsOut
  refine ⟨fun u W hb hd K hK => ?_, ?_⟩
  ·
   simp only [Facts, nthR, Is, and_true] at hd
   simp only [hd] at hK ⊢
   clear hd
   go_simp
   apply hK
   ·
    simp only [Act.put, List.setIfInBounds_toArray, List.set_cons_zero, List.set_cons_succ]
    exact rfl
   ·
    exact Below.refl _ _
   ·
    exact IsOut
  refine ⟨fun u W hb hd K hK => ?_, ?_⟩
  ·
   simp only [Facts, nthR, Is, and_true] at hd
   simp only [hd] at hK ⊢
   clear hd
   go_simp
   apply hK
   ·
    simp only [Act.put, List.setIfInBounds_toArray, List.set_cons_zero, List.set_cons_succ]
    exact rfl
   ·
    exact Below.refl _ _
   ·
    exact IsOut
  refine ⟨fun u W hb hd K hK => ?_, ?_⟩
  ·
   simp only [Facts, nthR, Is, and_true] at hd
   simp only [hd] at hK ⊢
   clear hd
   go_simp
   apply hK
   ·
    simp only [Act.put, List.setIfInBounds_toArray, List.set_cons_zero, List.set_cons_succ]
    exact rfl
   ·
    exact Below.refl _ _
   ·
    exact IsOut
  refine ⟨fun u W hb hd K hK => ?_, ?_⟩
  ·
   simp only [Facts, nthR, Is, and_true] at hd
   simp only [hd] at hK ⊢
   clear hd
   go_simp
   apply hK
   ·
    simp only [Act.put, List.setIfInBounds_toArray, List.set_cons_zero, List.set_cons_succ]
    exact rfl
   ·
    exact Below.refl _ _
   ·
    exact IsOut
  refine ⟨fun u W hb hd K hK => ?_, ?_⟩
  ·
   simp only [Facts, nthR, Is, and_true] at hd
   simp only [hd] at hK ⊢
   clear hd
   go_simp
   apply hK
   ·
    simp only [Act.put, List.setIfInBounds_toArray, List.set_cons_zero, List.set_cons_succ]
    exact rfl
   ·
    exact Below.refl _ _
   ·
    exact IsOut
  refine ⟨fun u W hb hd K hK => ?_, ?_⟩
  ·
   simp only [Facts, nthR, Is, and_true] at hd
   simp only [hd] at hK ⊢
   clear hd
   go_simp
   apply hK
   ·
    simp only [Act.put, List.setIfInBounds_toArray, List.set_cons_zero, List.set_cons_succ]
    exact rfl
   ·
    exact Below.refl _ _
   ·
    exact IsOut
  refine ⟨fun u W hb hd K hK => ?_, ?_⟩
  ·
   simp only [Facts, nthR, Is, and_true] at hd
   simp only [hd] at hK ⊢
   clear hd
   go_simp
   apply hK
   ·
    simp only [Act.put, List.setIfInBounds_toArray, List.set_cons_zero, List.set_cons_succ]
    exact rfl
   ·
    exact Below.refl _ _
   ·
    exact IsOut
  refine ⟨fun u W hb hd K hK => ?_, ?_⟩
  ·
   simp only [Facts, nthR, Is, and_true] at hd
   simp only [hd] at hK ⊢
   clear hd
   go_simp
   apply hK
   ·
    simp only [Act.put, List.setIfInBounds_toArray, List.set_cons_zero, List.set_cons_succ]
    exact rfl
   ·
    exact Below.refl _ _
   ·
    exact IsOut
  refine ⟨fun u W hb hd K hK => ?_, ?_⟩
  ·
   simp only [Facts, nthR, Is, and_true] at hd
   simp only [hd] at hK ⊢
   clear hd
   go_simp
   apply hK
   ·
    simp only [Act.put, List.setIfInBounds_toArray, List.set_cons_zero, List.set_cons_succ]
    exact rfl
   ·
    exact Below.refl _ _
   ·
    exact IsOut
  refine ⟨fun u W hb hd K hK => ?_, ?_⟩
  ·
   simp only [Facts, nthR, Is, and_true] at hd
   simp only [hd] at hK ⊢
   clear hd
   go_simp
   apply hK
   ·
    simp only [Act.put, List.setIfInBounds_toArray, List.set_cons_zero, List.set_cons_succ]
    exact rfl
   ·
    exact Below.refl _ _
   ·
    exact IsOut
  refine ⟨fun u W hb hd K hK => ?_, ?_⟩
  ·
   simp only [Facts, nthR, Is, and_true] at hd
   simp only [hd] at hK ⊢
   clear hd
   go_simp
   apply hK
   ·
    simp only [Act.put, List.setIfInBounds_toArray, List.set_cons_zero, List.set_cons_succ]
    exact rfl
   ·
    exact Below.refl _ _
   ·
    exact IsOut
  refine ⟨fun u W hb hd K hK => ?_, ?_⟩
  ·
   simp only [Facts, nthR, Is, and_true] at hd
   simp only [hd] at hK ⊢
   clear hd
   go_simp
   apply hK
   ·
    simp only [Act.put, List.setIfInBounds_toArray, List.set_cons_zero, List.set_cons_succ]
    exact rfl
   ·
    exact Below.refl _ _
   ·
    exact IsOut
  refine ⟨fun u W hb hd K hK => ?_, ?_⟩
  ·
   simp only [Facts, nthR, Is, and_true] at hd
   simp only [hd] at hK ⊢
   clear hd
   go_simp
   apply hK
   ·
    simp only [Act.put, List.setIfInBounds_toArray, List.set_cons_zero, List.set_cons_succ]
    exact rfl
   ·
    exact Below.refl _ _
   ·
    exact IsOut
  refine ⟨fun u W hb hd K hK => ?_, ?_⟩
  ·
   simp only [Facts, nthR, Is, and_true] at hd
   simp only [hd] at hK ⊢
   clear hd
   go_simp
   apply hK
   ·
    simp only [Act.put, List.setIfInBounds_toArray, List.set_cons_zero, List.set_cons_succ]
    exact rfl
   ·
    exact Below.refl _ _
   ·
    exact IsOut
  exact trivial
 ·
  exact (.is (.is (.is (.is (.is (.is (.is (.is (.is (.is (.is (.is (.is (.is (.is (.is (.is (.is (.is (.is (.is (.is .nil))))))))))))))))))))))
 intro u w11 hb hd
 simp only [List.drop_succ_cons, List.drop_zero]
 simp only [Facts, nthR, Is, and_true] at hd
 have h21 := hd
 clear hd
 simp only [h21]
 clear h21
 replace bg3 := bg3.below hb lg3
 replace bg4 := bg4.below hb lg4
 replace bg13 := bg13.below hb lg13
 replace bg15 := bg15.below hb lg15
 replace hb0 := hb0.trans (hb.mono hb0.size)
 replace lg3 := bg3.lt
 replace lg4 := bg4.lt
 replace lg13 := bg13.lt
 replace lg15 := bg15.lt
 replace fp := fp.below hb
 clear hb
 go_upto_region 9 with (fail)
 apply wp_plain_once (m := 2) (J := [[], [0]]) (Je := [1]) (Rs := [Is _, Is _])
 ·
  kernel_rfl
 ·
  kernel_rfl
 ·
  intro u
  simp only [List.take_succ_cons, List.take_zero, List.map_cons, List.map_nil, fillU, List.setIfInBounds_toArray, List.set_cons_zero, List.set_cons_succ, Nat.reduceAdd]
  exact rfl
 ·
  simp only [List.take_succ_cons, List.take_zero]
  refine ⟨fun u W hb hd K hK => ?_, ?_⟩
  ·
   clear hd
   go_simp
   apply hK
   ·
    simp only [Act.put, List.setIfInBounds_toArray, List.set_cons_zero, List.set_cons_succ]
    exact rfl
   ·
    exact Below.refl _ _
   ·
    exact IsOut
  refine ⟨fun u W hb hd K hK => ?_, ?_⟩
  ·
   simp only [Facts, nthR, Is, and_true] at hd
   simp only [hd] at hK ⊢
   clear hd
   go_simp
   apply hK
   ·
    simp only [Act.put, List.setIfInBounds_toArray, List.set_cons_zero, List.set_cons_succ]
    exact rfl
   ·
    exact Below.refl _ _
   ·
    exact IsOut
  exact trivial
 ·
  exact (.is (.is .nil))
 intro u w12 hb hd
 simp only [List.drop_succ_cons, List.drop_zero]
 simp only [Facts, nthR, Is, and_true] at hd
 have h1 := hd
 clear hd
 simp only [h1]
 clear h1
 replace bg3 := bg3.below hb lg3
 replace bg4 := bg4.below hb lg4
 replace bg13 := bg13.below hb lg13
 replace bg15 := bg15.below hb lg15
 replace hb0 := hb0.trans (hb.mono hb0.size)
 replace lg3 := bg3.lt
 replace lg4 := bg4.lt
 replace lg13 := bg13.lt
 replace lg15 := bg15.lt
 replace fp := fp.below hb
 clear hb
 go_upto_region 11 with (fail)
 apply wp_region_once_tail (m := 23) (Z := []) (D := [[], [0], [0, 1], [0, 1, 2], [0, 1, 2, 3], [0, 1, 2, 3, 4], [0, 1, 2, 3, 4, 5], [0, 1, 2, 3, 4, 5, 6], [0, 1, 2, 3, 4, 5, 6, 7], [0, 1, 2, 3, 4, 5, 6, 7, 8], [0, 1, 2, 3, 4, 5, 6, 7, 8], [0, 1, 2, 3, 4, 5, 6, 7, 8, 9, 10], [0, 1, 2, 3, 4, 5, 6, 7, 8, 9, 10, 11], [0, 1, 2, 3, 4, 5, 6, 7, 8, 9, 10, 11, 12], [0, 1, 2, 3, 4, 5, 6, 7, 8, 9, 10, 11, 12, 13], [0, 1, 2, 3, 4, 5, 6, 7, 8, 9, 10, 11, 12, 13], [0, 1, 2, 3, 4, 5, 6, 7, 8, 9, 10, 11, 12, 13], [0, 1, 2, 3, 4, 5, 6, 7, 8, 9, 10, 11, 12, 13, 16], [0, 1, 2, 3, 4, 5, 6, 7, 8, 9, 10, 11, 12, 13, 15, 16, 17], [0, 1, 2, 3, 4, 5, 6, 7, 8, 9, 10, 11, 12, 13, 15, 16, 17, 18], [0, 1, 2, 3, 4, 5, 6, 7, 8, 9, 10, 11, 12, 13, 14, 15, 16, 17, 18, 19], [0, 1, 2, 3, 4, 5, 6, 7, 8, 9, 10, 11, 12, 13, 14, 15, 16, 17, 18, 19, 20], [0, 1, 2, 3, 4, 5, 6, 7, 8, 9, 10, 11, 12, 13, 14, 15, 16, 17, 18, 19, 20, 21]]) (J := [[], [0], [1], [1, 2], [1, 3], [4], [4, 5], [1, 4, 6], [1, 7], [8], [8], [8, 9, 10], [1, 8, 11], [1, 12], [13], [13], [13], [13, 16], [13, 15, 17], [13, 18], [13, 14, 19], [1, 13, 20], [1, 21]]) (Je := [22]) (Rs := [Is _, Is _, Is _, Is _, Is _, Is _, Is _, Is _, Is _, Is _, Is _, Is _, Is _, Is _, Is _, Is _, Is _, Is _, Is _, Is _, Is _, Is _, Is _])
 ·
  kernel_rfl
 ·
  kernel_rfl
 ·
  kernel_rfl
 ·
  kernel_rfl
 ·
  kernel_rfl
 ·
  kernel_rfl
 ·
  kernel_rfl
 ·
  exact fun h => absurd rfl h
 ·
  intro u
  simp only [List.take_succ_cons, List.take_zero, List.map_cons, List.map_nil, fillU, List.setIfInBounds_toArray, List.set_cons_zero, List.set_cons_succ, Nat.reduceAdd]
  exact rfl
 ·
  simp only [List.take_succ_cons, List.take_zero]
  refine ⟨fun u W hb hd K hK => ?_, ?_⟩
  ·
   clear hd
   go_simp
   apply hK
   ·
    simp only [Act.put, List.setIfInBounds_toArray, List.set_cons_zero, List.set_cons_succ]
    exact rfl
   ·
    exact Below.refl _ _
   ·
    exact IsOut
  refine ⟨fun u W hb hd K hK => ?_, ?_⟩
  ·
   simp only [Facts, nthR, Is, and_true] at hd
   simp only [hd] at hK ⊢
   clear hd
   go_simp
   apply hK
   ·
    simp only [Act.put, List.setIfInBounds_toArray, List.set_cons_zero, List.set_cons_succ]
    exact rfl
   ·
    exact Below.refl _ _
   ·
    exact IsOut
  refine ⟨fun u W hb hd K hK => ?_, ?_⟩
  ·
   simp only [Facts, nthR, Is, and_true] at hd
   simp only [hd] at hK ⊢
   clear hd
   go_simp
   apply hK
   ·
    simp only [Act.put, List.setIfInBounds_toArray, List.set_cons_zero, List.set_cons_succ]
    exact rfl
   ·
    exact Below.refl _ _
   ·
    exact IsOut
  refine ⟨fun u W hb hd K hK => ?_, ?_⟩
  ·
   simp only [Facts, nthR, Is, and_true] at hd
   simp only [hd] at hK ⊢
   clear hd
   go_simp
   apply hK
   ·
    simp only [Act.put, List.setIfInBounds_toArray, List.set_cons_zero, List.set_cons_succ]
    exact rfl
   ·
    exact Below.refl _ _
   ·
    exact IsOut
  refine ⟨fun u W hb hd K hK => ?_, ?_⟩
  ·
   simp only [Facts, nthR, Is, and_true] at hd
   simp only [hd] at hK ⊢
   clear hd
   go_simp
   apply hK
   ·
    simp only [Act.put, List.setIfInBounds_toArray, List.set_cons_zero, List.set_cons_succ]
    exact rfl
   ·
    exact Below.refl _ _
   ·
    exact IsOut
  refine ⟨fun u W hb hd K hK => ?_, ?_⟩
  ·
   simp only [Facts, nthR, Is, and_true] at hd
   simp only [hd] at hK ⊢
   clear hd
   go_simp
   apply hK
   ·
    simp only [Act.put, List.setIfInBounds_toArray, List.set_cons_zero, List.set_cons_succ]
    exact rfl
   ·
    exact Below.refl _ _
   ·
    exact IsOut
  refine ⟨fun u W hb hd K hK => ?_, ?_⟩
  ·
   simp only [Facts, nthR, Is, and_true] at hd
   simp only [hd] at hK ⊢
   clear hd
   go_simp
   apply hK
   ·
    simp only [Act.put, List.setIfInBounds_toArray, List.set_cons_zero, List.set_cons_succ]
    exact rfl
   ·
    exact Below.refl _ _
   ·
    exact IsOut
  refine ⟨fun u W hb hd K hK => ?_, ?_⟩
  ·
   simp only [Facts, nthR, Is, and_true] at hd
   simp only [hd] at hK ⊢
   clear hd
   go_simp
   apply hK
   ·
    simp only [Act.put, List.setIfInBounds_toArray, List.set_cons_zero, List.set_cons_succ]
    exact rfl
   ·
    exact Below.refl _ _
   ·
    exact IsOut
  refine ⟨fun u W hb hd K hK => ?_, ?_⟩
  ·
   simp only [Facts, nthR, Is, and_true] at hd
   simp only [hd] at hK ⊢
   clear hd
   go_simp
   apply hK
   ·
    simp only [Act.put, List.setIfInBounds_toArray, List.set_cons_zero, List.set_cons_succ]
    exact rfl
   ·
    exact Below.refl _ _
   ·
    exact IsOut
  refine ⟨fun u W hb hd K hK => ?_, ?_⟩
  ·
   simp only [Facts, nthR, Is, and_true] at hd
   simp only [hd] at hK ⊢
   clear hd
   go_simp
   apply hK
   ·
    simp only [Act.put, List.setIfInBounds_toArray, List.set_cons_zero, List.set_cons_succ]
    exact rfl
   ·
    exact Below.refl _ _
   ·
    exact IsOut
  refine ⟨fun u W hb hd K hK => ?_, ?_⟩
  ·
   simp only [Facts, nthR, Is, and_true] at hd
   simp only [hd] at hK ⊢
   clear hd
   go_simp
   apply hK
   ·
    simp only [Act.put, List.setIfInBounds_toArray, List.set_cons_zero, List.set_cons_succ]
    exact rfl
   ·
    exact Below.refl _ _
   ·
    exact IsOut
  refine ⟨fun u W hb hd K hK => ?_, ?_⟩
  ·
   simp only [Facts, nthR, Is, and_true] at hd
   simp only [hd] at hK ⊢
   clear hd
   go_simp
   apply hK
   ·
    simp only [Act.put, List.setIfInBounds_toArray, List.set_cons_zero, List.set_cons_succ]
    exact rfl
   ·
    exact Below.refl _ _
   ·
    exact IsOut
  refine ⟨fun u W hb hd K hK => ?_, ?_⟩
  ·
   simp only [Facts, nthR, Is, and_true] at hd
   simp only [hd] at hK ⊢
   clear hd
   go_simp
   apply hK
   ·
    simp only [Act.put, List.setIfInBounds_toArray, List.set_cons_zero, List.set_cons_succ]
    exact rfl
   ·
    exact Below.refl _ _
   ·
    exact IsOut
  refine ⟨fun u W hb hd K hK => ?_, ?_⟩
  ·
   simp only [Facts, nthR, Is, and_true] at hd
   simp only [hd] at hK ⊢
   clear hd
   go_simp
   apply hK
   ·
    simp only [Act.put, List.setIfInBounds_toArray, List.set_cons_zero, List.set_cons_succ]
    exact rfl
   ·
    exact Below.refl _ _
   ·
    exact IsOut
  refine ⟨fun u W hb hd K hK => ?_, ?_⟩
  ·
   simp only [Facts, nthR, Is, and_true] at hd
   simp only [hd] at hK ⊢
   clear hd
   go_simp
   apply hK
   ·
    simp only [Act.put, List.setIfInBounds_toArray, List.set_cons_zero, List.set_cons_succ]
    exact rfl
   ·
    exact Below.refl _ _
   ·
    exact IsOut
  refine ⟨fun u W hb hd K hK => ?_, ?_⟩
  ·
   simp only [Facts, nthR, Is, and_true] at hd
   simp only [hd] at hK ⊢
   clear hd
   go_simp
   apply hK
   ·
    simp only [Act.put, List.setIfInBounds_toArray, List.set_cons_zero, List.set_cons_succ]
    exact rfl
   ·
    exact Below.refl _ _
   ·
    exact IsOut
  refine ⟨fun u W hb hd K hK => ?_, ?_⟩
  ·
   simp only [Facts, nthR, Is, and_true] at hd
   simp only [hd] at hK ⊢
   clear hd
   go_simp
   apply hK
   ·
    simp only [Act.put, List.setIfInBounds_toArray, List.set_cons_zero, List.set_cons_succ]
    exact rfl
   ·
    exact Below.refl _ _
   ·
    exact IsOut
  refine ⟨fun u W hb hd K hK => ?_, ?_⟩
  ·
   simp only [Facts, nthR, Is, and_true] at hd
   simp only [hd] at hK ⊢
   clear hd
   go_simp
   apply hK
   ·
    simp only [Act.put, List.setIfInBounds_toArray, List.set_cons_zero, List.set_cons_succ]
    exact rfl
   ·
    exact Below.refl _ _
   ·
    exact IsOut
  refine ⟨fun u W hb hd K hK => ?_, ?_⟩
  ·
   simp only [Facts, nthR, Is, and_true] at hd
   simp only [hd] at hK ⊢
   clear hd
   go_simp
   apply hK
   ·
    simp only [Act.put, List.setIfInBounds_toArray, List.set_cons_zero, List.set_cons_succ]
    exact rfl
   ·
    exact Below.refl _ _
   ·
    exact IsOut
  refine ⟨fun u W hb hd K hK => ?_, ?_⟩
  ·
   simp only [Facts, nthR, Is, and_true] at hd
   simp only [hd] at hK ⊢
   clear hd
   go_simp
   apply hK
   ·
    simp only [Act.put, List.setIfInBounds_toArray, List.set_cons_zero, List.set_cons_succ]
    exact rfl
   ·
    exact Below.refl _ _
   ·
    exact IsOut
  refine ⟨fun u W hb hd K hK => ?_, ?_⟩
  ·
   simp only [Facts, nthR, Is, and_true] at hd
   simp only [hd] at hK ⊢
   clear hd
   go_simp
   apply hK
   ·
    simp only [Act.put, List.setIfInBounds_toArray, List.set_cons_zero, List.set_cons_succ]
    exact rfl
   ·
    exact Below.refl _ _
   ·
    exact IsOut
  refine ⟨fun u W hb hd K hK => ?_, ?_⟩
  ·
   simp only [Facts, nthR, Is, and_true] at hd
   simp only [hd] at hK ⊢
   clear hd
   go_simp
   apply hK
   ·
    simp only [Act.put, List.setIfInBounds_toArray, List.set_cons_zero, List.set_cons_succ]
    exact rfl
   ·
    exact Below.refl _ _
   ·
    exact IsOut
  refine ⟨fun u W hb hd K hK => ?_, ?_⟩
  ·
   simp only [Facts, nthR, Is, and_true] at hd
   simp only [hd] at hK ⊢
   clear hd
   go_simp
   apply hK
   ·
    simp only [Act.put, List.setIfInBounds_toArray, List.set_cons_zero, List.set_cons_succ]
    exact rfl
   ·
    exact Below.refl _ _
   ·
    exact IsOut
  exact trivial
 ·
  skip
  exact trivial
 ·
  exact (.is (.is (.is (.is (.is (.is (.is (.is (.is (.is (.is (.is (.is (.is (.is (.is (.is (.is (.is (.is (.is (.is (.is .nil)))))))))))))))))))))))
 intro u w13 hb hd
 simp only [List.drop_succ_cons, List.drop_zero]
 simp only [Facts, nthR, Is, and_true] at hd
 have h22 := hd
 clear hd
 simp only [h22]
 clear h22
 replace bg3 := bg3.below hb lg3
 replace bg4 := bg4.below hb lg4
 replace bg13 := bg13.below hb lg13
 replace bg15 := bg15.below hb lg15
 replace hb0 := hb0.trans (hb.mono hb0.size)
 replace lg3 := bg3.lt
 replace lg4 := bg4.lt
 replace lg13 := bg13.lt
 replace lg15 := bg15.lt
 replace fp := fp.below hb
 clear hb
 go_upto_region 13 with (fail)
 apply wp_plain_once (m := 5) (J := [[], [0], [1], [2], [2]]) (Je := [3, 4]) (Rs := [Is _, Is _, Is _, Is _, Is _])
 ·
  kernel_rfl
 ·
  kernel_rfl
 ·
  intro u
  simp only [List.take_succ_cons, List.take_zero, List.map_cons, List.map_nil, fillU, List.setIfInBounds_toArray, List.set_cons_zero, List.set_cons_succ, Nat.reduceAdd]
  exact rfl
 ·
  simp only [List.take_succ_cons, List.take_zero]
  refine ⟨fun u W hb hd K hK => ?_, ?_⟩
  ·
   clear hd
   go_simp
   apply hK
   ·
    simp only [Act.put, List.setIfInBounds_toArray, List.set_cons_zero, List.set_cons_succ]
    exact rfl
   ·
    exact Below.refl _ _
   ·
    exact IsOut
  refine ⟨fun u W hb hd K hK => ?_, ?_⟩
  ·
   simp only [Facts, nthR, Is, and_true] at hd
   simp only [hd] at hK ⊢
   clear hd
   go_simp
   refine (ReadH hXj hYj hEj hN (hI.up (hb0.trans (hb.mono hb0.size))) (hT.up hb0 hb)).mono ?_
   rintro e wy ⟨rfl, hby⟩
   exact hK _ _ _ rfl hby IsOut
  refine ⟨fun u W hb hd K hK => ?_, ?_⟩
  ·
   simp only [Facts, nthR, Is, and_true] at hd
   simp only [hd] at hK ⊢
   clear hd
   go_simp
   apply hK
   ·
    simp only [Act.put, List.setIfInBounds_toArray, List.set_cons_zero, List.set_cons_succ]
    exact rfl
   ·
    exact Below.refl _ _
   ·
    exact IsOut
  refine ⟨fun u W hb hd K hK => ?_, ?_⟩
  ·
   simp only [Facts, nthR, Is, and_true] at hd
   simp only [hd] at hK ⊢
   clear hd
   go_simp
   apply hK
   ·
    simp only [Act.put, List.setIfInBounds_toArray, List.set_cons_zero, List.set_cons_succ]
    exact rfl
   ·
    exact Below.refl _ _
   ·
    exact IsOut
  refine ⟨fun u W hb hd K hK => ?_, ?_⟩
  ·
   simp only [Facts, nthR, Is, and_true] at hd
   simp only [hd] at hK ⊢
   clear hd
   go_simp
   apply hK
   ·
    simp only [Act.put, List.setIfInBounds_toArray, List.set_cons_zero, List.set_cons_succ]
    exact rfl
   ·
    exact Below.refl _ _
   ·
    exact IsOut
  exact trivial
 ·
  exact (.is (.is (.is (.is (.is .nil)))))
 intro u w14 hb hd
 simp only [List.drop_succ_cons, List.drop_zero]
 simp only [Facts, nthR, Is, and_true] at hd
 obtain ⟨h3, h4⟩ := hd
 simp only [h3, h4]
 clear h3 h4
 replace bg3 := bg3.below hb lg3
 replace bg4 := bg4.below hb lg4
 replace bg13 := bg13.below hb lg13
 replace bg15 := bg15.below hb lg15
 replace hb0 := hb0.trans (hb.mono hb0.size)
 replace lg3 := bg3.lt
 replace lg4 := bg4.lt
 replace lg13 := bg13.lt
 replace lg15 := bg15.lt
 replace fp := fp.below hb
 clear hb
 refine wpList_new_store rfl 24 rfl rfl (ptV none) zeroPt rfl rfl rfl (ptC X Y) (fun _ => rfl) (fun _ => rfl) (infoPt.trans (by rw [ptC_length (hXl).out (hYl).out])) (by first | with_reducible rfl | rw [ptV_length, ptC_length (hXl).out (hYl).out] | rw [ptV_length]) (onePt _ _) ?_
 intro g17 w15 hg bg17 hb
 have og17 := Lib.hid (show w.heap.size ≤ g17 ∧ g3 < g17 ∧ g4 < g17 ∧ g13 < g17 ∧ g15 < g17 from ⟨Nat.le_trans hb0.size (Nat.le_of_eq hg.symm), Nat.lt_of_lt_of_le lg3 (Nat.le_of_eq hg.symm), Nat.lt_of_lt_of_le lg4 (Nat.le_of_eq hg.symm), Nat.lt_of_lt_of_le lg13 (Nat.le_of_eq hg.symm), Nat.lt_of_lt_of_le lg15 (Nat.le_of_eq hg.symm)⟩)
 clear hg
 replace bg3 := bg3.below hb lg3
 replace bg4 := bg4.below hb lg4
 replace bg13 := bg13.below hb lg13
 replace bg15 := bg15.below hb lg15
 replace hb0 := hb0.trans (hb.mono hb0.size)
 replace lg3 := bg3.lt
 replace lg4 := bg4.lt
 replace lg13 := bg13.lt
 replace lg15 := bg15.lt
 replace fp := fp.below hb
 clear hb
 have lg17 := bg17.lt
 try simp only [Act.put, List.setIfInBounds_toArray, List.set_cons_zero, List.set_cons_succ]
 go_upto_region 14 with (fail)
 apply wp_plain_once (m := 2) (J := [[], [0]]) (Je := [1]) (Rs := [Is _, Is _])
 ·
  kernel_rfl
 ·
  kernel_rfl
 ·
  intro u
  simp only [List.take_succ_cons, List.take_zero, List.map_cons, List.map_nil, fillU, List.setIfInBounds_toArray, List.set_cons_zero, List.set_cons_succ, Nat.reduceAdd]
  exact rfl
 ·
  simp only [List.take_succ_cons, List.take_zero]
  refine ⟨fun u W hb hd K hK => ?_, ?_⟩
  ·
   clear hd
   go_simp
   apply hK
   ·
    simp only [Act.put, List.setIfInBounds_toArray, List.set_cons_zero, List.set_cons_succ]
    exact rfl
   ·
    exact Below.refl _ _
   ·
    exact IsOut
  refine ⟨fun u W hb hd K hK => ?_, ?_⟩
  ·
   simp only [Facts, nthR, Is, and_true] at hd
   simp only [hd] at hK ⊢
   clear hd
   go_simp
   apply hK
   ·
    simp only [Act.put, List.setIfInBounds_toArray, List.set_cons_zero, List.set_cons_succ]
    exact rfl
   ·
    exact Below.refl _ _
   ·
    exact IsOut
  exact trivial
 ·
  exact (.is (.is .nil))
 intro u w16 hb hd
 simp only [List.drop_succ_cons, List.drop_zero]
 simp only [Facts, nthR, Is, and_true] at hd
 have h1 := hd
 clear hd
 simp only [h1]
 clear h1
 replace bg3 := bg3.below hb lg3
 replace bg4 := bg4.below hb lg4
 replace bg13 := bg13.below hb lg13
 replace bg15 := bg15.below hb lg15
 replace bg17 := bg17.below hb lg17
 replace hb0 := hb0.trans (hb.mono hb0.size)
 replace lg3 := bg3.lt
 replace lg4 := bg4.lt
 replace lg13 := bg13.lt
 replace lg15 := bg15.lt
 replace lg17 := bg17.lt
 replace fp := fp.below hb
 clear hb
 go_upto_region 15 with (fail)
 apply wp_plain_once (m := 6) (J := [[], [], [0, 1], [2], [3], [3]]) (Je := [4, 5]) (Rs := [Is _, Is _, Is _, Is _, Is _, Is _])
 ·
  kernel_rfl
 ·
  kernel_rfl
 ·
  intro u
  simp only [List.take_succ_cons, List.take_zero, List.map_cons, List.map_nil, fillU, List.setIfInBounds_toArray, List.set_cons_zero, List.set_cons_succ, Nat.reduceAdd]
  exact rfl
 ·
  simp only [List.take_succ_cons, List.take_zero]
  refine ⟨fun u W hb hd K hK => ?_, ?_⟩
  ·
   clear hd
   rw [if_pos (by rfl)]
   refine wp_load_mid 22 (.tmp 3) rfl g3 0 rfl (A.map B8) _ (rangeAt_of_blk (bg3.below hb lg3)) Tryd.underlying22 rfl (info40.trans (by rw [List.length_map, (hA).out])) ?_
   exact hK _ _ _ rfl (Below.refl _ _) IsOut
  refine ⟨fun u W hb hd K hK => ?_, ?_⟩
  ·
   clear hd
   go_simp
   apply hK
   ·
    simp only [Act.put, List.setIfInBounds_toArray, List.set_cons_zero, List.set_cons_succ]
    exact rfl
   ·
    exact Below.refl _ _
   ·
    exact IsOut
  refine ⟨fun u W hb hd K hK => ?_, ?_⟩
  ·
   simp only [Facts, nthR, Is, and_true] at hd
   simp only [hd] at hK ⊢
   clear hd
   go_simp
   refine (curveShared_1 A A3 n3 c3 xs _ (hT.up hb0 hb) (hA) hN (hI.up (hb0.trans (hb.mono hb0.size))) _ _ (Lib.hid zero32_length) (Lib.hid zero32_length) hSA hXJ hYJ hEJ).mono ?_
   rintro e wy ⟨rfl, hby⟩
   exact hK _ _ _ rfl hby IsOut
  refine ⟨fun u W hb hd K hK => ?_, ?_⟩
  ·
   simp only [Facts, nthR, Is, and_true] at hd
   simp only [hd] at hK ⊢
   clear hd
   go_simp
   apply hK
   ·
    simp only [Act.put, List.setIfInBounds_toArray, List.set_cons_zero, List.set_cons_succ]
    exact rfl
   ·
    exact Below.refl _ _
   ·
    exact IsOut
  refine ⟨fun u W hb hd K hK => ?_, ?_⟩
  ·
   simp only [Facts, nthR, Is, and_true] at hd
   simp only [hd] at hK ⊢
   clear hd
   go_simp
   apply hK
   ·
    simp only [Act.put, List.setIfInBounds_toArray, List.set_cons_zero, List.set_cons_succ]
    exact rfl
   ·
    exact Below.refl _ _
   ·
    exact IsOut
  refine ⟨fun u W hb hd K hK => ?_, ?_⟩
  ·
   simp only [Facts, nthR, Is, and_true] at hd
   simp only [hd] at hK ⊢
   clear hd
   go_simp
   apply hK
   ·
    simp only [Act.put, List.setIfInBounds_toArray, List.set_cons_zero, List.set_cons_succ]
    exact rfl
   ·
    exact Below.refl _ _
   ·
    exact IsOut
  exact trivial
 ·
  exact (.is (.is (.is (.is (.is (.is .nil))))))
 intro u w17 hb hd
 simp only [List.drop_succ_cons, List.drop_zero]
 simp only [Facts, nthR, Is, and_true] at hd
 obtain ⟨h4, h5⟩ := hd
 simp only [h4, h5]
 clear h4 h5
 replace bg3 := bg3.below hb lg3
 replace bg4 := bg4.below hb lg4
 replace bg13 := bg13.below hb lg13
 replace bg15 := bg15.below hb lg15
 replace bg17 := bg17.below hb lg17
 replace hb0 := hb0.trans (hb.mono hb0.size)
 replace lg3 := bg3.lt
 replace lg4 := bg4.lt
 replace lg13 := bg13.lt
 replace lg15 := bg15.lt
 replace lg17 := bg17.lt
 replace fp := fp.below hb
 clear hb
 refine wpList_new_store rfl 22 rfl rfl (zero32.map B8) zeroB32 rfl rfl rfl (zero32.map B8) (fun _ => rfl) (fun _ => rfl) (info40.trans (by rw [List.length_map, ((Lib.hid (by decide) : Hid (zero32.length = 32))).out])) (by first | with_reducible rfl | rw [List.length_map, ((Lib.hid (by decide) : Hid (zero32.length = 32))).out, List.length_map, ((Lib.hid (by decide) : Hid (zero32.length = 32))).out] | rw [List.length_map, ((Lib.hid (by decide) : Hid (zero32.length = 32))).out]) (one8 _) ?_
 intro g19 w18 hg bg19 hb
 have og19 := Lib.hid (show w.heap.size ≤ g19 ∧ g3 < g19 ∧ g4 < g19 ∧ g13 < g19 ∧ g15 < g19 ∧ g17 < g19 from ⟨Nat.le_trans hb0.size (Nat.le_of_eq hg.symm), Nat.lt_of_lt_of_le lg3 (Nat.le_of_eq hg.symm), Nat.lt_of_lt_of_le lg4 (Nat.le_of_eq hg.symm), Nat.lt_of_lt_of_le lg13 (Nat.le_of_eq hg.symm), Nat.lt_of_lt_of_le lg15 (Nat.le_of_eq hg.symm), Nat.lt_of_lt_of_le lg17 (Nat.le_of_eq hg.symm)⟩)
 clear hg
 replace bg3 := bg3.below hb lg3
 replace bg4 := bg4.below hb lg4
 replace bg13 := bg13.below hb lg13
 replace bg15 := bg15.below hb lg15
 replace bg17 := bg17.below hb lg17
 replace hb0 := hb0.trans (hb.mono hb0.size)
 replace lg3 := bg3.lt
 replace lg4 := bg4.lt
 replace lg13 := bg13.lt
 replace lg15 := bg15.lt
 replace lg17 := bg17.lt
 replace fp := fp.below hb
 clear hb
 have lg19 := bg19.lt
 try simp only [Act.put, List.setIfInBounds_toArray, List.set_cons_zero, List.set_cons_succ]
 go_upto_region 16 with (fail)
 apply wp_plain_once (m := 2) (J := [[], [0]]) (Je := [1]) (Rs := [Is _, Is _])
 ·
  kernel_rfl
 ·
  kernel_rfl
 ·
  intro u
  simp only [List.take_succ_cons, List.take_zero, List.map_cons, List.map_nil, fillU, List.setIfInBounds_toArray, List.set_cons_zero, List.set_cons_succ, Nat.reduceAdd]
  exact rfl
 ·
  simp only [List.take_succ_cons, List.take_zero]
  refine ⟨fun u W hb hd K hK => ?_, ?_⟩
  ·
   clear hd
   go_simp
   apply hK
   ·
    simp only [Act.put, List.setIfInBounds_toArray, List.set_cons_zero, List.set_cons_succ]
    exact rfl
   ·
    exact Below.refl _ _
   ·
    exact IsOut
  refine ⟨fun u W hb hd K hK => ?_, ?_⟩
  ·
   simp only [Facts, nthR, Is, and_true] at hd
   simp only [hd] at hK ⊢
   clear hd
   go_simp
   apply hK
   ·
    simp only [Act.put, List.setIfInBounds_toArray, List.set_cons_zero, List.set_cons_succ]
    exact rfl
   ·
    exact Below.refl _ _
   ·
    exact IsOut
  exact trivial
 ·
  exact (.is (.is .nil))
 intro u w19 hb hd
 simp only [List.drop_succ_cons, List.drop_zero]
 simp only [Facts, nthR, Is, and_true] at hd
 have h1 := hd
 clear hd
 simp only [h1]
 clear h1
 replace bg3 := bg3.below hb lg3
 replace bg4 := bg4.below hb lg4
 replace bg13 := bg13.below hb lg13
 replace bg15 := bg15.below hb lg15
 replace bg17 := bg17.below hb lg17
 replace bg19 := bg19.below hb lg19
 replace hb0 := hb0.trans (hb.mono hb0.size)
 replace lg3 := bg3.lt
 replace lg4 := bg4.lt
 replace lg13 := bg13.lt
 replace lg15 := bg15.lt
 replace lg17 := bg17.lt
 replace lg19 := bg19.lt
 replace fp := fp.below hb
 clear hb
 go_wp2_with (fail)
 refine bodyPost_ret (results_tmp Tryd.results8 _ _ _) rfl ?_
 exact ⟨rfl, hb0⟩
set_option maxRecDepth 100000 in
set_option maxHeartbeats 4000000 in
theorem curveShares_101 (A B : List UInt8) (A3 : Option Addr) (n3 c3 : Nat) (xs : List UInt8) (w : World) (hT : TabsC w) (hA : Hid (A.length = 32)) (hB : Hid (B.length = 32)) (hN : xs.length = n3) (hI : In w w.heap.size A3 c3 xs) (hSA : Hid (secretB A = true)) (hSB : Hid (secretB B = false)) (hok : Hid (okR xs = true)) : Calls Tryd.prog 8 #[.agg (A.map B8).toArray, .agg (B.map B8).toArray, .slice A3 n3 c3] w fun e w' => e = .returned (.bool true) ∧ Below w.heap.size w w' := by
 go_enter Tryd.func8, Tryd.ntmps8
 have hb0 : Below w.heap.size w w := Below.refl _ _
 obtain ⟨vA, hvA⟩ : ∃ s, Hid ((ofTo A 32).val = s) := ⟨_, Lib.hid rfl⟩
 obtain ⟨bp, hbp⟩ : ∃ s, Hid (s = wrB (xB (mulG vA)) (yB (mulG vA))) := ⟨_, Lib.hid rfl⟩
 obtain ⟨Pp, hPp⟩ : ∃ s : Pt, Hid (s = mulG vA) := ⟨_, Lib.hid rfl⟩
 obtain ⟨hXp, hYp, hEp, hSpp⟩ := pub_row hSA hvA hPp hbp
 replace hXp := Lib.hid hXp
 replace hYp := Lib.hid hYp
 replace hEp := Lib.hid hEp
 replace hSpp := Lib.hid hSpp
 obtain ⟨vB, hvB⟩ : ∃ s, Hid ((ofTo B 32).val = s) := ⟨_, Lib.hid rfl⟩
 obtain ⟨hXN, hYN, hEN⟩ := rd_nil
 replace hXN := Lib.hid hXN
 replace hYN := Lib.hid hYN
 replace hEN := Lib.hid hEN
 obtain ⟨X, hXj⟩ : ∃ s, Hid (rdX xs = s) := ⟨_, Lib.hid rfl⟩
 obtain ⟨Y, hYj⟩ : ∃ s, Hid (rdY xs = s) := ⟨_, Lib.hid rfl⟩
 have hXl : Hid (X.length = 32) := Lib.hid (by rw [← hXj.out]; exact rdX_length _)
 have hYl : Hid (Y.length = 32) := Lib.hid (by rw [← hYj.out]; exact rdY_length _)
 have hEj := Lib.hid (rd_yes hok.out)
 go_upto_region 0 with (fail)
 refine wp_region_lit ?_
 refine wpList_box_blk rfl 22 (.tmp 0) rfl (A.map B8) rfl ?_
 intro g3 w1 hg bg3 hb
 have og3 := Lib.hid (show w.heap.size ≤ g3 from Nat.le_trans hb0.size (Nat.le_of_eq hg.symm))
 clear hg
 replace hb0 := hb0.trans (hb.mono hb0.size)
 clear hb
 have lg3 := bg3.lt
 try simp only [Act.put, List.setIfInBounds_toArray, List.set_cons_zero, List.set_cons_succ]
 refine wpList_box_blk rfl 22 (.tmp 1) rfl (B.map B8) rfl ?_
 intro g4 w2 hg bg4 hb
 have og4 := Lib.hid (show w.heap.size ≤ g4 ∧ g3 < g4 from ⟨Nat.le_trans hb0.size (Nat.le_of_eq hg.symm), Nat.lt_of_lt_of_le lg3 (Nat.le_of_eq hg.symm)⟩)
 clear hg
 replace bg3 := bg3.below hb lg3
 replace hb0 := hb0.trans (hb.mono hb0.size)
 replace lg3 := bg3.lt
 clear hb
 have lg4 := bg4.lt
 try simp only [Act.put, List.setIfInBounds_toArray, List.set_cons_zero, List.set_cons_succ]
 go_upto_region 1 with (fail)
 apply wp_plain_once (m := 2) (J := [[], [0]]) (Je := [1]) (Rs := [Is _, fun v V => ∃ A c, v = .tuple #[.slice A bp.length c, .int .i64 0] ∧ Buf V w2.heap.size A bp.length c bp])
 ·
  kernel_rfl
 ·
  kernel_rfl
 ·
  intro u
  simp only [List.take_succ_cons, List.take_zero, List.map_cons, List.map_nil, fillU, List.setIfInBounds_toArray, List.set_cons_zero, List.set_cons_succ, Nat.reduceAdd]
  exact rfl
 ·
  simp only [List.take_succ_cons, List.take_zero]
  refine ⟨fun u W hb hd K hK => ?_, ?_⟩
  ·
   clear hd
   rw [if_pos (by rfl)]
   refine wp_load_mid 22 (.tmp 3) rfl g3 0 rfl (A.map B8) _ (rangeAt_of_blk (bg3.below hb lg3)) Tryd.underlying22 rfl (info40.trans (by rw [List.length_map, (hA).out])) ?_
   exact hK _ _ _ rfl (Below.refl _ _) IsOut
  refine ⟨fun u W hb hd K hK => ?_, ?_⟩
  ·
   simp only [Facts, nthR, Is, and_true] at hd
   simp only [hd] at hK ⊢
   clear hd
   go_simp
   refine (curvePublic_1 A bp vA _ (hT.up hb0 hb) (hA) hvA hSA hbp).mono ?_
   rintro e wy ⟨A, c, rfl, hF, hby⟩
   exact hK _ _ _ rfl hby ⟨A, c, rfl, hF.base hb.size⟩
  exact trivial
 ·
  exact (.is (.cons (fun v V V' ⟨A, c, h1, h2⟩ hb => ⟨A, c, h1, h2.below hb⟩) .nil))
 intro u w3 hb hd
 simp only [List.drop_succ_cons, List.drop_zero]
 simp only [Facts, nthR, and_true] at hd
 obtain ⟨Ap, cp, h1, fp⟩ := hd
 simp only [h1]
 clear h1
 replace bg3 := bg3.below hb lg3
 replace bg4 := bg4.below hb lg4
 replace hb0 := hb0.trans (hb.mono hb0.size)
 replace lg3 := bg3.lt
 replace lg4 := bg4.lt
 clear hb
 refine wpList_plain rfl (fun K hK => ?_)
 go_simp
 refine hK _ _ ?_
 clear hK K
 try simp only [Act.put, List.setIfInBounds_toArray, List.set_cons_zero, List.set_cons_succ]
 refine wpList_plain rfl (fun K hK => ?_)
 go_simp
 refine hK _ _ ?_
 clear hK K
 try simp only [Act.put, List.setIfInBounds_toArray, List.set_cons_zero, List.set_cons_succ]
 refine wpList_plain rfl (fun K hK => ?_)
 go_simp
 refine hK _ _ ?_
 clear hK K
 try simp only [Act.put, List.setIfInBounds_toArray, List.set_cons_zero, List.set_cons_succ]
 go_upto_region 2 with (fail)
 apply wp_plain_once (m := 5) (J := [[], [0], [1], [2], [2]]) (Je := [3, 4]) (Rs := [Is _, Is _, Is _, Is _, Is _])
 ·
  kernel_rfl
 ·
  kernel_rfl
 ·
  intro u
  simp only [List.take_succ_cons, List.take_zero, List.map_cons, List.map_nil, fillU, List.setIfInBounds_toArray, List.set_cons_zero, List.set_cons_succ, Nat.reduceAdd]
  exact rfl
 ·
  simp only [List.take_succ_cons, List.take_zero]
  refine ⟨fun u W hb hd K hK => ?_, ?_⟩
  ·
   clear hd
   rw [if_pos (by rfl)]
   refine wp_load_mid 22 (.tmp 4) rfl g4 0 rfl (B.map B8) _ (rangeAt_of_blk (bg4.below hb lg4)) Tryd.underlying22 rfl (info40.trans (by rw [List.length_map, (hB).out])) ?_
   exact hK _ _ _ rfl (Below.refl _ _) IsOut
  refine ⟨fun u W hb hd K hK => ?_, ?_⟩
  ·
   simp only [Facts, nthR, Is, and_true] at hd
   simp only [hd] at hK ⊢
   clear hd
   go_simp
   refine (curvePublic_0 B _ (hT.up hb0 hb) (hB) hSB).mono ?_
   rintro e wy ⟨rfl, hby⟩
   exact hK _ _ _ rfl hby IsOut
  refine ⟨fun u W hb hd K hK => ?_, ?_⟩
  ·
   simp only [Facts, nthR, Is, and_true] at hd
   simp only [hd] at hK ⊢
   clear hd
   go_simp
   apply hK
   ·
    simp only [Act.put, List.setIfInBounds_toArray, List.set_cons_zero, List.set_cons_succ]
    exact rfl
   ·
    exact Below.refl _ _
   ·
    exact IsOut
  refine ⟨fun u W hb hd K hK => ?_, ?_⟩
  ·
   simp only [Facts, nthR, Is, and_true] at hd
   simp only [hd] at hK ⊢
   clear hd
   go_simp
   apply hK
   ·
    simp only [Act.put, List.setIfInBounds_toArray, List.set_cons_zero, List.set_cons_succ]
    exact rfl
   ·
    exact Below.refl _ _
   ·
    exact IsOut
  refine ⟨fun u W hb hd K hK => ?_, ?_⟩
  ·
   simp only [Facts, nthR, Is, and_true] at hd
   simp only [hd] at hK ⊢
   clear hd
   go_simp
   apply hK
   ·
    simp only [Act.put, List.setIfInBounds_toArray, List.set_cons_zero, List.set_cons_succ]
    exact rfl
   ·
    exact Below.refl _ _
   ·
    exact IsOut
  exact trivial
 ·
  exact (.is (.is (.is (.is (.is .nil)))))
 intro u w4 hb hd
 simp only [List.drop_succ_cons, List.drop_zero]
 simp only [Facts, nthR, Is, and_true] at hd
 obtain ⟨h3, h4⟩ := hd
 simp only [h3, h4]
 clear h3 h4
 replace bg3 := bg3.below hb lg3
 replace bg4 := bg4.below hb lg4
 replace hb0 := hb0.trans (hb.mono hb0.size)
 replace lg3 := bg3.lt
 replace lg4 := bg4.lt
 replace fp := fp.below hb
 clear hb
 go_upto_region 3 with (fail)
 apply wp_plain_once (m := 2) (J := [[], [0]]) (Je := [1]) (Rs := [Is _, Is _])
 ·
  kernel_rfl
 ·
  kernel_rfl
 ·
  intro u
  simp only [List.take_succ_cons, List.take_zero, List.map_cons, List.map_nil, fillU, List.setIfInBounds_toArray, List.set_cons_zero, List.set_cons_succ, Nat.reduceAdd]
  exact rfl
 ·
  simp only [List.take_succ_cons, List.take_zero]
  refine ⟨fun u W hb hd K hK => ?_, ?_⟩
  ·
   clear hd
   rw [if_pos (by rfl)]
   refine wp_load_mid 22 (.tmp 3) rfl g3 0 rfl (A.map B8) _ (rangeAt_of_blk (bg3.below hb lg3)) Tryd.underlying22 rfl (info40.trans (by rw [List.length_map, (hA).out])) ?_
   exact hK _ _ _ rfl (Below.refl _ _) IsOut
  refine ⟨fun u W hb hd K hK => ?_, ?_⟩
  ·
   simp only [Facts, nthR, Is, and_true] at hd
   simp only [hd] at hK ⊢
   clear hd
   go_simp
   refine (Func1E (hA) hSA _).mono ?_
   rintro e wy ⟨rfl, hby⟩
   exact hK _ _ _ rfl hby IsOut
  exact trivial
 ·
  exact (.is (.is .nil))
 intro u w5 hb hd
 simp only [List.drop_succ_cons, List.drop_zero]
 simp only [Facts, nthR, Is, and_true] at hd
 have h1 := hd
 clear hd
 simp only [h1]
 clear h1
 replace bg3 := bg3.below hb lg3
 replace bg4 := bg4.below hb lg4
 replace hb0 := hb0.trans (hb.mono hb0.size)
 replace lg3 := bg3.lt
 replace lg4 := bg4.lt
 replace fp := fp.below hb
 clear hb
 go_upto_region 4 with (fail)
 apply wp_plain_once (m := 2) (J := [[], [0]]) (Je := [1]) (Rs := [Is _, Is _])
 ·
  kernel_rfl
 ·
  kernel_rfl
 ·
  intro u
  simp only [List.take_succ_cons, List.take_zero, List.map_cons, List.map_nil, fillU, List.setIfInBounds_toArray, List.set_cons_zero, List.set_cons_succ, Nat.reduceAdd]
  exact rfl
 ·
  simp only [List.take_succ_cons, List.take_zero]
  refine ⟨fun u W hb hd K hK => ?_, ?_⟩
  ·
   clear hd
   rw [if_pos (by rfl)]
   refine wp_load_mid 22 (.tmp 4) rfl g4 0 rfl (B.map B8) _ (rangeAt_of_blk (bg4.below hb lg4)) Tryd.underlying22 rfl (info40.trans (by rw [List.length_map, (hB).out])) ?_
   exact hK _ _ _ rfl (Below.refl _ _) IsOut
  refine ⟨fun u W hb hd K hK => ?_, ?_⟩
  ·
   simp only [Facts, nthR, Is, and_true] at hd
   simp only [hd] at hK ⊢
   clear hd
   go_simp
   refine (Func1E (hB) hSB _).mono ?_
   rintro e wy ⟨rfl, hby⟩
   exact hK _ _ _ rfl hby IsOut
  exact trivial
 ·
  exact (.is (.is .nil))
 intro u w6 hb hd
 simp only [List.drop_succ_cons, List.drop_zero]
 simp only [Facts, nthR, Is, and_true] at hd
 have h1 := hd
 clear hd
 simp only [h1]
 clear h1
 replace bg3 := bg3.below hb lg3
 replace bg4 := bg4.below hb lg4
 replace hb0 := hb0.trans (hb.mono hb0.size)
 replace lg3 := bg3.lt
 replace lg4 := bg4.lt
 replace fp := fp.below hb
 clear hb
 go_upto_region 5 with (fail)
 apply wp_plain_once (m := 6) (J := [[], [], [0, 1], [2], [3], [3]]) (Je := [4, 5]) (Rs := [Is _, Is _, Is _, Is _, Is _, Is _])
 ·
  kernel_rfl
 ·
  kernel_rfl
 ·
  intro u
  simp only [List.take_succ_cons, List.take_zero, List.map_cons, List.map_nil, fillU, List.setIfInBounds_toArray, List.set_cons_zero, List.set_cons_succ, Nat.reduceAdd]
  exact rfl
 ·
  simp only [List.take_succ_cons, List.take_zero]
  refine ⟨fun u W hb hd K hK => ?_, ?_⟩
  ·
   clear hd
   rw [if_pos (by rfl)]
   refine wp_load_mid 22 (.tmp 3) rfl g3 0 rfl (A.map B8) _ (rangeAt_of_blk (bg3.below hb lg3)) Tryd.underlying22 rfl (info40.trans (by rw [List.length_map, (hA).out])) ?_
   exact hK _ _ _ rfl (Below.refl _ _) IsOut
  refine ⟨fun u W hb hd K hK => ?_, ?_⟩
  ·
   clear hd
   go_simp
   apply hK
   ·
    simp only [Act.put, List.setIfInBounds_toArray, List.set_cons_zero, List.set_cons_succ]
    exact rfl
   ·
    exact Below.refl _ _
   ·
    exact IsOut
  refine ⟨fun u W hb hd K hK => ?_, ?_⟩
  ·
   simp only [Facts, nthR, Is, and_true] at hd
   simp only [hd] at hK ⊢
   clear hd
   go_simp
   refine (curveShared_1 A none 0 0 [] _ (hT.up hb0 hb) (hA) rfl (in_nil _ 0 (by decide) none) _ _ (Lib.hid zero32_length) (Lib.hid zero32_length) hSA hXN hYN hEN).mono ?_
   rintro e wy ⟨rfl, hby⟩
   exact hK _ _ _ rfl hby IsOut
  refine ⟨fun u W hb hd K hK => ?_, ?_⟩
  ·
   simp only [Facts, nthR, Is, and_true] at hd
   simp only [hd] at hK ⊢
   clear hd
   go_simp
   apply hK
   ·
    simp only [Act.put, List.setIfInBounds_toArray, List.set_cons_zero, List.set_cons_succ]
    exact rfl
   ·
    exact Below.refl _ _
   ·
    exact IsOut
  refine ⟨fun u W hb hd K hK => ?_, ?_⟩
  ·
   simp only [Facts, nthR, Is, and_true] at hd
   simp only [hd] at hK ⊢
   clear hd
   go_simp
   apply hK
   ·
    simp only [Act.put, List.setIfInBounds_toArray, List.set_cons_zero, List.set_cons_succ]
    exact rfl
   ·
    exact Below.refl _ _
   ·
    exact IsOut
  refine ⟨fun u W hb hd K hK => ?_, ?_⟩
  ·
   simp only [Facts, nthR, Is, and_true] at hd
   simp only [hd] at hK ⊢
   clear hd
   go_simp
   apply hK
   ·
    simp only [Act.put, List.setIfInBounds_toArray, List.set_cons_zero, List.set_cons_succ]
    exact rfl
   ·
    exact Below.refl _ _
   ·
    exact IsOut
  exact trivial
 ·
  exact (.is (.is (.is (.is (.is (.is .nil))))))
 intro u w7 hb hd
 simp only [List.drop_succ_cons, List.drop_zero]
 simp only [Facts, nthR, Is, and_true] at hd
 obtain ⟨h4, h5⟩ := hd
 simp only [h4, h5]
 clear h4 h5
 replace bg3 := bg3.below hb lg3
 replace bg4 := bg4.below hb lg4
 replace hb0 := hb0.trans (hb.mono hb0.size)
 replace lg3 := bg3.lt
 replace lg4 := bg4.lt
 replace fp := fp.below hb
 clear hb
 refine wpList_new_store rfl 22 rfl rfl (zero32.map B8) zeroB32 rfl rfl rfl (zero32.map B8) (fun _ => rfl) (fun _ => rfl) (info40.trans (by rw [List.length_map, ((Lib.hid (by decide) : Hid (zero32.length = 32))).out])) (by first | with_reducible rfl | rw [List.length_map, ((Lib.hid (by decide) : Hid (zero32.length = 32))).out, List.length_map, ((Lib.hid (by decide) : Hid (zero32.length = 32))).out] | rw [List.length_map, ((Lib.hid (by decide) : Hid (zero32.length = 32))).out]) (one8 _) ?_
 intro g13 w8 hg bg13 hb
 have og13 := Lib.hid (show w.heap.size ≤ g13 ∧ g3 < g13 ∧ g4 < g13 from ⟨Nat.le_trans hb0.size (Nat.le_of_eq hg.symm), Nat.lt_of_lt_of_le lg3 (Nat.le_of_eq hg.symm), Nat.lt_of_lt_of_le lg4 (Nat.le_of_eq hg.symm)⟩)
 clear hg
 replace bg3 := bg3.below hb lg3
 replace bg4 := bg4.below hb lg4
 replace hb0 := hb0.trans (hb.mono hb0.size)
 replace lg3 := bg3.lt
 replace lg4 := bg4.lt
 replace fp := fp.below hb
 clear hb
 have lg13 := bg13.lt
 try simp only [Act.put, List.setIfInBounds_toArray, List.set_cons_zero, List.set_cons_succ]
 go_upto_region 6 with (fail)
 apply wp_plain_once (m := 6) (J := [[], [], [0, 1], [2], [3], [3]]) (Je := [4, 5]) (Rs := [Is _, Is _, Is _, Is _, Is _, Is _])
 ·
  kernel_rfl
 ·
  kernel_rfl
 ·
  intro u
  simp only [List.take_succ_cons, List.take_zero, List.map_cons, List.map_nil, fillU, List.setIfInBounds_toArray, List.set_cons_zero, List.set_cons_succ, Nat.reduceAdd]
  exact rfl
 ·
  simp only [List.take_succ_cons, List.take_zero]
  refine ⟨fun u W hb hd K hK => ?_, ?_⟩
  ·
   clear hd
   rw [if_pos (by rfl)]
   refine wp_load_mid 22 (.tmp 4) rfl g4 0 rfl (B.map B8) _ (rangeAt_of_blk (bg4.below hb lg4)) Tryd.underlying22 rfl (info40.trans (by rw [List.length_map, (hB).out])) ?_
   exact hK _ _ _ rfl (Below.refl _ _) IsOut
  refine ⟨fun u W hb hd K hK => ?_, ?_⟩
  ·
   clear hd
   go_simp
   apply hK
   ·
    simp only [Act.put, List.setIfInBounds_toArray, List.set_cons_zero, List.set_cons_succ]
    exact rfl
   ·
    exact Below.refl _ _
   ·
    exact IsOut
  refine ⟨fun u W hb hd K hK => ?_, ?_⟩
  ·
   simp only [Facts, nthR, Is, and_true] at hd
   simp only [hd] at hK ⊢
   clear hd
   go_simp
   refine (curveShared_0 B Ap bp.length cp bp _ (hT.up hb0 hb) (hB) rfl ((fp.below hb).toIn (Nat.le_refl _)) hSB).mono ?_
   rintro e wy ⟨rfl, hby⟩
   exact hK _ _ _ rfl hby IsOut
  refine ⟨fun u W hb hd K hK => ?_, ?_⟩
  ·
   simp only [Facts, nthR, Is, and_true] at hd
   simp only [hd] at hK ⊢
   clear hd
   go_simp
   apply hK
   ·
    simp only [Act.put, List.setIfInBounds_toArray, List.set_cons_zero, List.set_cons_succ]
    exact rfl
   ·
    exact Below.refl _ _
   ·
    exact IsOut
  refine ⟨fun u W hb hd K hK => ?_, ?_⟩
  ·
   simp only [Facts, nthR, Is, and_true] at hd
   simp only [hd] at hK ⊢
   clear hd
   go_simp
   apply hK
   ·
    simp only [Act.put, List.setIfInBounds_toArray, List.set_cons_zero, List.set_cons_succ]
    exact rfl
   ·
    exact Below.refl _ _
   ·
    exact IsOut
  refine ⟨fun u W hb hd K hK => ?_, ?_⟩
  ·
   simp only [Facts, nthR, Is, and_true] at hd
   simp only [hd] at hK ⊢
   clear hd
   go_simp
   apply hK
   ·
    simp only [Act.put, List.setIfInBounds_toArray, List.set_cons_zero, List.set_cons_succ]
    exact rfl
   ·
    exact Below.refl _ _
   ·
    exact IsOut
  exact trivial
 ·
  exact (.is (.is (.is (.is (.is (.is .nil))))))
 intro u w9 hb hd
 simp only [List.drop_succ_cons, List.drop_zero]
 simp only [Facts, nthR, Is, and_true] at hd
 obtain ⟨h4, h5⟩ := hd
 simp only [h4, h5]
 clear h4 h5
 replace bg3 := bg3.below hb lg3
 replace bg4 := bg4.below hb lg4
 replace bg13 := bg13.below hb lg13
 replace hb0 := hb0.trans (hb.mono hb0.size)
 replace lg3 := bg3.lt
 replace lg4 := bg4.lt
 replace lg13 := bg13.lt
 replace fp := fp.below hb
 clear hb
 refine wpList_new_store rfl 22 rfl rfl (zero32.map B8) zeroB32 rfl rfl rfl (zero32.map B8) (fun _ => rfl) (fun _ => rfl) (info40.trans (by rw [List.length_map, ((Lib.hid (by decide) : Hid (zero32.length = 32))).out])) (by first | with_reducible rfl | rw [List.length_map, ((Lib.hid (by decide) : Hid (zero32.length = 32))).out, List.length_map, ((Lib.hid (by decide) : Hid (zero32.length = 32))).out] | rw [List.length_map, ((Lib.hid (by decide) : Hid (zero32.length = 32))).out]) (one8 _) ?_
 intro g15 w10 hg bg15 hb
 have og15 := Lib.hid (show w.heap.size ≤ g15 ∧ g3 < g15 ∧ g4 < g15 ∧ g13 < g15 from ⟨Nat.le_trans hb0.size (Nat.le_of_eq hg.symm), Nat.lt_of_lt_of_le lg3 (Nat.le_of_eq hg.symm), Nat.lt_of_lt_of_le lg4 (Nat.le_of_eq hg.symm), Nat.lt_of_lt_of_le lg13 (Nat.le_of_eq hg.symm)⟩)
 clear hg
 replace bg3 := bg3.below hb lg3
 replace bg4 := bg4.below hb lg4
 replace bg13 := bg13.below hb lg13
 replace hb0 := hb0.trans (hb.mono hb0.size)
 replace lg3 := bg3.lt
 replace lg4 := bg4.lt
 replace lg13 := bg13.lt
 replace fp := fp.below hb
 clear hb
 have lg15 := bg15.lt
 try simp only [Act.put, List.setIfInBounds_toArray, List.set_cons_zero, List.set_cons_succ]
 go_upto_region 7 with (fail)
 apply wp_plain_once (m := 22) (J := [[], [0], [1], [2], [2, 3], [2], [2, 4, 5], [2, 6], [7], [8], [8, 9], [8], [8, 10, 11], [8, 12], [13], [14], [14, 15], [14, 16], [17], [17, 18], [14, 17, 19], [14, 20]]) (Je := [21]) (Rs := [Is _, Is _, Is _, Is _, Is _, Is _, Is _, Is _, Is _, Is _, Is _, Is _, Is _, Is _, Is _, Is _, Is _, Is _, Is _, Is _, Is _, Is _])
 ·
  kernel_rfl
 ·
  kernel_rfl
 ·
  intro u
  simp only [List.take_succ_cons, List.take_zero, List.map_cons, List.map_nil, fillU, List.setIfInBounds_toArray, List.set_cons_zero, List.set_cons_succ, Nat.reduceAdd]
  exact rfl
 ·
  simp only [List.take_succ_cons, List.take_zero]
  refine ⟨fun u W hb hd K hK => ?_, ?_⟩
  ·
   clear hd
   go_simp
   refine (CurvesE (hT.up hb0 hb)).mono ?_
   rintro e wy ⟨rfl, hby⟩
   exact hK _ _ _ rfl hby IsOut
  refine ⟨fun u W hb hd K hK => ?_, ?_⟩
  ·
   simp only [Facts, nthR, Is, and_true] at hd
   simp only [hd] at hK ⊢
   clear hd
   go_simp
   apply hK
   ·
    simp only [Act.put, List.setIfInBounds_toArray, List.set_cons_zero, List.set_cons_succ]
    exact rfl
   ·
    exact Below.refl _ _
   ·
    exact IsOut
  refine ⟨fun u W hb hd K hK => ?_, ?_⟩
  ·
   simp only [Facts, nthR, Is, and_true] at hd
   simp only [hd] at hK ⊢
   clear hd
   go_simp
   apply hK
   ·
    simp only [Act.put, List.setIfInBounds_toArray, List.set_cons_zero, List.set_cons_succ]
    exact rfl
   ·
    exact Below.refl _ _
   ·
    exact IsOut
  refine ⟨fun u W hb hd K hK => ?_, ?_⟩
  ·
   simp only [Facts, nthR, Is, and_true] at hd
   simp only [hd] at hK ⊢
   clear hd
   go_simp
   apply hK
   ·
    simp only [Act.put, List.setIfInBounds_toArray, List.set_cons_zero, List.set_cons_succ]
    exact rfl
   ·
    exact Below.refl _ _
   ·
    exact IsOut
  refine ⟨fun u W hb hd K hK => ?_, ?_⟩
  ·
   simp only [Facts, nthR, Is, and_true] at hd
   simp only [hd] at hK ⊢
   clear hd
   go_simp
   apply hK
   ·
    simp only [Act.put, List.setIfInBounds_toArray, List.set_cons_zero, List.set_cons_succ]
    exact rfl
   ·
    exact Below.refl _ _
   ·
    exact IsOut
  refine ⟨fun u W hb hd K hK => ?_, ?_⟩
  ·
   simp only [Facts, nthR, Is, and_true] at hd
   simp only [hd] at hK ⊢
   clear hd
   go_simp
   apply hK
   ·
    simp only [Act.put, List.setIfInBounds_toArray, List.set_cons_zero, List.set_cons_succ]
    exact rfl
   ·
    exact Below.refl _ _
   ·
    exact IsOut
  refine ⟨fun u W hb hd K hK => ?_, ?_⟩
  ·
   simp only [Facts, nthR, Is, and_true] at hd
   simp only [hd] at hK ⊢
   clear hd
   go_simp
   apply hK
   ·
    simp only [Act.put, List.setIfInBounds_toArray, List.set_cons_zero, List.set_cons_succ]
    exact rfl
   ·
    exact Below.refl _ _
   ·
    exact IsOut
  refine ⟨fun u W hb hd K hK => ?_, ?_⟩
  ·
   simp only [Facts, nthR, Is, and_true] at hd
   simp only [hd] at hK ⊢
   clear hd
   go_simp
   apply hK
   ·
    simp only [Act.put, List.setIfInBounds_toArray, List.set_cons_zero, List.set_cons_succ]
    exact rfl
   ·
    exact Below.refl _ _
   ·
    exact IsOut
  refine ⟨fun u W hb hd K hK => ?_, ?_⟩
  ·
   simp only [Facts, nthR, Is, and_true] at hd
   simp only [hd] at hK ⊢
   clear hd
   go_simp
   apply hK
   ·
    simp only [Act.put, List.setIfInBounds_toArray, List.set_cons_zero, List.set_cons_succ]
    exact rfl
   ·
    exact Below.refl _ _
   ·
    exact IsOut
  refine ⟨fun u W hb hd K hK => ?_, ?_⟩
  ·
   simp only [Facts, nthR, Is, and_true] at hd
   simp only [hd] at hK ⊢
   clear hd
   go_simp
   apply hK
   ·
    simp only [Act.put, List.setIfInBounds_toArray, List.set_cons_zero, List.set_cons_succ]
    exact rfl
   ·
    exact Below.refl _ _
   ·
    exact IsOut
  refine ⟨fun u W hb hd K hK => ?_, ?_⟩
  ·
   simp only [Facts, nthR, Is, and_true] at hd
   simp only [hd] at hK ⊢
   clear hd
   go_simp
   apply hK
   ·
    simp only [Act.put, List.setIfInBounds_toArray, List.set_cons_zero, List.set_cons_succ]
    exact rfl
   ·
    exact Below.refl _ _
   ·
    exact IsOut
  refine ⟨fun u W hb hd K hK => ?_, ?_⟩
  ·
   simp only [Facts, nthR, Is, and_true] at hd
   simp only [hd] at hK ⊢
   clear hd
   go_simp
   apply hK
   ·
    simp only [Act.put, List.setIfInBounds_toArray, List.set_cons_zero, List.set_cons_succ]
    exact rfl
   ·
    exact Below.refl _ _
   ·
    exact IsOut
  refine ⟨fun u W hb hd K hK => ?_, ?_⟩
  ·
   simp only [Facts, nthR, Is, and_true] at hd
   simp only [hd] at hK ⊢
   clear hd
   go_simp
   apply hK
   ·
    simp only [Act.put, List.setIfInBounds_toArray, List.set_cons_zero, List.set_cons_succ]
    exact rfl
   ·
    exact Below.refl _ _
   ·
    exact IsOut
  refine ⟨fun u W hb hd K hK => ?_, ?_⟩
  ·
   simp only [Facts, nthR, Is, and_true] at hd
   simp only [hd] at hK ⊢
   clear hd
   go_simp
   apply hK
   ·
    simp only [Act.put, List.setIfInBounds_toArray, List.set_cons_zero, List.set_cons_succ]
    exact rfl
   ·
    exact Below.refl _ _
   ·
    exact IsOut
  refine ⟨fun u W hb hd K hK => ?_, ?_⟩
  ·
   simp only [Facts, nthR, Is, and_true] at hd
   simp only [hd] at hK ⊢
   clear hd
   go_simp
   apply hK
   ·
    simp only [Act.put, List.setIfInBounds_toArray, List.set_cons_zero, List.set_cons_succ]
    exact rfl
   ·
    exact Below.refl _ _
   ·
    exact IsOut
  refine ⟨fun u W hb hd K hK => ?_, ?_⟩
  ·
   simp only [Facts, nthR, Is, and_true] at hd
   simp only [hd] at hK ⊢
   clear hd
   go_simp
   apply hK
   ·
    simp only [Act.put, List.setIfInBounds_toArray, List.set_cons_zero, List.set_cons_succ]
    exact rfl
   ·
    exact Below.refl _ _
   ·
    exact IsOut
  refine ⟨fun u W hb hd K hK => ?_, ?_⟩
  ·
   simp only [Facts, nthR, Is, and_true] at hd
   simp only [hd] at hK ⊢
   clear hd
   go_simp
   apply hK
   ·
    simp only [Act.put, List.setIfInBounds_toArray, List.set_cons_zero, List.set_cons_succ]
    exact rfl
   ·
    exact Below.refl _ _
   ·
    exact IsOut
  refine ⟨fun u W hb hd K hK => ?_, ?_⟩
  ·
   simp only [Facts, nthR, Is, and_true] at hd
   simp only [hd] at hK ⊢
   clear hd
   go_simp
   apply hK
   ·
    simp only [Act.put, List.setIfInBounds_toArray, List.set_cons_zero, List.set_cons_succ]
    exact rfl
   ·
    exact Below.refl _ _
   ·
    exact IsOut
  refine ⟨fun u W hb hd K hK => ?_, ?_⟩
  ·
   simp only [Facts, nthR, Is, and_true] at hd
   simp only [hd] at hK ⊢
   clear hd
   go_simp
   apply hK
   ·
    simp only [Act.put, List.setIfInBounds_toArray, List.set_cons_zero, List.set_cons_succ]
    exact rfl
   ·
    exact Below.refl _ _
   ·
    exact IsOut
  refine ⟨fun u W hb hd K hK => ?_, ?_⟩
  ·
   simp only [Facts, nthR, Is, and_true] at hd
   simp only [hd] at hK ⊢
   clear hd
   go_simp
   apply hK
   ·
    simp only [Act.put, List.setIfInBounds_toArray, List.set_cons_zero, List.set_cons_succ]
    exact rfl
   ·
    exact Below.refl _ _
   ·
    exact IsOut
  refine ⟨fun u W hb hd K hK => ?_, ?_⟩
  ·
   simp only [Facts, nthR, Is, and_true] at hd
   simp only [hd] at hK ⊢
   clear hd
   go_simp
   apply hK
   ·
    simp only [Act.put, List.setIfInBounds_toArray, List.set_cons_zero, List.set_cons_succ]
    exact rfl
   ·
    exact Below.refl _ _
   ·
    exact IsOut
  refine ⟨fun u W hb hd K hK => ?_, ?_⟩
  ·
   simp only [Facts, nthR, Is, and_true] at hd
   simp only [hd] at hK ⊢
   clear hd
   go_simp
   apply hK
   ·
    simp only [Act.put, List.setIfInBounds_toArray, List.set_cons_zero, List.set_cons_succ]
    exact rfl
   ·
    exact Below.refl _ _
   ·
    exact IsOut
  exact trivial
 ·
  exact (.is (.is (.is (.is (.is (.is (.is (.is (.is (.is (.is (.is (.is (.is (.is (.is (.is (.is (.is (.is (.is (.is .nil))))))))))))))))))))))
 intro u w11 hb hd
 simp only [List.drop_succ_cons, List.drop_zero]
 simp only [Facts, nthR, Is, and_true] at hd
 have h21 := hd
 clear hd
 simp only [h21]
 clear h21
 replace bg3 := bg3.below hb lg3
 replace bg4 := bg4.below hb lg4
 replace bg13 := bg13.below hb lg13
 replace bg15 := bg15.below hb lg15
 replace hb0 := hb0.trans (hb.mono hb0.size)
 replace lg3 := bg3.lt
 replace lg4 := bg4.lt
 replace lg13 := bg13.lt
 replace lg15 := bg15.lt
 replace fp := fp.below hb
 clear hb
 go_upto_region 9 with (fail)
 apply wp_plain_once (m := 2) (J := [[], [0]]) (Je := [1]) (Rs := [Is _, Is _])
 ·
  kernel_rfl
 ·
  kernel_rfl
 ·
  intro u
  simp only [List.take_succ_cons, List.take_zero, List.map_cons, List.map_nil, fillU, List.setIfInBounds_toArray, List.set_cons_zero, List.set_cons_succ, Nat.reduceAdd]
  exact rfl
 ·
  simp only [List.take_succ_cons, List.take_zero]
  refine ⟨fun u W hb hd K hK => ?_, ?_⟩
  ·
   clear hd
   go_simp
   apply hK
   ·
    simp only [Act.put, List.setIfInBounds_toArray, List.set_cons_zero, List.set_cons_succ]
    exact rfl
   ·
    exact Below.refl _ _
   ·
    exact IsOut
  refine ⟨fun u W hb hd K hK => ?_, ?_⟩
  ·
   simp only [Facts, nthR, Is, and_true] at hd
   simp only [hd] at hK ⊢
   clear hd
   go_simp
   apply hK
   ·
    simp only [Act.put, List.setIfInBounds_toArray, List.set_cons_zero, List.set_cons_succ]
    exact rfl
   ·
    exact Below.refl _ _
   ·
    exact IsOut
  exact trivial
 ·
  exact (.is (.is .nil))
 intro u w12 hb hd
 simp only [List.drop_succ_cons, List.drop_zero]
 simp only [Facts, nthR, Is, and_true] at hd
 have h1 := hd
 clear hd
 simp only [h1]
 clear h1
 replace bg3 := bg3.below hb lg3
 replace bg4 := bg4.below hb lg4
 replace bg13 := bg13.below hb lg13
 replace bg15 := bg15.below hb lg15
 replace hb0 := hb0.trans (hb.mono hb0.size)
 replace lg3 := bg3.lt
 replace lg4 := bg4.lt
 replace lg13 := bg13.lt
 replace lg15 := bg15.lt
 replace fp := fp.below hb
 clear hb
 go_upto_region 11 with (fail)
 apply wp_region_once_tail (m := 23) (Z := []) (D := [[], [0], [0, 1], [0, 1, 2], [0, 1, 2, 3], [0, 1, 2, 3, 4], [0, 1, 2, 3, 4, 5], [0, 1, 2, 3, 4, 5, 6], [0, 1, 2, 3, 4, 5, 6, 7], [0, 1, 2, 3, 4, 5, 6, 7, 8], [0, 1, 2, 3, 4, 5, 6, 7, 8], [0, 1, 2, 3, 4, 5, 6, 7, 8, 9, 10], [0, 1, 2, 3, 4, 5, 6, 7, 8, 9, 10, 11], [0, 1, 2, 3, 4, 5, 6, 7, 8, 9, 10, 11, 12], [0, 1, 2, 3, 4, 5, 6, 7, 8, 9, 10, 11, 12, 13], [0, 1, 2, 3, 4, 5, 6, 7, 8, 9, 10, 11, 12, 13], [0, 1, 2, 3, 4, 5, 6, 7, 8, 9, 10, 11, 12, 13], [0, 1, 2, 3, 4, 5, 6, 7, 8, 9, 10, 11, 12, 13, 16], [0, 1, 2, 3, 4, 5, 6, 7, 8, 9, 10, 11, 12, 13, 15, 16, 17], [0, 1, 2, 3, 4, 5, 6, 7, 8, 9, 10, 11, 12, 13, 15, 16, 17, 18], [0, 1, 2, 3, 4, 5, 6, 7, 8, 9, 10, 11, 12, 13, 14, 15, 16, 17, 18, 19], [0, 1, 2, 3, 4, 5, 6, 7, 8, 9, 10, 11, 12, 13, 14, 15, 16, 17, 18, 19, 20], [0, 1, 2, 3, 4, 5, 6, 7, 8, 9, 10, 11, 12, 13, 14, 15, 16, 17, 18, 19, 20, 21]]) (J := [[], [0], [1], [1, 2], [1, 3], [4], [4, 5], [1, 4, 6], [1, 7], [8], [8], [8, 9, 10], [1, 8, 11], [1, 12], [13], [13], [13], [13, 16], [13, 15, 17], [13, 18], [13, 14, 19], [1, 13, 20], [1, 21]]) (Je := [22]) (Rs := [Is _, Is _, Is _, Is _, Is _, Is _, Is _, Is _, Is _, Is _, Is _, Is _, Is _, Is _, Is _, Is _, Is _, Is _, Is _, Is _, Is _, Is _, Is _])
 ·
  kernel_rfl
 ·
  kernel_rfl
 ·
  kernel_rfl
 ·
  kernel_rfl
 ·
  kernel_rfl
 ·
  kernel_rfl
 ·
  kernel_rfl
 ·
  exact fun h => absurd rfl h
 ·
  intro u
  simp only [List.take_succ_cons, List.take_zero, List.map_cons, List.map_nil, fillU, List.setIfInBounds_toArray, List.set_cons_zero, List.set_cons_succ, Nat.reduceAdd]
  exact rfl
 ·
  simp only [List.take_succ_cons, List.take_zero]
  refine ⟨fun u W hb hd K hK => ?_, ?_⟩
  ·
   clear hd
   go_simp
   apply hK
   ·
    simp only [Act.put, List.setIfInBounds_toArray, List.set_cons_zero, List.set_cons_succ]
    exact rfl
   ·
    exact Below.refl _ _
   ·
    exact IsOut
  refine ⟨fun u W hb hd K hK => ?_, ?_⟩
  ·
   simp only [Facts, nthR, Is, and_true] at hd
   simp only [hd] at hK ⊢
   clear hd
   go_simp
   apply hK
   ·
    simp only [Act.put, List.setIfInBounds_toArray, List.set_cons_zero, List.set_cons_succ]
    exact rfl
   ·
    exact Below.refl _ _
   ·
    exact IsOut
  refine ⟨fun u W hb hd K hK => ?_, ?_⟩
  ·
   simp only [Facts, nthR, Is, and_true] at hd
   simp only [hd] at hK ⊢
   clear hd
   go_simp
   apply hK
   ·
    simp only [Act.put, List.setIfInBounds_toArray, List.set_cons_zero, List.set_cons_succ]
    exact rfl
   ·
    exact Below.refl _ _
   ·
    exact IsOut
  refine ⟨fun u W hb hd K hK => ?_, ?_⟩
  ·
   simp only [Facts, nthR, Is, and_true] at hd
   simp only [hd] at hK ⊢
   clear hd
   go_simp
   apply hK
   ·
    simp only [Act.put, List.setIfInBounds_toArray, List.set_cons_zero, List.set_cons_succ]
    exact rfl
   ·
    exact Below.refl _ _
   ·
    exact IsOut
  refine ⟨fun u W hb hd K hK => ?_, ?_⟩
  ·
   simp only [Facts, nthR, Is, and_true] at hd
   simp only [hd] at hK ⊢
   clear hd
   go_simp
   apply hK
   ·
    simp only [Act.put, List.setIfInBounds_toArray, List.set_cons_zero, List.set_cons_succ]
    exact rfl
   ·
    exact Below.refl _ _
   ·
    exact IsOut
  refine ⟨fun u W hb hd K hK => ?_, ?_⟩
  ·
   simp only [Facts, nthR, Is, and_true] at hd
   simp only [hd] at hK ⊢
   clear hd
   go_simp
   apply hK
   ·
    simp only [Act.put, List.setIfInBounds_toArray, List.set_cons_zero, List.set_cons_succ]
    exact rfl
   ·
    exact Below.refl _ _
   ·
    exact IsOut
  refine ⟨fun u W hb hd K hK => ?_, ?_⟩
  ·
   simp only [Facts, nthR, Is, and_true] at hd
   simp only [hd] at hK ⊢
   clear hd
   go_simp
   apply hK
   ·
    simp only [Act.put, List.setIfInBounds_toArray, List.set_cons_zero, List.set_cons_succ]
    exact rfl
   ·
    exact Below.refl _ _
   ·
    exact IsOut
  refine ⟨fun u W hb hd K hK => ?_, ?_⟩
  ·
   simp only [Facts, nthR, Is, and_true] at hd
   simp only [hd] at hK ⊢
   clear hd
   go_simp
   apply hK
   ·
    simp only [Act.put, List.setIfInBounds_toArray, List.set_cons_zero, List.set_cons_succ]
    exact rfl
   ·
    exact Below.refl _ _
   ·
    exact IsOut
  refine ⟨fun u W hb hd K hK => ?_, ?_⟩
  ·
   simp only [Facts, nthR, Is, and_true] at hd
   simp only [hd] at hK ⊢
   clear hd
   go_simp
   apply hK
   ·
    simp only [Act.put, List.setIfInBounds_toArray, List.set_cons_zero, List.set_cons_succ]
    exact rfl
   ·
    exact Below.refl _ _
   ·
    exact IsOut
  refine ⟨fun u W hb hd K hK => ?_, ?_⟩
  ·
   simp only [Facts, nthR, Is, and_true] at hd
   simp only [hd] at hK ⊢
   clear hd
   go_simp
   apply hK
   ·
    simp only [Act.put, List.setIfInBounds_toArray, List.set_cons_zero, List.set_cons_succ]
    exact rfl
   ·
    exact Below.refl _ _
   ·
    exact IsOut
  refine ⟨fun u W hb hd K hK => ?_, ?_⟩
  ·
   simp only [Facts, nthR, Is, and_true] at hd
   simp only [hd] at hK ⊢
   clear hd
   go_simp
   apply hK
   ·
    simp only [Act.put, List.setIfInBounds_toArray, List.set_cons_zero, List.set_cons_succ]
    exact rfl
   ·
    exact Below.refl _ _
   ·
    exact IsOut
  refine ⟨fun u W hb hd K hK => ?_, ?_⟩
  ·
   simp only [Facts, nthR, Is, and_true] at hd
   simp only [hd] at hK ⊢
   clear hd
   go_simp
   apply hK
   ·
    simp only [Act.put, List.setIfInBounds_toArray, List.set_cons_zero, List.set_cons_succ]
    exact rfl
   ·
    exact Below.refl _ _
   ·
    exact IsOut
  refine ⟨fun u W hb hd K hK => ?_, ?_⟩
  ·
   simp only [Facts, nthR, Is, and_true] at hd
   simp only [hd] at hK ⊢
   clear hd
   go_simp
   apply hK
   ·
    simp only [Act.put, List.setIfInBounds_toArray, List.set_cons_zero, List.set_cons_succ]
    exact rfl
   ·
    exact Below.refl _ _
   ·
    exact IsOut
  refine ⟨fun u W hb hd K hK => ?_, ?_⟩
  ·
   simp only [Facts, nthR, Is, and_true] at hd
   simp only [hd] at hK ⊢
   clear hd
   go_simp
   apply hK
   ·
    simp only [Act.put, List.setIfInBounds_toArray, List.set_cons_zero, List.set_cons_succ]
    exact rfl
   ·
    exact Below.refl _ _
   ·
    exact IsOut
  refine ⟨fun u W hb hd K hK => ?_, ?_⟩
  ·
   simp only [Facts, nthR, Is, and_true] at hd
   simp only [hd] at hK ⊢
   clear hd
   go_simp
   apply hK
   ·
    simp only [Act.put, List.setIfInBounds_toArray, List.set_cons_zero, List.set_cons_succ]
    exact rfl
   ·
    exact Below.refl _ _
   ·
    exact IsOut
  refine ⟨fun u W hb hd K hK => ?_, ?_⟩
  ·
   simp only [Facts, nthR, Is, and_true] at hd
   simp only [hd] at hK ⊢
   clear hd
   go_simp
   apply hK
   ·
    simp only [Act.put, List.setIfInBounds_toArray, List.set_cons_zero, List.set_cons_succ]
    exact rfl
   ·
    exact Below.refl _ _
   ·
    exact IsOut
  refine ⟨fun u W hb hd K hK => ?_, ?_⟩
  ·
   simp only [Facts, nthR, Is, and_true] at hd
   simp only [hd] at hK ⊢
   clear hd
   go_simp
   apply hK
   ·
    simp only [Act.put, List.setIfInBounds_toArray, List.set_cons_zero, List.set_cons_succ]
    exact rfl
   ·
    exact Below.refl _ _
   ·
    exact IsOut
  refine ⟨fun u W hb hd K hK => ?_, ?_⟩
  ·
   simp only [Facts, nthR, Is, and_true] at hd
   simp only [hd] at hK ⊢
   clear hd
   go_simp
   apply hK
   ·
    simp only [Act.put, List.setIfInBounds_toArray, List.set_cons_zero, List.set_cons_succ]
    exact rfl
   ·
    exact Below.refl _ _
   ·
    exact IsOut
  refine ⟨fun u W hb hd K hK => ?_, ?_⟩
  ·
   simp only [Facts, nthR, Is, and_true] at hd
   simp only [hd] at hK ⊢
   clear hd
   go_simp
   apply hK
   ·
    simp only [Act.put, List.setIfInBounds_toArray, List.set_cons_zero, List.set_cons_succ]
    exact rfl
   ·
    exact Below.refl _ _
   ·
    exact IsOut
  refine ⟨fun u W hb hd K hK => ?_, ?_⟩
  ·
   simp only [Facts, nthR, Is, and_true] at hd
   simp only [hd] at hK ⊢
   clear hd
   go_simp
   apply hK
   ·
    simp only [Act.put, List.setIfInBounds_toArray, List.set_cons_zero, List.set_cons_succ]
    exact rfl
   ·
    exact Below.refl _ _
   ·
    exact IsOut
  refine ⟨fun u W hb hd K hK => ?_, ?_⟩
  ·
   simp only [Facts, nthR, Is, and_true] at hd
   simp only [hd] at hK ⊢
   clear hd
   go_simp
   apply hK
   ·
    simp only [Act.put, List.setIfInBounds_toArray, List.set_cons_zero, List.set_cons_succ]
    exact rfl
   ·
    exact Below.refl _ _
   ·
    exact IsOut
  refine ⟨fun u W hb hd K hK => ?_, ?_⟩
  ·
   simp only [Facts, nthR, Is, and_true] at hd
   simp only [hd] at hK ⊢
   clear hd
   go_simp
   apply hK
   ·
    simp only [Act.put, List.setIfInBounds_toArray, List.set_cons_zero, List.set_cons_succ]
    exact rfl
   ·
    exact Below.refl _ _
   ·
    exact IsOut
  refine ⟨fun u W hb hd K hK => ?_, ?_⟩
  ·
   simp only [Facts, nthR, Is, and_true] at hd
   simp only [hd] at hK ⊢
   clear hd
   go_simp
   apply hK
   ·
    simp only [Act.put, List.setIfInBounds_toArray, List.set_cons_zero, List.set_cons_succ]
    exact rfl
   ·
    exact Below.refl _ _
   ·
    exact IsOut
  exact trivial
 ·
  skip
  exact trivial
 ·
  exact (.is (.is (.is (.is (.is (.is (.is (.is (.is (.is (.is (.is (.is (.is (.is (.is (.is (.is (.is (.is (.is (.is (.is .nil)))))))))))))))))))))))
 intro u w13 hb hd
 simp only [List.drop_succ_cons, List.drop_zero]
 simp only [Facts, nthR, Is, and_true] at hd
 have h22 := hd
 clear hd
 simp only [h22]
 clear h22
 replace bg3 := bg3.below hb lg3
 replace bg4 := bg4.below hb lg4
 replace bg13 := bg13.below hb lg13
 replace bg15 := bg15.below hb lg15
 replace hb0 := hb0.trans (hb.mono hb0.size)
 replace lg3 := bg3.lt
 replace lg4 := bg4.lt
 replace lg13 := bg13.lt
 replace lg15 := bg15.lt
 replace fp := fp.below hb
 clear hb
 go_upto_region 13 with (fail)
 apply wp_plain_once (m := 5) (J := [[], [0], [1], [2], [2]]) (Je := [3, 4]) (Rs := [Is _, Is _, Is _, Is _, Is _])
 ·
  kernel_rfl
 ·
  kernel_rfl
 ·
  intro u
  simp only [List.take_succ_cons, List.take_zero, List.map_cons, List.map_nil, fillU, List.setIfInBounds_toArray, List.set_cons_zero, List.set_cons_succ, Nat.reduceAdd]
  exact rfl
 ·
  simp only [List.take_succ_cons, List.take_zero]
  refine ⟨fun u W hb hd K hK => ?_, ?_⟩
  ·
   clear hd
   go_simp
   apply hK
   ·
    simp only [Act.put, List.setIfInBounds_toArray, List.set_cons_zero, List.set_cons_succ]
    exact rfl
   ·
    exact Below.refl _ _
   ·
    exact IsOut
  refine ⟨fun u W hb hd K hK => ?_, ?_⟩
  ·
   simp only [Facts, nthR, Is, and_true] at hd
   simp only [hd] at hK ⊢
   clear hd
   go_simp
   refine (ReadH hXj hYj hEj hN (hI.up (hb0.trans (hb.mono hb0.size))) (hT.up hb0 hb)).mono ?_
   rintro e wy ⟨rfl, hby⟩
   exact hK _ _ _ rfl hby IsOut
  refine ⟨fun u W hb hd K hK => ?_, ?_⟩
  ·
   simp only [Facts, nthR, Is, and_true] at hd
   simp only [hd] at hK ⊢
   clear hd
   go_simp
   apply hK
   ·
    simp only [Act.put, List.setIfInBounds_toArray, List.set_cons_zero, List.set_cons_succ]
    exact rfl
   ·
    exact Below.refl _ _
   ·
    exact IsOut
  refine ⟨fun u W hb hd K hK => ?_, ?_⟩
  ·
   simp only [Facts, nthR, Is, and_true] at hd
   simp only [hd] at hK ⊢
   clear hd
   go_simp
   apply hK
   ·
    simp only [Act.put, List.setIfInBounds_toArray, List.set_cons_zero, List.set_cons_succ]
    exact rfl
   ·
    exact Below.refl _ _
   ·
    exact IsOut
  refine ⟨fun u W hb hd K hK => ?_, ?_⟩
  ·
   simp only [Facts, nthR, Is, and_true] at hd
   simp only [hd] at hK ⊢
   clear hd
   go_simp
   apply hK
   ·
    simp only [Act.put, List.setIfInBounds_toArray, List.set_cons_zero, List.set_cons_succ]
    exact rfl
   ·
    exact Below.refl _ _
   ·
    exact IsOut
  exact trivial
 ·
  exact (.is (.is (.is (.is (.is .nil)))))
 intro u w14 hb hd
 simp only [List.drop_succ_cons, List.drop_zero]
 simp only [Facts, nthR, Is, and_true] at hd
 obtain ⟨h3, h4⟩ := hd
 simp only [h3, h4]
 clear h3 h4
 replace bg3 := bg3.below hb lg3
 replace bg4 := bg4.below hb lg4
 replace bg13 := bg13.below hb lg13
 replace bg15 := bg15.below hb lg15
 replace hb0 := hb0.trans (hb.mono hb0.size)
 replace lg3 := bg3.lt
 replace lg4 := bg4.lt
 replace lg13 := bg13.lt
 replace lg15 := bg15.lt
 replace fp := fp.below hb
 clear hb
 refine wpList_new_store rfl 24 rfl rfl (ptV none) zeroPt rfl rfl rfl (ptC X Y) (fun _ => rfl) (fun _ => rfl) (infoPt.trans (by rw [ptC_length (hXl).out (hYl).out])) (by first | with_reducible rfl | rw [ptV_length, ptC_length (hXl).out (hYl).out] | rw [ptV_length]) (onePt _ _) ?_
 intro g17 w15 hg bg17 hb
 have og17 := Lib.hid (show w.heap.size ≤ g17 ∧ g3 < g17 ∧ g4 < g17 ∧ g13 < g17 ∧ g15 < g17 from ⟨Nat.le_trans hb0.size (Nat.le_of_eq hg.symm), Nat.lt_of_lt_of_le lg3 (Nat.le_of_eq hg.symm), Nat.lt_of_lt_of_le lg4 (Nat.le_of_eq hg.symm), Nat.lt_of_lt_of_le lg13 (Nat.le_of_eq hg.symm), Nat.lt_of_lt_of_le lg15 (Nat.le_of_eq hg.symm)⟩)
 clear hg
 replace bg3 := bg3.below hb lg3
 replace bg4 := bg4.below hb lg4
 replace bg13 := bg13.below hb lg13
 replace bg15 := bg15.below hb lg15
 replace hb0 := hb0.trans (hb.mono hb0.size)
 replace lg3 := bg3.lt
 replace lg4 := bg4.lt
 replace lg13 := bg13.lt
 replace lg15 := bg15.lt
 replace fp := fp.below hb
 clear hb
 have lg17 := bg17.lt
 try simp only [Act.put, List.setIfInBounds_toArray, List.set_cons_zero, List.set_cons_succ]
 go_upto_region 14 with (fail)
 apply wp_plain_once (m := 2) (J := [[], [0]]) (Je := [1]) (Rs := [Is _, Is _])
 ·
  kernel_rfl
 ·
  kernel_rfl
 ·
  intro u
  simp only [List.take_succ_cons, List.take_zero, List.map_cons, List.map_nil, fillU, List.setIfInBounds_toArray, List.set_cons_zero, List.set_cons_succ, Nat.reduceAdd]
  exact rfl
 ·
  simp only [List.take_succ_cons, List.take_zero]
  refine ⟨fun u W hb hd K hK => ?_, ?_⟩
  ·
   clear hd
   go_simp
   apply hK
   ·
    simp only [Act.put, List.setIfInBounds_toArray, List.set_cons_zero, List.set_cons_succ]
    exact rfl
   ·
    exact Below.refl _ _
   ·
    exact IsOut
  refine ⟨fun u W hb hd K hK => ?_, ?_⟩
  ·
   simp only [Facts, nthR, Is, and_true] at hd
   simp only [hd] at hK ⊢
   clear hd
   go_simp
   apply hK
   ·
    simp only [Act.put, List.setIfInBounds_toArray, List.set_cons_zero, List.set_cons_succ]
    exact rfl
   ·
    exact Below.refl _ _
   ·
    exact IsOut
  exact trivial
 ·
  exact (.is (.is .nil))
 intro u w16 hb hd
 simp only [List.drop_succ_cons, List.drop_zero]
 simp only [Facts, nthR, Is, and_true] at hd
 have h1 := hd
 clear hd
 simp only [h1]
 clear h1
 replace bg3 := bg3.below hb lg3
 replace bg4 := bg4.below hb lg4
 replace bg13 := bg13.below hb lg13
 replace bg15 := bg15.below hb lg15
 replace bg17 := bg17.below hb lg17
 replace hb0 := hb0.trans (hb.mono hb0.size)
 replace lg3 := bg3.lt
 replace lg4 := bg4.lt
 replace lg13 := bg13.lt
 replace lg15 := bg15.lt
 replace lg17 := bg17.lt
 replace fp := fp.below hb
 clear hb
 go_upto_region 17 with (fail)
 refine wp_region_lit ?_
 go_wp2_with (fail)
 refine bodyPost_ret (results_tmp Tryd.results8 _ _ _) rfl ?_
 exact ⟨rfl, hb0⟩
set_option maxRecDepth 100000 in
set_option maxHeartbeats 4000000 in
theorem curveShares_110 (A B : List UInt8) (A3 : Option Addr) (n3 c3 : Nat) (xs : List UInt8) (w : World) (hT : TabsC w) (hA : Hid (A.length = 32)) (hB : Hid (B.length = 32)) (hN : xs.length = n3) (hI : In w w.heap.size A3 c3 xs) (hSA : Hid (secretB A = true)) (hSB : Hid (secretB B = true)) (hok : Hid (okR xs = false)) : Calls Tryd.prog 8 #[.agg (A.map B8).toArray, .agg (B.map B8).toArray, .slice A3 n3 c3] w fun e w' => e = .returned (.bool true) ∧ Below w.heap.size w w' := by
 go_enter Tryd.func8, Tryd.ntmps8
 have hb0 : Below w.heap.size w w := Below.refl _ _
 obtain ⟨vA, hvA⟩ : ∃ s, Hid ((ofTo A 32).val = s) := ⟨_, Lib.hid rfl⟩
 obtain ⟨bp, hbp⟩ : ∃ s, Hid (s = wrB (xB (mulG vA)) (yB (mulG vA))) := ⟨_, Lib.hid rfl⟩
 obtain ⟨Pp, hPp⟩ : ∃ s : Pt, Hid (s = mulG vA) := ⟨_, Lib.hid rfl⟩
 obtain ⟨hXp, hYp, hEp, hSpp⟩ := pub_row hSA hvA hPp hbp
 replace hXp := Lib.hid hXp
 replace hYp := Lib.hid hYp
 replace hEp := Lib.hid hEp
 replace hSpp := Lib.hid hSpp
 obtain ⟨vB, hvB⟩ : ∃ s, Hid ((ofTo B 32).val = s) := ⟨_, Lib.hid rfl⟩
 obtain ⟨bq, hbq⟩ : ∃ s, Hid (s = wrB (xB (mulG vB)) (yB (mulG vB))) := ⟨_, Lib.hid rfl⟩
 obtain ⟨Pq, hPq⟩ : ∃ s : Pt, Hid (s = mulG vB) := ⟨_, Lib.hid rfl⟩
 obtain ⟨hXq, hYq, hEq, hSpq⟩ := pub_row hSB hvB hPq hbq
 replace hXq := Lib.hid hXq
 replace hYq := Lib.hid hYq
 replace hEq := Lib.hid hEq
 replace hSpq := Lib.hid hSpq
 obtain ⟨X, hXj⟩ : ∃ s, Hid (rdX xs = s) := ⟨_, Lib.hid rfl⟩
 obtain ⟨Y, hYj⟩ : ∃ s, Hid (rdY xs = s) := ⟨_, Lib.hid rfl⟩
 have hXl : Hid (X.length = 32) := Lib.hid (by rw [← hXj.out]; exact rdX_length _)
 have hYl : Hid (Y.length = 32) := Lib.hid (by rw [← hYj.out]; exact rdY_length _)
 obtain ⟨hXJ, hYJ, hEJ⟩ := rd_not hok.out
 have hEj := Lib.hid hEJ
 replace hXJ := Lib.hid hXJ
 replace hYJ := Lib.hid hYJ
 replace hEJ := Lib.hid hEJ
 go_upto_region 0 with (fail)
 refine wp_region_lit ?_
 refine wpList_box_blk rfl 22 (.tmp 0) rfl (A.map B8) rfl ?_
 intro g3 w1 hg bg3 hb
 have og3 := Lib.hid (show w.heap.size ≤ g3 from Nat.le_trans hb0.size (Nat.le_of_eq hg.symm))
 clear hg
 replace hb0 := hb0.trans (hb.mono hb0.size)
 clear hb
 have lg3 := bg3.lt
 try simp only [Act.put, List.setIfInBounds_toArray, List.set_cons_zero, List.set_cons_succ]
 refine wpList_box_blk rfl 22 (.tmp 1) rfl (B.map B8) rfl ?_
 intro g4 w2 hg bg4 hb
 have og4 := Lib.hid (show w.heap.size ≤ g4 ∧ g3 < g4 from ⟨Nat.le_trans hb0.size (Nat.le_of_eq hg.symm), Nat.lt_of_lt_of_le lg3 (Nat.le_of_eq hg.symm)⟩)
 clear hg
 replace bg3 := bg3.below hb lg3
 replace hb0 := hb0.trans (hb.mono hb0.size)
 replace lg3 := bg3.lt
 clear hb
 have lg4 := bg4.lt
 try simp only [Act.put, List.setIfInBounds_toArray, List.set_cons_zero, List.set_cons_succ]
 go_upto_region 1 with (fail)
 apply wp_plain_once (m := 2) (J := [[], [0]]) (Je := [1]) (Rs := [Is _, fun v V => ∃ A c, v = .tuple #[.slice A bp.length c, .int .i64 0] ∧ Buf V w2.heap.size A bp.length c bp])
 ·
  kernel_rfl
 ·
  kernel_rfl
 ·
  intro u
  simp only [List.take_succ_cons, List.take_zero, List.map_cons, List.map_nil, fillU, List.setIfInBounds_toArray, List.set_cons_zero, List.set_cons_succ, Nat.reduceAdd]
  exact rfl
 ·
  simp only [List.take_succ_cons, List.take_zero]
  refine ⟨fun u W hb hd K hK => ?_, ?_⟩
  ·
   clear hd
   rw [if_pos (by rfl)]
   refine wp_load_mid 22 (.tmp 3) rfl g3 0 rfl (A.map B8) _ (rangeAt_of_blk (bg3.below hb lg3)) Tryd.underlying22 rfl (info40.trans (by rw [List.length_map, (hA).out])) ?_
   exact hK _ _ _ rfl (Below.refl _ _) IsOut
  refine ⟨fun u W hb hd K hK => ?_, ?_⟩
  ·
   simp only [Facts, nthR, Is, and_true] at hd
   simp only [hd] at hK ⊢
   clear hd
   go_simp
   refine (curvePublic_1 A bp vA _ (hT.up hb0 hb) (hA) hvA hSA hbp).mono ?_
   rintro e wy ⟨A, c, rfl, hF, hby⟩
   exact hK _ _ _ rfl hby ⟨A, c, rfl, hF.base hb.size⟩
  exact trivial
 ·
  exact (.is (.cons (fun v V V' ⟨A, c, h1, h2⟩ hb => ⟨A, c, h1, h2.below hb⟩) .nil))
 intro u w3 hb hd
 simp only [List.drop_succ_cons, List.drop_zero]
 simp only [Facts, nthR, and_true] at hd
 obtain ⟨Ap, cp, h1, fp⟩ := hd
 simp only [h1]
 clear h1
 replace bg3 := bg3.below hb lg3
 replace bg4 := bg4.below hb lg4
 replace hb0 := hb0.trans (hb.mono hb0.size)
 replace lg3 := bg3.lt
 replace lg4 := bg4.lt
 clear hb
 refine wpList_plain rfl (fun K hK => ?_)
 go_simp
 refine hK _ _ ?_
 clear hK K
 try simp only [Act.put, List.setIfInBounds_toArray, List.set_cons_zero, List.set_cons_succ]
 refine wpList_plain rfl (fun K hK => ?_)
 go_simp
 refine hK _ _ ?_
 clear hK K
 try simp only [Act.put, List.setIfInBounds_toArray, List.set_cons_zero, List.set_cons_succ]
 refine wpList_plain rfl (fun K hK => ?_)
 go_simp
 refine hK _ _ ?_
 clear hK K
 try simp only [Act.put, List.setIfInBounds_toArray, List.set_cons_zero, List.set_cons_succ]
 go_upto_region 2 with (fail)
 apply wp_plain_once (m := 2) (J := [[], [0]]) (Je := [1]) (Rs := [Is _, fun v V => ∃ A c, v = .tuple #[.slice A bq.length c, .int .i64 0] ∧ Buf V w3.heap.size A bq.length c bq])
 ·
  kernel_rfl
 ·
  kernel_rfl
 ·
  intro u
  simp only [List.take_succ_cons, List.take_zero, List.map_cons, List.map_nil, fillU, List.setIfInBounds_toArray, List.set_cons_zero, List.set_cons_succ, Nat.reduceAdd]
  exact rfl
 ·
  simp only [List.take_succ_cons, List.take_zero]
  refine ⟨fun u W hb hd K hK => ?_, ?_⟩
  ·
   clear hd
   rw [if_pos (by rfl)]
   refine wp_load_mid 22 (.tmp 4) rfl g4 0 rfl (B.map B8) _ (rangeAt_of_blk (bg4.below hb lg4)) Tryd.underlying22 rfl (info40.trans (by rw [List.length_map, (hB).out])) ?_
   exact hK _ _ _ rfl (Below.refl _ _) IsOut
  refine ⟨fun u W hb hd K hK => ?_, ?_⟩
  ·
   simp only [Facts, nthR, Is, and_true] at hd
   simp only [hd] at hK ⊢
   clear hd
   go_simp
   refine (curvePublic_1 B bq vB _ (hT.up hb0 hb) (hB) hvB hSB hbq).mono ?_
   rintro e wy ⟨A, c, rfl, hF, hby⟩
   exact hK _ _ _ rfl hby ⟨A, c, rfl, hF.base hb.size⟩
  exact trivial
 ·
  exact (.is (.cons (fun v V V' ⟨A, c, h1, h2⟩ hb => ⟨A, c, h1, h2.below hb⟩) .nil))
 intro u w4 hb hd
 simp only [List.drop_succ_cons, List.drop_zero]
 simp only [Facts, nthR, and_true] at hd
 obtain ⟨Aq, cq, h1, fq⟩ := hd
 simp only [h1]
 clear h1
 replace bg3 := bg3.below hb lg3
 replace bg4 := bg4.below hb lg4
 replace hb0 := hb0.trans (hb.mono hb0.size)
 replace lg3 := bg3.lt
 replace lg4 := bg4.lt
 replace fp := fp.below hb
 clear hb
 refine wpList_plain rfl (fun K hK => ?_)
 go_simp
 refine hK _ _ ?_
 clear hK K
 try simp only [Act.put, List.setIfInBounds_toArray, List.set_cons_zero, List.set_cons_succ]
 refine wpList_plain rfl (fun K hK => ?_)
 go_simp
 refine hK _ _ ?_
 clear hK K
 try simp only [Act.put, List.setIfInBounds_toArray, List.set_cons_zero, List.set_cons_succ]
 refine wpList_plain rfl (fun K hK => ?_)
 go_simp
 refine hK _ _ ?_
 clear hK K
 try simp only [Act.put, List.setIfInBounds_toArray, List.set_cons_zero, List.set_cons_succ]
 go_upto_region 3 with (fail)
 apply wp_plain_once (m := 2) (J := [[], [0]]) (Je := [1]) (Rs := [Is _, Is _])
 ·
  kernel_rfl
 ·
  kernel_rfl
 ·
  intro u
  simp only [List.take_succ_cons, List.take_zero, List.map_cons, List.map_nil, fillU, List.setIfInBounds_toArray, List.set_cons_zero, List.set_cons_succ, Nat.reduceAdd]
  exact rfl
 ·
  simp only [List.take_succ_cons, List.take_zero]
  refine ⟨fun u W hb hd K hK => ?_, ?_⟩
  ·
   clear hd
   rw [if_pos (by rfl)]
   refine wp_load_mid 22 (.tmp 3) rfl g3 0 rfl (A.map B8) _ (rangeAt_of_blk (bg3.below hb lg3)) Tryd.underlying22 rfl (info40.trans (by rw [List.length_map, (hA).out])) ?_
   exact hK _ _ _ rfl (Below.refl _ _) IsOut
  refine ⟨fun u W hb hd K hK => ?_, ?_⟩
  ·
   simp only [Facts, nthR, Is, and_true] at hd
   simp only [hd] at hK ⊢
   clear hd
   go_simp
   refine (Func1E (hA) hSA _).mono ?_
   rintro e wy ⟨rfl, hby⟩
   exact hK _ _ _ rfl hby IsOut
  exact trivial
 ·
  exact (.is (.is .nil))
 intro u w5 hb hd
 simp only [List.drop_succ_cons, List.drop_zero]
 simp only [Facts, nthR, Is, and_true] at hd
 have h1 := hd
 clear hd
 simp only [h1]
 clear h1
 replace bg3 := bg3.below hb lg3
 replace bg4 := bg4.below hb lg4
 replace hb0 := hb0.trans (hb.mono hb0.size)
 replace lg3 := bg3.lt
 replace lg4 := bg4.lt
 replace fp := fp.below hb
 replace fq := fq.below hb
 clear hb
 go_upto_region 4 with (fail)
 apply wp_plain_once (m := 2) (J := [[], [0]]) (Je := [1]) (Rs := [Is _, Is _])
 ·
  kernel_rfl
 ·
  kernel_rfl
 ·
  intro u
  simp only [List.take_succ_cons, List.take_zero, List.map_cons, List.map_nil, fillU, List.setIfInBounds_toArray, List.set_cons_zero, List.set_cons_succ, Nat.reduceAdd]
  exact rfl
 ·
  simp only [List.take_succ_cons, List.take_zero]
  refine ⟨fun u W hb hd K hK => ?_, ?_⟩
  ·
   clear hd
   rw [if_pos (by rfl)]
   refine wp_load_mid 22 (.tmp 4) rfl g4 0 rfl (B.map B8) _ (rangeAt_of_blk (bg4.below hb lg4)) Tryd.underlying22 rfl (info40.trans (by rw [List.length_map, (hB).out])) ?_
   exact hK _ _ _ rfl (Below.refl _ _) IsOut
  refine ⟨fun u W hb hd K hK => ?_, ?_⟩
  ·
   simp only [Facts, nthR, Is, and_true] at hd
   simp only [hd] at hK ⊢
   clear hd
   go_simp
   refine (Func1E (hB) hSB _).mono ?_
   rintro e wy ⟨rfl, hby⟩
   exact hK _ _ _ rfl hby IsOut
  exact trivial
 ·
  exact (.is (.is .nil))
 intro u w6 hb hd
 simp only [List.drop_succ_cons, List.drop_zero]
 simp only [Facts, nthR, Is, and_true] at hd
 have h1 := hd
 clear hd
 simp only [h1]
 clear h1
 replace bg3 := bg3.below hb lg3
 replace bg4 := bg4.below hb lg4
 replace hb0 := hb0.trans (hb.mono hb0.size)
 replace lg3 := bg3.lt
 replace lg4 := bg4.lt
 replace fp := fp.below hb
 replace fq := fq.below hb
 clear hb
 go_upto_region 5 with (fail)
 obtain ⟨p38, hp38⟩ : ∃ s : Pt, Hid (s = mulG (vA * vB)) := ⟨_, Lib.hid rfl⟩
 apply wp_plain_once (m := 6) (J := [[], [], [0, 1], [2], [3], [3]]) (Je := [4, 5]) (Rs := [Is _, Is _, Is _, Is _, Is _, Is _])
 ·
  kernel_rfl
 ·
  kernel_rfl
 ·
  intro u
  simp only [List.take_succ_cons, List.take_zero, List.map_cons, List.map_nil, fillU, List.setIfInBounds_toArray, List.set_cons_zero, List.set_cons_succ, Nat.reduceAdd]
  exact rfl
 ·
  simp only [List.take_succ_cons, List.take_zero]
  refine ⟨fun u W hb hd K hK => ?_, ?_⟩
  ·
   clear hd
   rw [if_pos (by rfl)]
   refine wp_load_mid 22 (.tmp 3) rfl g3 0 rfl (A.map B8) _ (rangeAt_of_blk (bg3.below hb lg3)) Tryd.underlying22 rfl (info40.trans (by rw [List.length_map, (hA).out])) ?_
   exact hK _ _ _ rfl (Below.refl _ _) IsOut
  refine ⟨fun u W hb hd K hK => ?_, ?_⟩
  ·
   clear hd
   go_simp
   apply hK
   ·
    simp only [Act.put, List.setIfInBounds_toArray, List.set_cons_zero, List.set_cons_succ]
    exact rfl
   ·
    exact Below.refl _ _
   ·
    exact IsOut
  refine ⟨fun u W hb hd K hK => ?_, ?_⟩
  ·
   simp only [Facts, nthR, Is, and_true] at hd
   simp only [hd] at hK ⊢
   clear hd
   go_simp
   refine (curveShared_2 A Aq bq.length cq bq _ (hT.up hb0 hb) (hA) rfl ((fq.below hb).toIn (Nat.le_refl _)) _ _ (Lib.hid (xB_length Pq)) (Lib.hid (yB_length Pq)) hSA hXq hYq hEq vB vA hvA hSpq p38 hp38).mono ?_
   rintro e wy ⟨rfl, hby⟩
   exact hK _ _ _ rfl hby IsOut
  refine ⟨fun u W hb hd K hK => ?_, ?_⟩
  ·
   simp only [Facts, nthR, Is, and_true] at hd
   simp only [hd] at hK ⊢
   clear hd
   go_simp
   apply hK
   ·
    simp only [Act.put, List.setIfInBounds_toArray, List.set_cons_zero, List.set_cons_succ]
    exact rfl
   ·
    exact Below.refl _ _
   ·
    exact IsOut
  refine ⟨fun u W hb hd K hK => ?_, ?_⟩
  ·
   simp only [Facts, nthR, Is, and_true] at hd
   simp only [hd] at hK ⊢
   clear hd
   go_simp
   apply hK
   ·
    simp only [Act.put, List.setIfInBounds_toArray, List.set_cons_zero, List.set_cons_succ]
    exact rfl
   ·
    exact Below.refl _ _
   ·
    exact IsOut
  refine ⟨fun u W hb hd K hK => ?_, ?_⟩
  ·
   simp only [Facts, nthR, Is, and_true] at hd
   simp only [hd] at hK ⊢
   clear hd
   go_simp
   apply hK
   ·
    simp only [Act.put, List.setIfInBounds_toArray, List.set_cons_zero, List.set_cons_succ]
    exact rfl
   ·
    exact Below.refl _ _
   ·
    exact IsOut
  exact trivial
 ·
  exact (.is (.is (.is (.is (.is (.is .nil))))))
 intro u w7 hb hd
 simp only [List.drop_succ_cons, List.drop_zero]
 simp only [Facts, nthR, Is, and_true] at hd
 obtain ⟨h4, h5⟩ := hd
 simp only [h4, h5]
 clear h4 h5
 replace bg3 := bg3.below hb lg3
 replace bg4 := bg4.below hb lg4
 replace hb0 := hb0.trans (hb.mono hb0.size)
 replace lg3 := bg3.lt
 replace lg4 := bg4.lt
 replace fp := fp.below hb
 replace fq := fq.below hb
 clear hb
 refine wpList_new_store rfl 22 rfl rfl (zero32.map B8) zeroB32 rfl rfl rfl ((xB p38).map B8) (fun _ => rfl) (fun _ => rfl) (info40.trans (by rw [List.length_map, (Lib.hid (xB_length p38)).out])) (by first | with_reducible rfl | rw [List.length_map, ((Lib.hid (by decide) : Hid (zero32.length = 32))).out, List.length_map, (Lib.hid (xB_length p38)).out] | rw [List.length_map, ((Lib.hid (by decide) : Hid (zero32.length = 32))).out]) (one8 _) ?_
 intro g13 w8 hg bg13 hb
 have og13 := Lib.hid (show w.heap.size ≤ g13 ∧ g3 < g13 ∧ g4 < g13 from ⟨Nat.le_trans hb0.size (Nat.le_of_eq hg.symm), Nat.lt_of_lt_of_le lg3 (Nat.le_of_eq hg.symm), Nat.lt_of_lt_of_le lg4 (Nat.le_of_eq hg.symm)⟩)
 clear hg
 replace bg3 := bg3.below hb lg3
 replace bg4 := bg4.below hb lg4
 replace hb0 := hb0.trans (hb.mono hb0.size)
 replace lg3 := bg3.lt
 replace lg4 := bg4.lt
 replace fp := fp.below hb
 replace fq := fq.below hb
 clear hb
 have lg13 := bg13.lt
 try simp only [Act.put, List.setIfInBounds_toArray, List.set_cons_zero, List.set_cons_succ]
 go_upto_region 6 with (fail)
 obtain ⟨p44, hp44⟩ : ∃ s : Pt, Hid (s = mulG (vB * vA)) := ⟨_, Lib.hid rfl⟩
 apply wp_plain_once (m := 6) (J := [[], [], [0, 1], [2], [3], [3]]) (Je := [4, 5]) (Rs := [Is _, Is _, Is _, Is _, Is _, Is _])
 ·
  kernel_rfl
 ·
  kernel_rfl
 ·
  intro u
  simp only [List.take_succ_cons, List.take_zero, List.map_cons, List.map_nil, fillU, List.setIfInBounds_toArray, List.set_cons_zero, List.set_cons_succ, Nat.reduceAdd]
  exact rfl
 ·
  simp only [List.take_succ_cons, List.take_zero]
  refine ⟨fun u W hb hd K hK => ?_, ?_⟩
  ·
   clear hd
   rw [if_pos (by rfl)]
   refine wp_load_mid 22 (.tmp 4) rfl g4 0 rfl (B.map B8) _ (rangeAt_of_blk (bg4.below hb lg4)) Tryd.underlying22 rfl (info40.trans (by rw [List.length_map, (hB).out])) ?_
   exact hK _ _ _ rfl (Below.refl _ _) IsOut
  refine ⟨fun u W hb hd K hK => ?_, ?_⟩
  ·
   clear hd
   go_simp
   apply hK
   ·
    simp only [Act.put, List.setIfInBounds_toArray, List.set_cons_zero, List.set_cons_succ]
    exact rfl
   ·
    exact Below.refl _ _
   ·
    exact IsOut
  refine ⟨fun u W hb hd K hK => ?_, ?_⟩
  ·
   simp only [Facts, nthR, Is, and_true] at hd
   simp only [hd] at hK ⊢
   clear hd
   go_simp
   refine (curveShared_2 B Ap bp.length cp bp _ (hT.up hb0 hb) (hB) rfl ((fp.below hb).toIn (Nat.le_refl _)) _ _ (Lib.hid (xB_length Pp)) (Lib.hid (yB_length Pp)) hSB hXp hYp hEp vA vB hvB hSpp p44 hp44).mono ?_
   rintro e wy ⟨rfl, hby⟩
   exact hK _ _ _ rfl hby IsOut
  refine ⟨fun u W hb hd K hK => ?_, ?_⟩
  ·
   simp only [Facts, nthR, Is, and_true] at hd
   simp only [hd] at hK ⊢
   clear hd
   go_simp
   apply hK
   ·
    simp only [Act.put, List.setIfInBounds_toArray, List.set_cons_zero, List.set_cons_succ]
    exact rfl
   ·
    exact Below.refl _ _
   ·
    exact IsOut
  refine ⟨fun u W hb hd K hK => ?_, ?_⟩
  ·
   simp only [Facts, nthR, Is, and_true] at hd
   simp only [hd] at hK ⊢
   clear hd
   go_simp
   apply hK
   ·
    simp only [Act.put, List.setIfInBounds_toArray, List.set_cons_zero, List.set_cons_succ]
    exact rfl
   ·
    exact Below.refl _ _
   ·
    exact IsOut
  refine ⟨fun u W hb hd K hK => ?_, ?_⟩
  ·
   simp only [Facts, nthR, Is, and_true] at hd
   simp only [hd] at hK ⊢
   clear hd
   go_simp
   apply hK
   ·
    simp only [Act.put, List.setIfInBounds_toArray, List.set_cons_zero, List.set_cons_succ]
    exact rfl
   ·
    exact Below.refl _ _
   ·
    exact IsOut
  exact trivial
 ·
  exact (.is (.is (.is (.is (.is (.is .nil))))))
 intro u w9 hb hd
 simp only [List.drop_succ_cons, List.drop_zero]
 simp only [Facts, nthR, Is, and_true] at hd
 obtain ⟨h4, h5⟩ := hd
 simp only [h4, h5]
 clear h4 h5
 replace bg3 := bg3.below hb lg3
 replace bg4 := bg4.below hb lg4
 replace bg13 := bg13.below hb lg13
 replace hb0 := hb0.trans (hb.mono hb0.size)
 replace lg3 := bg3.lt
 replace lg4 := bg4.lt
 replace lg13 := bg13.lt
 replace fp := fp.below hb
 replace fq := fq.below hb
 clear hb
 refine wpList_new_store rfl 22 rfl rfl (zero32.map B8) zeroB32 rfl rfl rfl ((xB p44).map B8) (fun _ => rfl) (fun _ => rfl) (info40.trans (by rw [List.length_map, (Lib.hid (xB_length p44)).out])) (by first | with_reducible rfl | rw [List.length_map, ((Lib.hid (by decide) : Hid (zero32.length = 32))).out, List.length_map, (Lib.hid (xB_length p44)).out] | rw [List.length_map, ((Lib.hid (by decide) : Hid (zero32.length = 32))).out]) (one8 _) ?_
 intro g15 w10 hg bg15 hb
 have og15 := Lib.hid (show w.heap.size ≤ g15 ∧ g3 < g15 ∧ g4 < g15 ∧ g13 < g15 from ⟨Nat.le_trans hb0.size (Nat.le_of_eq hg.symm), Nat.lt_of_lt_of_le lg3 (Nat.le_of_eq hg.symm), Nat.lt_of_lt_of_le lg4 (Nat.le_of_eq hg.symm), Nat.lt_of_lt_of_le lg13 (Nat.le_of_eq hg.symm)⟩)
 clear hg
 replace bg3 := bg3.below hb lg3
 replace bg4 := bg4.below hb lg4
 replace bg13 := bg13.below hb lg13
 replace hb0 := hb0.trans (hb.mono hb0.size)
 replace lg3 := bg3.lt
 replace lg4 := bg4.lt
 replace lg13 := bg13.lt
 replace fp := fp.below hb
 replace fq := fq.below hb
 clear hb
 have lg15 := bg15.lt
 try simp only [Act.put, List.setIfInBounds_toArray, List.set_cons_zero, List.set_cons_succ]
 go_upto_region 7 with (fail)
 apply wp_plain_once (m := 22) (J := [[], [0], [1], [2], [2, 3], [2], [2, 4, 5], [2, 6], [7], [8], [8, 9], [8], [8, 10, 11], [8, 12], [13], [14], [14, 15], [14, 16], [17], [17, 18], [14, 17, 19], [14, 20]]) (Je := [21]) (Rs := [Is _, Is _, Is _, Is _, Is _, Is _, Is _, Is _, Is _, Is _, Is _, Is _, Is _, Is _, Is _, Is _, Is _, Is _, Is _, Is _, Is _, Is _])
 ·
  kernel_rfl
 ·
  kernel_rfl
 ·
  intro u
  simp only [List.take_succ_cons, List.take_zero, List.map_cons, List.map_nil, fillU, List.setIfInBounds_toArray, List.set_cons_zero, List.set_cons_succ, Nat.reduceAdd]
  exact rfl
 ·
  simp only [List.take_succ_cons, List.take_zero]
  refine ⟨fun u W hb hd K hK => ?_, ?_⟩
  ·
   clear hd
   go_simp
   refine (CurvesE (hT.up hb0 hb)).mono ?_
   rintro e wy ⟨rfl, hby⟩
   exact hK _ _ _ rfl hby IsOut
  refine ⟨fun u W hb hd K hK => ?_, ?_⟩
  ·
   simp only [Facts, nthR, Is, and_true] at hd
   simp only [hd] at hK ⊢
   clear hd
   go_simp
   apply hK
   ·
    simp only [Act.put, List.setIfInBounds_toArray, List.set_cons_zero, List.set_cons_succ]
    exact rfl
   ·
    exact Below.refl _ _
   ·
    exact IsOut
  refine ⟨fun u W hb hd K hK => ?_, ?_⟩
  ·
   simp only [Facts, nthR, Is, and_true] at hd
   simp only [hd] at hK ⊢
   clear hd
   go_simp
   apply hK
   ·
    simp only [Act.put, List.setIfInBounds_toArray, List.set_cons_zero, List.set_cons_succ]
    exact rfl
   ·
    exact Below.refl _ _
   ·
    exact IsOut
  refine ⟨fun u W hb hd K hK => ?_, ?_⟩
  ·
   simp only [Facts, nthR, Is, and_true] at hd
   simp only [hd] at hK ⊢
   clear hd
   go_simp
   apply hK
   ·
    simp only [Act.put, List.setIfInBounds_toArray, List.set_cons_zero, List.set_cons_succ]
    exact rfl
   ·
    exact Below.refl _ _
   ·
    exact IsOut
  refine ⟨fun u W hb hd K hK => ?_, ?_⟩
  ·
   simp only [Facts, nthR, Is, and_true] at hd
   simp only [hd] at hK ⊢
   clear hd
   go_simp
   apply hK
   ·
    simp only [Act.put, List.setIfInBounds_toArray, List.set_cons_zero, List.set_cons_succ]
    exact rfl
   ·
    exact Below.refl _ _
   ·
    exact IsOut
  refine ⟨fun u W hb hd K hK => ?_, ?_⟩
  ·
   simp only [Facts, nthR, Is, and_true] at hd
   simp only [hd] at hK ⊢
   clear hd
   go_simp
   apply hK
   ·
    simp only [Act.put, List.setIfInBounds_toArray, List.set_cons_zero, List.set_cons_succ]
    exact rfl
   ·
    exact Below.refl _ _
   ·
    exact IsOut
  refine ⟨fun u W hb hd K hK => ?_, ?_⟩
  ·
   simp only [Facts, nthR, Is, and_true] at hd
   simp only [hd] at hK ⊢
   clear hd
   go_simp
   apply hK
   ·
    simp only [Act.put, List.setIfInBounds_toArray, List.set_cons_zero, List.set_cons_succ]
    exact rfl
   ·
    exact Below.refl _ _
   ·
    exact IsOut
  refine ⟨fun u W hb hd K hK => ?_, ?_⟩
  ·
   simp only [Facts, nthR, Is, and_true] at hd
   simp only [hd] at hK ⊢
   clear hd
   go_simp
   apply hK
   ·
    simp only [Act.put, List.setIfInBounds_toArray, List.set_cons_zero, List.set_cons_succ]
    exact rfl
   ·
    exact Below.refl _ _
   ·
    exact IsOut
  refine ⟨fun u W hb hd K hK => ?_, ?_⟩
  ·
   simp only [Facts, nthR, Is, and_true] at hd
   simp only [hd] at hK ⊢
   clear hd
   go_simp
   apply hK
   ·
    simp only [Act.put, List.setIfInBounds_toArray, List.set_cons_zero, List.set_cons_succ]
    exact rfl
   ·
    exact Below.refl _ _
   ·
    exact IsOut
  refine ⟨fun u W hb hd K hK => ?_, ?_⟩
  ·
   simp only [Facts, nthR, Is, and_true] at hd
   simp only [hd] at hK ⊢
   clear hd
   go_simp
   apply hK
   ·
    simp only [Act.put, List.setIfInBounds_toArray, List.set_cons_zero, List.set_cons_succ]
    exact rfl
   ·
    exact Below.refl _ _
   ·
    exact IsOut
  refine ⟨fun u W hb hd K hK => ?_, ?_⟩
  ·
   simp only [Facts, nthR, Is, and_true] at hd
   simp only [hd] at hK ⊢
   clear hd
   go_simp
   apply hK
   ·
    simp only [Act.put, List.setIfInBounds_toArray, List.set_cons_zero, List.set_cons_succ]
    exact rfl
   ·
    exact Below.refl _ _
   ·
    exact IsOut
  refine ⟨fun u W hb hd K hK => ?_, ?_⟩
  ·
   simp only [Facts, nthR, Is, and_true] at hd
   simp only [hd] at hK ⊢
   clear hd
   go_simp
   apply hK
   ·
    simp only [Act.put, List.setIfInBounds_toArray, List.set_cons_zero, List.set_cons_succ]
    exact rfl
   ·
    exact Below.refl _ _
   ·
    exact IsOut
  refine ⟨fun u W hb hd K hK => ?_, ?_⟩
  ·
   simp only [Facts, nthR, Is, and_true] at hd
   simp only [hd] at hK ⊢
   clear hd
   go_simp
   apply hK
   ·
    simp only [Act.put, List.setIfInBounds_toArray, List.set_cons_zero, List.set_cons_succ]
    exact rfl
   ·
    exact Below.refl _ _
   ·
    exact IsOut
  refine ⟨fun u W hb hd K hK => ?_, ?_⟩
  ·
   simp only [Facts, nthR, Is, and_true] at hd
   simp only [hd] at hK ⊢
   clear hd
   go_simp
   apply hK
   ·
    simp only [Act.put, List.setIfInBounds_toArray, List.set_cons_zero, List.set_cons_succ]
    exact rfl
   ·
    exact Below.refl _ _
   ·
    exact IsOut
  refine ⟨fun u W hb hd K hK => ?_, ?_⟩
  ·
   simp only [Facts, nthR, Is, and_true] at hd
   simp only [hd] at hK ⊢
   clear hd
   go_simp
   apply hK
   ·
    simp only [Act.put, List.setIfInBounds_toArray, List.set_cons_zero, List.set_cons_succ]
    exact rfl
   ·
    exact Below.refl _ _
   ·
    exact IsOut
  refine ⟨fun u W hb hd K hK => ?_, ?_⟩
  ·
   simp only [Facts, nthR, Is, and_true] at hd
   simp only [hd] at hK ⊢
   clear hd
   go_simp
   apply hK
   ·
    simp only [Act.put, List.setIfInBounds_toArray, List.set_cons_zero, List.set_cons_succ]
    exact rfl
   ·
    exact Below.refl _ _
   ·
    exact IsOut
  refine ⟨fun u W hb hd K hK => ?_, ?_⟩
  ·
   simp only [Facts, nthR, Is, and_true] at hd
   simp only [hd] at hK ⊢
   clear hd
   go_simp
   apply hK
   ·
    simp only [Act.put, List.setIfInBounds_toArray, List.set_cons_zero, List.set_cons_succ]
    exact rfl
   ·
    exact Below.refl _ _
   ·
    exact IsOut
  refine ⟨fun u W hb hd K hK => ?_, ?_⟩
  ·
   simp only [Facts, nthR, Is, and_true] at hd
   simp only [hd] at hK ⊢
   clear hd
   go_simp
   apply hK
   ·
    simp only [Act.put, List.setIfInBounds_toArray, List.set_cons_zero, List.set_cons_succ]
    exact rfl
   ·
    exact Below.refl _ _
   ·
    exact IsOut
  refine ⟨fun u W hb hd K hK => ?_, ?_⟩
  ·
   simp only [Facts, nthR, Is, and_true] at hd
   simp only [hd] at hK ⊢
   clear hd
   go_simp
   apply hK
   ·
    simp only [Act.put, List.setIfInBounds_toArray, List.set_cons_zero, List.set_cons_succ]
    exact rfl
   ·
    exact Below.refl _ _
   ·
    exact IsOut
  refine ⟨fun u W hb hd K hK => ?_, ?_⟩
  ·
   simp only [Facts, nthR, Is, and_true] at hd
   simp only [hd] at hK ⊢
   clear hd
   go_simp
   apply hK
   ·
    simp only [Act.put, List.setIfInBounds_toArray, List.set_cons_zero, List.set_cons_succ]
    exact rfl
   ·
    exact Below.refl _ _
   ·
    exact IsOut
  refine ⟨fun u W hb hd K hK => ?_, ?_⟩
  ·
   simp only [Facts, nthR, Is, and_true] at hd
   simp only [hd] at hK ⊢
   clear hd
   go_simp
   apply hK
   ·
    simp only [Act.put, List.setIfInBounds_toArray, List.set_cons_zero, List.set_cons_succ]
    exact rfl
   ·
    exact Below.refl _ _
   ·
    exact IsOut
  refine ⟨fun u W hb hd K hK => ?_, ?_⟩
  ·
   simp only [Facts, nthR, Is, and_true] at hd
   simp only [hd] at hK ⊢
   clear hd
   go_simp
   apply hK
   ·
    simp only [Act.put, List.setIfInBounds_toArray, List.set_cons_zero, List.set_cons_succ]
    exact rfl
   ·
    exact Below.refl _ _
   ·
    exact IsOut
  exact trivial
 ·
  exact (.is (.is (.is (.is (.is (.is (.is (.is (.is (.is (.is (.is (.is (.is (.is (.is (.is (.is (.is (.is (.is (.is .nil))))))))))))))))))))))
 intro u w11 hb hd
 simp only [List.drop_succ_cons, List.drop_zero]
 simp only [Facts, nthR, Is, and_true] at hd
 have h21 := hd
 clear hd
 simp only [h21]
 clear h21
 replace bg3 := bg3.below hb lg3
 replace bg4 := bg4.below hb lg4
 replace bg13 := bg13.below hb lg13
 replace bg15 := bg15.below hb lg15
 replace hb0 := hb0.trans (hb.mono hb0.size)
 replace lg3 := bg3.lt
 replace lg4 := bg4.lt
 replace lg13 := bg13.lt
 replace lg15 := bg15.lt
 replace fp := fp.below hb
 replace fq := fq.below hb
 clear hb
 go_upto_region 9 with (fail)
 apply wp_plain_once (m := 2) (J := [[], [0]]) (Je := [1]) (Rs := [Is _, Is _])
 ·
  kernel_rfl
 ·
  kernel_rfl
 ·
  intro u
  simp only [List.take_succ_cons, List.take_zero, List.map_cons, List.map_nil, fillU, List.setIfInBounds_toArray, List.set_cons_zero, List.set_cons_succ, Nat.reduceAdd]
  exact rfl
 ·
  simp only [List.take_succ_cons, List.take_zero]
  refine ⟨fun u W hb hd K hK => ?_, ?_⟩
  ·
   clear hd
   go_simp
   apply hK
   ·
    simp only [Act.put, List.setIfInBounds_toArray, List.set_cons_zero, List.set_cons_succ]
    exact rfl
   ·
    exact Below.refl _ _
   ·
    exact IsOut
  refine ⟨fun u W hb hd K hK => ?_, ?_⟩
  ·
   simp only [Facts, nthR, Is, and_true] at hd
   simp only [hd] at hK ⊢
   clear hd
   go_simp
   apply hK
   ·
    simp only [Act.put, List.setIfInBounds_toArray, List.set_cons_zero, List.set_cons_succ]
    exact rfl
   ·
    exact Below.refl _ _
   ·
    exact IsOut
  exact trivial
 ·
  exact (.is (.is .nil))
 intro u w12 hb hd
 simp only [List.drop_succ_cons, List.drop_zero]
 simp only [Facts, nthR, Is, and_true] at hd
 have h1 := hd
 clear hd
 simp only [h1]
 clear h1
 replace bg3 := bg3.below hb lg3
 replace bg4 := bg4.below hb lg4
 replace bg13 := bg13.below hb lg13
 replace bg15 := bg15.below hb lg15
 replace hb0 := hb0.trans (hb.mono hb0.size)
 replace lg3 := bg3.lt
 replace lg4 := bg4.lt
 replace lg13 := bg13.lt
 replace lg15 := bg15.lt
 replace fp := fp.below hb
 replace fq := fq.below hb
 clear hb
 go_upto_region 11 with (fail)
 obtain ⟨p95, hp95⟩ : ∃ s : Pt, Hid (s = mulG (vB)) := ⟨_, Lib.hid rfl⟩
 obtain ⟨p96, hp96⟩ : ∃ s : Pt, Hid (s = mulG (vA * vB)) := ⟨_, Lib.hid rfl⟩
 have E11 := Lib.hid (show xB p38 = xB p44 by rw [hp38.out, hp44.out, Nat.mul_comm])
 have E20 := Lib.hid (show xB p38 = xB p96 by rw [hp38.out, hp96.out])
 apply wp_region_once_tail (m := 23) (Z := []) (D := [[], [0], [0, 1], [0, 1, 2], [0, 1, 2, 3], [0, 1, 2, 3, 4], [0, 1, 2, 3, 4, 5], [0, 1, 2, 3, 4, 5, 6], [0, 1, 2, 3, 4, 5, 6, 7], [0, 1, 2, 3, 4, 5, 6, 7, 8], [0, 1, 2, 3, 4, 5, 6, 7, 8], [0, 1, 2, 3, 4, 5, 6, 7, 8, 9, 10], [0, 1, 2, 3, 4, 5, 6, 7, 8, 9, 10, 11], [0, 1, 2, 3, 4, 5, 6, 7, 8, 9, 10, 11, 12], [0, 1, 2, 3, 4, 5, 6, 7, 8, 9, 10, 11, 12, 13], [0, 1, 2, 3, 4, 5, 6, 7, 8, 9, 10, 11, 12, 13], [0, 1, 2, 3, 4, 5, 6, 7, 8, 9, 10, 11, 12, 13], [0, 1, 2, 3, 4, 5, 6, 7, 8, 9, 10, 11, 12, 13, 16], [0, 1, 2, 3, 4, 5, 6, 7, 8, 9, 10, 11, 12, 13, 15, 16, 17], [0, 1, 2, 3, 4, 5, 6, 7, 8, 9, 10, 11, 12, 13, 15, 16, 17, 18], [0, 1, 2, 3, 4, 5, 6, 7, 8, 9, 10, 11, 12, 13, 14, 15, 16, 17, 18, 19], [0, 1, 2, 3, 4, 5, 6, 7, 8, 9, 10, 11, 12, 13, 14, 15, 16, 17, 18, 19, 20], [0, 1, 2, 3, 4, 5, 6, 7, 8, 9, 10, 11, 12, 13, 14, 15, 16, 17, 18, 19, 20, 21]]) (J := [[], [0], [1], [1, 2], [1, 3], [4], [4, 5], [1, 4, 6], [1, 7], [8], [8], [8, 9, 10], [1, 8, 11], [1, 12], [13], [13], [13], [13, 16], [13, 15, 17], [13, 18], [13, 14, 19], [1, 13, 20], [1, 21]]) (Je := [22]) (Rs := [Is _, Is _, Is _, Is _, Is _, Is _, Is _, Is _, Is _, Is _, Is _, Is _, Is _, Is _, Is _, Is _, Is _, Is _, Is _, Is _, Is _, Is _, Is _])
 ·
  kernel_rfl
 ·
  kernel_rfl
 ·
  kernel_rfl
 ·
  kernel_rfl
 ·
  kernel_rfl
 ·
  kernel_rfl
 ·
  kernel_rfl
 ·
  exact fun h => absurd rfl h
 ·
  intro u
  simp only [List.take_succ_cons, List.take_zero, List.map_cons, List.map_nil, fillU, List.setIfInBounds_toArray, List.set_cons_zero, List.set_cons_succ, Nat.reduceAdd]
  exact rfl
 ·
  simp only [List.take_succ_cons, List.take_zero]
  refine ⟨fun u W hb hd K hK => ?_, ?_⟩
  ·
   clear hd
   go_simp
   apply hK
   ·
    simp only [Act.put, List.setIfInBounds_toArray, List.set_cons_zero, List.set_cons_succ]
    exact rfl
   ·
    exact Below.refl _ _
   ·
    exact IsOut
  refine ⟨fun u W hb hd K hK => ?_, ?_⟩
  ·
   simp only [Facts, nthR, Is, and_true] at hd
   simp only [hd] at hK ⊢
   clear hd
   go_simp
   apply hK
   ·
    simp only [Act.put, List.setIfInBounds_toArray, List.set_cons_zero, List.set_cons_succ]
    exact rfl
   ·
    exact Below.refl _ _
   ·
    exact IsOut
  refine ⟨fun u W hb hd K hK => ?_, ?_⟩
  ·
   simp only [Facts, nthR, Is, and_true] at hd
   simp only [hd] at hK ⊢
   clear hd
   go_simp
   apply hK
   ·
    simp only [Act.put, List.setIfInBounds_toArray, List.set_cons_zero, List.set_cons_succ]
    exact rfl
   ·
    exact Below.refl _ _
   ·
    exact IsOut
  refine ⟨fun u W hb hd K hK => ?_, ?_⟩
  ·
   simp only [Facts, nthR, Is, and_true] at hd
   simp only [hd] at hK ⊢
   clear hd
   go_simp
   apply hK
   ·
    simp only [Act.put, List.setIfInBounds_toArray, List.set_cons_zero, List.set_cons_succ]
    exact rfl
   ·
    exact Below.refl _ _
   ·
    exact IsOut
  refine ⟨fun u W hb hd K hK => ?_, ?_⟩
  ·
   simp only [Facts, nthR, Is, and_true] at hd
   simp only [hd] at hK ⊢
   clear hd
   go_simp
   apply hK
   ·
    simp only [Act.put, List.setIfInBounds_toArray, List.set_cons_zero, List.set_cons_succ]
    exact rfl
   ·
    exact Below.refl _ _
   ·
    exact IsOut
  refine ⟨fun u W hb hd K hK => ?_, ?_⟩
  ·
   simp only [Facts, nthR, Is, and_true] at hd
   simp only [hd] at hK ⊢
   clear hd
   go_simp
   apply hK
   ·
    simp only [Act.put, List.setIfInBounds_toArray, List.set_cons_zero, List.set_cons_succ]
    exact rfl
   ·
    exact Below.refl _ _
   ·
    exact IsOut
  refine ⟨fun u W hb hd K hK => ?_, ?_⟩
  ·
   simp only [Facts, nthR, Is, and_true] at hd
   simp only [hd] at hK ⊢
   clear hd
   go_simp
   apply hK
   ·
    simp only [Act.put, List.setIfInBounds_toArray, List.set_cons_zero, List.set_cons_succ]
    exact rfl
   ·
    exact Below.refl _ _
   ·
    exact IsOut
  refine ⟨fun u W hb hd K hK => ?_, ?_⟩
  ·
   simp only [Facts, nthR, Is, and_true] at hd
   simp only [hd] at hK ⊢
   clear hd
   go_simp
   apply hK
   ·
    simp only [Act.put, List.setIfInBounds_toArray, List.set_cons_zero, List.set_cons_succ]
    exact rfl
   ·
    exact Below.refl _ _
   ·
    exact IsOut
  refine ⟨fun u W hb hd K hK => ?_, ?_⟩
  ·
   simp only [Facts, nthR, Is, and_true] at hd
   simp only [hd] at hK ⊢
   clear hd
   go_simp
   apply hK
   ·
    simp only [Act.put, List.setIfInBounds_toArray, List.set_cons_zero, List.set_cons_succ]
    exact rfl
   ·
    exact Below.refl _ _
   ·
    exact IsOut
  refine ⟨fun u W hb hd K hK => ?_, ?_⟩
  ·
   simp only [Facts, nthR, Is, and_true] at hd
   simp only [hd] at hK ⊢
   clear hd
   rw [if_pos (by rfl)]
   refine wp_load_mid 22 (.tmp 13) rfl g13 0 rfl ((xB p38).map B8) _ (rangeAt_of_blk (bg13.below hb lg13)) Tryd.underlying22 rfl (info40.trans (by rw [List.length_map, (Lib.hid (xB_length p38)).out])) ?_
   exact hK _ _ _ rfl (Below.refl _ _) IsOut
  refine ⟨fun u W hb hd K hK => ?_, ?_⟩
  ·
   simp only [Facts, nthR, Is, and_true] at hd
   simp only [hd] at hK ⊢
   clear hd
   rw [if_pos (by rfl)]
   refine wp_load_mid 22 (.tmp 15) rfl g15 0 rfl ((xB p44).map B8) _ (rangeAt_of_blk (bg15.below hb lg15)) Tryd.underlying22 rfl (info40.trans (by rw [List.length_map, (Lib.hid (xB_length p44)).out])) ?_
   exact hK _ _ _ rfl (Below.refl _ _) IsOut
  refine ⟨fun u W hb hd K hK => ?_, ?_⟩
  ·
   simp only [Facts, nthR, Is, and_true] at hd
   simp only [hd] at hK ⊢
   clear hd
   rw [if_pos (by rfl)]
   refine wp_neqR rfl rfl rfl guardB32 (show (Op.equalIn 10000 22 (.agg ((xB p38).map B8).toArray) (.agg ((xB p44).map B8).toArray)).run Tryd.prog W = .ok (!false) W from EqB (Lib.hid (xB_length p38)) (Lib.hid (xB_length p44)) (Lib.hid (beq_iff_eq.2 E11.out)) W) ?_
   exact hK _ _ (.bool false) rfl (Below.refl _ _) IsOut
  refine ⟨fun u W hb hd K hK => ?_, ?_⟩
  ·
   simp only [Facts, nthR, Is, and_true] at hd
   simp only [hd] at hK ⊢
   clear hd
   go_simp
   apply hK
   ·
    simp only [Act.put, List.setIfInBounds_toArray, List.set_cons_zero, List.set_cons_succ]
    exact rfl
   ·
    exact Below.refl _ _
   ·
    exact IsOut
  refine ⟨fun u W hb hd K hK => ?_, ?_⟩
  ·
   simp only [Facts, nthR, Is, and_true] at hd
   simp only [hd] at hK ⊢
   clear hd
   go_simp
   apply hK
   ·
    simp only [Act.put, List.setIfInBounds_toArray, List.set_cons_zero, List.set_cons_succ]
    exact rfl
   ·
    exact Below.refl _ _
   ·
    exact IsOut
  refine ⟨fun u W hb hd K hK => ?_, ?_⟩
  ·
   simp only [Facts, nthR, Is, and_true] at hd
   simp only [hd] at hK ⊢
   clear hd
   rw [if_pos (by rfl)]
   refine wp_load_mid 22 (.tmp 13) rfl g13 0 rfl ((xB p38).map B8) _ (rangeAt_of_blk (bg13.below hb lg13)) Tryd.underlying22 rfl (info40.trans (by rw [List.length_map, (Lib.hid (xB_length p38)).out])) ?_
   exact hK _ _ _ rfl (Below.refl _ _) IsOut
  refine ⟨fun u W hb hd K hK => ?_, ?_⟩
  ·
   simp only [Facts, nthR, Is, and_true] at hd
   simp only [hd] at hK ⊢
   clear hd
   rw [if_pos (by rfl)]
   refine wp_load_mid 22 (.tmp 3) rfl g3 0 rfl (A.map B8) _ (rangeAt_of_blk (bg3.below hb lg3)) Tryd.underlying22 rfl (info40.trans (by rw [List.length_map, (hA).out])) ?_
   exact hK _ _ _ rfl (Below.refl _ _) IsOut
  refine ⟨fun u W hb hd K hK => ?_, ?_⟩
  ·
   simp only [Facts, nthR, Is, and_true] at hd
   simp only [hd] at hK ⊢
   clear hd
   rw [if_pos (by rfl)]
   refine wp_load_mid 22 (.tmp 4) rfl g4 0 rfl (B.map B8) _ (rangeAt_of_blk (bg4.below hb lg4)) Tryd.underlying22 rfl (info40.trans (by rw [List.length_map, (hB).out])) ?_
   exact hK _ _ _ rfl (Below.refl _ _) IsOut
  refine ⟨fun u W hb hd K hK => ?_, ?_⟩
  ·
   simp only [Facts, nthR, Is, and_true] at hd
   simp only [hd] at hK ⊢
   clear hd
   go_simp
   refine (OfE (hT.up hb0 hb) (hB) (hvB) hp95).mono ?_
   rintro e wy ⟨rfl, hby⟩
   exact hK _ _ _ rfl hby IsOut
  refine ⟨fun u W hb hd K hK => ?_, ?_⟩
  ·
   simp only [Facts, nthR, Is, and_true] at hd
   simp only [hd] at hK ⊢
   clear hd
   go_simp
   refine (TimesP (hT.up hb0 hb) (hA) (hvA) (hp95) hp96).mono ?_
   rintro e wy ⟨rfl, hby⟩
   exact hK _ _ _ rfl hby IsOut
  refine ⟨fun u W hb hd K hK => ?_, ?_⟩
  ·
   simp only [Facts, nthR, Is, and_true] at hd
   simp only [hd] at hK ⊢
   clear hd
   rw [if_pos (by rfl)]
   refine wp_fieldX rfl rfl ?_
   exact hK _ _ _ rfl (Below.refl _ _) IsOut
  refine ⟨fun u W hb hd K hK => ?_, ?_⟩
  ·
   simp only [Facts, nthR, Is, and_true] at hd
   simp only [hd] at hK ⊢
   clear hd
   rw [if_pos (by rfl)]
   refine wp_neqR rfl rfl rfl guardB32 (show (Op.equalIn 10000 22 (.agg ((xB p38).map B8).toArray) (.agg ((xB p96).map B8).toArray)).run Tryd.prog W = .ok (!false) W from EqB (Lib.hid (xB_length p38)) (Lib.hid (xB_length p96)) (Lib.hid (beq_iff_eq.2 E20.out)) W) ?_
   exact hK _ _ (.bool false) rfl (Below.refl _ _) IsOut
  refine ⟨fun u W hb hd K hK => ?_, ?_⟩
  ·
   simp only [Facts, nthR, Is, and_true] at hd
   simp only [hd] at hK ⊢
   clear hd
   go_simp
   apply hK
   ·
    simp only [Act.put, List.setIfInBounds_toArray, List.set_cons_zero, List.set_cons_succ]
    exact rfl
   ·
    exact Below.refl _ _
   ·
    exact IsOut
  refine ⟨fun u W hb hd K hK => ?_, ?_⟩
  ·
   simp only [Facts, nthR, Is, and_true] at hd
   simp only [hd] at hK ⊢
   clear hd
   go_simp
   apply hK
   ·
    simp only [Act.put, List.setIfInBounds_toArray, List.set_cons_zero, List.set_cons_succ]
    exact rfl
   ·
    exact Below.refl _ _
   ·
    exact IsOut
  exact trivial
 ·
  skip
  exact trivial
 ·
  exact (.is (.is (.is (.is (.is (.is (.is (.is (.is (.is (.is (.is (.is (.is (.is (.is (.is (.is (.is (.is (.is (.is (.is .nil)))))))))))))))))))))))
 intro u w13 hb hd
 simp only [List.drop_succ_cons, List.drop_zero]
 simp only [Facts, nthR, Is, and_true] at hd
 have h22 := hd
 clear hd
 simp only [h22]
 clear h22
 replace bg3 := bg3.below hb lg3
 replace bg4 := bg4.below hb lg4
 replace bg13 := bg13.below hb lg13
 replace bg15 := bg15.below hb lg15
 replace hb0 := hb0.trans (hb.mono hb0.size)
 replace lg3 := bg3.lt
 replace lg4 := bg4.lt
 replace lg13 := bg13.lt
 replace lg15 := bg15.lt
 replace fp := fp.below hb
 replace fq := fq.below hb
 clear hb
 go_upto_region 13 with (fail)
 apply wp_plain_once (m := 5) (J := [[], [0], [1], [2], [2]]) (Je := [3, 4]) (Rs := [Is _, Is _, Is _, Is _, Is _])
 ·
  kernel_rfl
 ·
  kernel_rfl
 ·
  intro u
  simp only [List.take_succ_cons, List.take_zero, List.map_cons, List.map_nil, fillU, List.setIfInBounds_toArray, List.set_cons_zero, List.set_cons_succ, Nat.reduceAdd]
  exact rfl
 ·
  simp only [List.take_succ_cons, List.take_zero]
  refine ⟨fun u W hb hd K hK => ?_, ?_⟩
  ·
   clear hd
   go_simp
   apply hK
   ·
    simp only [Act.put, List.setIfInBounds_toArray, List.set_cons_zero, List.set_cons_succ]
    exact rfl
   ·
    exact Below.refl _ _
   ·
    exact IsOut
  refine ⟨fun u W hb hd K hK => ?_, ?_⟩
  ·
   simp only [Facts, nthR, Is, and_true] at hd
   simp only [hd] at hK ⊢
   clear hd
   go_simp
   refine (ReadH hXj hYj hEj hN (hI.up (hb0.trans (hb.mono hb0.size))) (hT.up hb0 hb)).mono ?_
   rintro e wy ⟨rfl, hby⟩
   exact hK _ _ _ rfl hby IsOut
  refine ⟨fun u W hb hd K hK => ?_, ?_⟩
  ·
   simp only [Facts, nthR, Is, and_true] at hd
   simp only [hd] at hK ⊢
   clear hd
   go_simp
   apply hK
   ·
    simp only [Act.put, List.setIfInBounds_toArray, List.set_cons_zero, List.set_cons_succ]
    exact rfl
   ·
    exact Below.refl _ _
   ·
    exact IsOut
  refine ⟨fun u W hb hd K hK => ?_, ?_⟩
  ·
   simp only [Facts, nthR, Is, and_true] at hd
   simp only [hd] at hK ⊢
   clear hd
   go_simp
   apply hK
   ·
    simp only [Act.put, List.setIfInBounds_toArray, List.set_cons_zero, List.set_cons_succ]
    exact rfl
   ·
    exact Below.refl _ _
   ·
    exact IsOut
  refine ⟨fun u W hb hd K hK => ?_, ?_⟩
  ·
   simp only [Facts, nthR, Is, and_true] at hd
   simp only [hd] at hK ⊢
   clear hd
   go_simp
   apply hK
   ·
    simp only [Act.put, List.setIfInBounds_toArray, List.set_cons_zero, List.set_cons_succ]
    exact rfl
   ·
    exact Below.refl _ _
   ·
    exact IsOut
  exact trivial
 ·
  exact (.is (.is (.is (.is (.is .nil)))))
 intro u w14 hb hd
 simp only [List.drop_succ_cons, List.drop_zero]
 simp only [Facts, nthR, Is, and_true] at hd
 obtain ⟨h3, h4⟩ := hd
 simp only [h3, h4]
 clear h3 h4
 replace bg3 := bg3.below hb lg3
 replace bg4 := bg4.below hb lg4
 replace bg13 := bg13.below hb lg13
 replace bg15 := bg15.below hb lg15
 replace hb0 := hb0.trans (hb.mono hb0.size)
 replace lg3 := bg3.lt
 replace lg4 := bg4.lt
 replace lg13 := bg13.lt
 replace lg15 := bg15.lt
 replace fp := fp.below hb
 replace fq := fq.below hb
 clear hb
 refine wpList_new_store rfl 24 rfl rfl (ptV none) zeroPt rfl rfl rfl (ptC X Y) (fun _ => rfl) (fun _ => rfl) (infoPt.trans (by rw [ptC_length (hXl).out (hYl).out])) (by first | with_reducible rfl | rw [ptV_length, ptC_length (hXl).out (hYl).out] | rw [ptV_length]) (onePt _ _) ?_
 intro g17 w15 hg bg17 hb
 have og17 := Lib.hid (show w.heap.size ≤ g17 ∧ g3 < g17 ∧ g4 < g17 ∧ g13 < g17 ∧ g15 < g17 from ⟨Nat.le_trans hb0.size (Nat.le_of_eq hg.symm), Nat.lt_of_lt_of_le lg3 (Nat.le_of_eq hg.symm), Nat.lt_of_lt_of_le lg4 (Nat.le_of_eq hg.symm), Nat.lt_of_lt_of_le lg13 (Nat.le_of_eq hg.symm), Nat.lt_of_lt_of_le lg15 (Nat.le_of_eq hg.symm)⟩)
 clear hg
 replace bg3 := bg3.below hb lg3
 replace bg4 := bg4.below hb lg4
 replace bg13 := bg13.below hb lg13
 replace bg15 := bg15.below hb lg15
 replace hb0 := hb0.trans (hb.mono hb0.size)
 replace lg3 := bg3.lt
 replace lg4 := bg4.lt
 replace lg13 := bg13.lt
 replace lg15 := bg15.lt
 replace fp := fp.below hb
 replace fq := fq.below hb
 clear hb
 have lg17 := bg17.lt
 try simp only [Act.put, List.setIfInBounds_toArray, List.set_cons_zero, List.set_cons_succ]
 go_upto_region 14 with (fail)
 apply wp_plain_once (m := 2) (J := [[], [0]]) (Je := [1]) (Rs := [Is _, Is _])
 ·
  kernel_rfl
 ·
  kernel_rfl
 ·
  intro u
  simp only [List.take_succ_cons, List.take_zero, List.map_cons, List.map_nil, fillU, List.setIfInBounds_toArray, List.set_cons_zero, List.set_cons_succ, Nat.reduceAdd]
  exact rfl
 ·
  simp only [List.take_succ_cons, List.take_zero]
  refine ⟨fun u W hb hd K hK => ?_, ?_⟩
  ·
   clear hd
   go_simp
   apply hK
   ·
    simp only [Act.put, List.setIfInBounds_toArray, List.set_cons_zero, List.set_cons_succ]
    exact rfl
   ·
    exact Below.refl _ _
   ·
    exact IsOut
  refine ⟨fun u W hb hd K hK => ?_, ?_⟩
  ·
   simp only [Facts, nthR, Is, and_true] at hd
   simp only [hd] at hK ⊢
   clear hd
   go_simp
   apply hK
   ·
    simp only [Act.put, List.setIfInBounds_toArray, List.set_cons_zero, List.set_cons_succ]
    exact rfl
   ·
    exact Below.refl _ _
   ·
    exact IsOut
  exact trivial
 ·
  exact (.is (.is .nil))
 intro u w16 hb hd
 simp only [List.drop_succ_cons, List.drop_zero]
 simp only [Facts, nthR, Is, and_true] at hd
 have h1 := hd
 clear hd
 simp only [h1]
 clear h1
 replace bg3 := bg3.below hb lg3
 replace bg4 := bg4.below hb lg4
 replace bg13 := bg13.below hb lg13
 replace bg15 := bg15.below hb lg15
 replace bg17 := bg17.below hb lg17
 replace hb0 := hb0.trans (hb.mono hb0.size)
 replace lg3 := bg3.lt
 replace lg4 := bg4.lt
 replace lg13 := bg13.lt
 replace lg15 := bg15.lt
 replace lg17 := bg17.lt
 replace fp := fp.below hb
 replace fq := fq.below hb
 clear hb
 go_upto_region 15 with (fail)
 apply wp_plain_once (m := 6) (J := [[], [], [0, 1], [2], [3], [3]]) (Je := [4, 5]) (Rs := [Is _, Is _, Is _, Is _, Is _, Is _])
 ·
  kernel_rfl
 ·
  kernel_rfl
 ·
  intro u
  simp only [List.take_succ_cons, List.take_zero, List.map_cons, List.map_nil, fillU, List.setIfInBounds_toArray, List.set_cons_zero, List.set_cons_succ, Nat.reduceAdd]
  exact rfl
 ·
  simp only [List.take_succ_cons, List.take_zero]
  refine ⟨fun u W hb hd K hK => ?_, ?_⟩
  ·
   clear hd
   rw [if_pos (by rfl)]
   refine wp_load_mid 22 (.tmp 3) rfl g3 0 rfl (A.map B8) _ (rangeAt_of_blk (bg3.below hb lg3)) Tryd.underlying22 rfl (info40.trans (by rw [List.length_map, (hA).out])) ?_
   exact hK _ _ _ rfl (Below.refl _ _) IsOut
  refine ⟨fun u W hb hd K hK => ?_, ?_⟩
  ·
   clear hd
   go_simp
   apply hK
   ·
    simp only [Act.put, List.setIfInBounds_toArray, List.set_cons_zero, List.set_cons_succ]
    exact rfl
   ·
    exact Below.refl _ _
   ·
    exact IsOut
  refine ⟨fun u W hb hd K hK => ?_, ?_⟩
  ·
   simp only [Facts, nthR, Is, and_true] at hd
   simp only [hd] at hK ⊢
   clear hd
   go_simp
   refine (curveShared_1 A A3 n3 c3 xs _ (hT.up hb0 hb) (hA) hN (hI.up (hb0.trans (hb.mono hb0.size))) _ _ (Lib.hid zero32_length) (Lib.hid zero32_length) hSA hXJ hYJ hEJ).mono ?_
   rintro e wy ⟨rfl, hby⟩
   exact hK _ _ _ rfl hby IsOut
  refine ⟨fun u W hb hd K hK => ?_, ?_⟩
  ·
   simp only [Facts, nthR, Is, and_true] at hd
   simp only [hd] at hK ⊢
   clear hd
   go_simp
   apply hK
   ·
    simp only [Act.put, List.setIfInBounds_toArray, List.set_cons_zero, List.set_cons_succ]
    exact rfl
   ·
    exact Below.refl _ _
   ·
    exact IsOut
  refine ⟨fun u W hb hd K hK => ?_, ?_⟩
  ·
   simp only [Facts, nthR, Is, and_true] at hd
   simp only [hd] at hK ⊢
   clear hd
   go_simp
   apply hK
   ·
    simp only [Act.put, List.setIfInBounds_toArray, List.set_cons_zero, List.set_cons_succ]
    exact rfl
   ·
    exact Below.refl _ _
   ·
    exact IsOut
  refine ⟨fun u W hb hd K hK => ?_, ?_⟩
  ·
   simp only [Facts, nthR, Is, and_true] at hd
   simp only [hd] at hK ⊢
   clear hd
   go_simp
   apply hK
   ·
    simp only [Act.put, List.setIfInBounds_toArray, List.set_cons_zero, List.set_cons_succ]
    exact rfl
   ·
    exact Below.refl _ _
   ·
    exact IsOut
  exact trivial
 ·
  exact (.is (.is (.is (.is (.is (.is .nil))))))
 intro u w17 hb hd
 simp only [List.drop_succ_cons, List.drop_zero]
 simp only [Facts, nthR, Is, and_true] at hd
 obtain ⟨h4, h5⟩ := hd
 simp only [h4, h5]
 clear h4 h5
 replace bg3 := bg3.below hb lg3
 replace bg4 := bg4.below hb lg4
 replace bg13 := bg13.below hb lg13
 replace bg15 := bg15.below hb lg15
 replace bg17 := bg17.below hb lg17
 replace hb0 := hb0.trans (hb.mono hb0.size)
 replace lg3 := bg3.lt
 replace lg4 := bg4.lt
 replace lg13 := bg13.lt
 replace lg15 := bg15.lt
 replace lg17 := bg17.lt
 replace fp := fp.below hb
 replace fq := fq.below hb
 clear hb
 refine wpList_new_store rfl 22 rfl rfl (zero32.map B8) zeroB32 rfl rfl rfl (zero32.map B8) (fun _ => rfl) (fun _ => rfl) (info40.trans (by rw [List.length_map, ((Lib.hid (by decide) : Hid (zero32.length = 32))).out])) (by first | with_reducible rfl | rw [List.length_map, ((Lib.hid (by decide) : Hid (zero32.length = 32))).out, List.length_map, ((Lib.hid (by decide) : Hid (zero32.length = 32))).out] | rw [List.length_map, ((Lib.hid (by decide) : Hid (zero32.length = 32))).out]) (one8 _) ?_
 intro g19 w18 hg bg19 hb
 have og19 := Lib.hid (show w.heap.size ≤ g19 ∧ g3 < g19 ∧ g4 < g19 ∧ g13 < g19 ∧ g15 < g19 ∧ g17 < g19 from ⟨Nat.le_trans hb0.size (Nat.le_of_eq hg.symm), Nat.lt_of_lt_of_le lg3 (Nat.le_of_eq hg.symm), Nat.lt_of_lt_of_le lg4 (Nat.le_of_eq hg.symm), Nat.lt_of_lt_of_le lg13 (Nat.le_of_eq hg.symm), Nat.lt_of_lt_of_le lg15 (Nat.le_of_eq hg.symm), Nat.lt_of_lt_of_le lg17 (Nat.le_of_eq hg.symm)⟩)
 clear hg
 replace bg3 := bg3.below hb lg3
 replace bg4 := bg4.below hb lg4
 replace bg13 := bg13.below hb lg13
 replace bg15 := bg15.below hb lg15
 replace bg17 := bg17.below hb lg17
 replace hb0 := hb0.trans (hb.mono hb0.size)
 replace lg3 := bg3.lt
 replace lg4 := bg4.lt
 replace lg13 := bg13.lt
 replace lg15 := bg15.lt
 replace lg17 := bg17.lt
 replace fp := fp.below hb
 replace fq := fq.below hb
 clear hb
 have lg19 := bg19.lt
 try simp only [Act.put, List.setIfInBounds_toArray, List.set_cons_zero, List.set_cons_succ]
 go_upto_region 16 with (fail)
 apply wp_plain_once (m := 2) (J := [[], [0]]) (Je := [1]) (Rs := [Is _, Is _])
 ·
  kernel_rfl
 ·
  kernel_rfl
 ·
  intro u
  simp only [List.take_succ_cons, List.take_zero, List.map_cons, List.map_nil, fillU, List.setIfInBounds_toArray, List.set_cons_zero, List.set_cons_succ, Nat.reduceAdd]
  exact rfl
 ·
  simp only [List.take_succ_cons, List.take_zero]
  refine ⟨fun u W hb hd K hK => ?_, ?_⟩
  ·
   clear hd
   go_simp
   apply hK
   ·
    simp only [Act.put, List.setIfInBounds_toArray, List.set_cons_zero, List.set_cons_succ]
    exact rfl
   ·
    exact Below.refl _ _
   ·
    exact IsOut
  refine ⟨fun u W hb hd K hK => ?_, ?_⟩
  ·
   simp only [Facts, nthR, Is, and_true] at hd
   simp only [hd] at hK ⊢
   clear hd
   go_simp
   apply hK
   ·
    simp only [Act.put, List.setIfInBounds_toArray, List.set_cons_zero, List.set_cons_succ]
    exact rfl
   ·
    exact Below.refl _ _
   ·
    exact IsOut
  exact trivial
 ·
  exact (.is (.is .nil))
 intro u w19 hb hd
 simp only [List.drop_succ_cons, List.drop_zero]
 simp only [Facts, nthR, Is, and_true] at hd
 have h1 := hd
 clear hd
 simp only [h1]
 clear h1
 replace bg3 := bg3.below hb lg3
 replace bg4 := bg4.below hb lg4
 replace bg13 := bg13.below hb lg13
 replace bg15 := bg15.below hb lg15
 replace bg17 := bg17.below hb lg17
 replace bg19 := bg19.below hb lg19
 replace hb0 := hb0.trans (hb.mono hb0.size)
 replace lg3 := bg3.lt
 replace lg4 := bg4.lt
 replace lg13 := bg13.lt
 replace lg15 := bg15.lt
 replace lg17 := bg17.lt
 replace lg19 := bg19.lt
 replace fp := fp.below hb
 replace fq := fq.below hb
 clear hb
 go_wp2_with (fail)
 refine bodyPost_ret (results_tmp Tryd.results8 _ _ _) rfl ?_
 exact ⟨rfl, hb0⟩
set_option maxRecDepth 100000 in
set_option maxHeartbeats 4000000 in
theorem curveShares_111 (A B : List UInt8) (A3 : Option Addr) (n3 c3 : Nat) (xs : List UInt8) (w : World) (hT : TabsC w) (hA : Hid (A.length = 32)) (hB : Hid (B.length = 32)) (hN : xs.length = n3) (hI : In w w.heap.size A3 c3 xs) (hSA : Hid (secretB A = true)) (hSB : Hid (secretB B = true)) (hok : Hid (okR xs = true)) : Calls Tryd.prog 8 #[.agg (A.map B8).toArray, .agg (B.map B8).toArray, .slice A3 n3 c3] w fun e w' => e = .returned (.bool true) ∧ Below w.heap.size w w' := by
 go_enter Tryd.func8, Tryd.ntmps8
 have hb0 : Below w.heap.size w w := Below.refl _ _
 obtain ⟨vA, hvA⟩ : ∃ s, Hid ((ofTo A 32).val = s) := ⟨_, Lib.hid rfl⟩
 obtain ⟨bp, hbp⟩ : ∃ s, Hid (s = wrB (xB (mulG vA)) (yB (mulG vA))) := ⟨_, Lib.hid rfl⟩
 obtain ⟨Pp, hPp⟩ : ∃ s : Pt, Hid (s = mulG vA) := ⟨_, Lib.hid rfl⟩
 obtain ⟨hXp, hYp, hEp, hSpp⟩ := pub_row hSA hvA hPp hbp
 replace hXp := Lib.hid hXp
 replace hYp := Lib.hid hYp
 replace hEp := Lib.hid hEp
 replace hSpp := Lib.hid hSpp
 obtain ⟨vB, hvB⟩ : ∃ s, Hid ((ofTo B 32).val = s) := ⟨_, Lib.hid rfl⟩
 obtain ⟨bq, hbq⟩ : ∃ s, Hid (s = wrB (xB (mulG vB)) (yB (mulG vB))) := ⟨_, Lib.hid rfl⟩
 obtain ⟨Pq, hPq⟩ : ∃ s : Pt, Hid (s = mulG vB) := ⟨_, Lib.hid rfl⟩
 obtain ⟨hXq, hYq, hEq, hSpq⟩ := pub_row hSB hvB hPq hbq
 replace hXq := Lib.hid hXq
 replace hYq := Lib.hid hYq
 replace hEq := Lib.hid hEq
 replace hSpq := Lib.hid hSpq
 obtain ⟨X, hXj⟩ : ∃ s, Hid (rdX xs = s) := ⟨_, Lib.hid rfl⟩
 obtain ⟨Y, hYj⟩ : ∃ s, Hid (rdY xs = s) := ⟨_, Lib.hid rfl⟩
 have hXl : Hid (X.length = 32) := Lib.hid (by rw [← hXj.out]; exact rdX_length _)
 have hYl : Hid (Y.length = 32) := Lib.hid (by rw [← hYj.out]; exact rdY_length _)
 have hEj := Lib.hid (rd_yes hok.out)
 go_upto_region 0 with (fail)
 refine wp_region_lit ?_
 refine wpList_box_blk rfl 22 (.tmp 0) rfl (A.map B8) rfl ?_
 intro g3 w1 hg bg3 hb
 have og3 := Lib.hid (show w.heap.size ≤ g3 from Nat.le_trans hb0.size (Nat.le_of_eq hg.symm))
 clear hg
 replace hb0 := hb0.trans (hb.mono hb0.size)
 clear hb
 have lg3 := bg3.lt
 try simp only [Act.put, List.setIfInBounds_toArray, List.set_cons_zero, List.set_cons_succ]
 refine wpList_box_blk rfl 22 (.tmp 1) rfl (B.map B8) rfl ?_
 intro g4 w2 hg bg4 hb
 have og4 := Lib.hid (show w.heap.size ≤ g4 ∧ g3 < g4 from ⟨Nat.le_trans hb0.size (Nat.le_of_eq hg.symm), Nat.lt_of_lt_of_le lg3 (Nat.le_of_eq hg.symm)⟩)
 clear hg
 replace bg3 := bg3.below hb lg3
 replace hb0 := hb0.trans (hb.mono hb0.size)
 replace lg3 := bg3.lt
 clear hb
 have lg4 := bg4.lt
 try simp only [Act.put, List.setIfInBounds_toArray, List.set_cons_zero, List.set_cons_succ]
 go_upto_region 1 with (fail)
 apply wp_plain_once (m := 2) (J := [[], [0]]) (Je := [1]) (Rs := [Is _, fun v V => ∃ A c, v = .tuple #[.slice A bp.length c, .int .i64 0] ∧ Buf V w2.heap.size A bp.length c bp])
 ·
  kernel_rfl
 ·
  kernel_rfl
 ·
  intro u
  simp only [List.take_succ_cons, List.take_zero, List.map_cons, List.map_nil, fillU, List.setIfInBounds_toArray, List.set_cons_zero, List.set_cons_succ, Nat.reduceAdd]
  exact rfl
 ·
  simp only [List.take_succ_cons, List.take_zero]
  refine ⟨fun u W hb hd K hK => ?_, ?_⟩
  ·
   clear hd
   rw [if_pos (by rfl)]
   refine wp_load_mid 22 (.tmp 3) rfl g3 0 rfl (A.map B8) _ (rangeAt_of_blk (bg3.below hb lg3)) Tryd.underlying22 rfl (info40.trans (by rw [List.length_map, (hA).out])) ?_
   exact hK _ _ _ rfl (Below.refl _ _) IsOut
  refine ⟨fun u W hb hd K hK => ?_, ?_⟩
  ·
   simp only [Facts, nthR, Is, and_true] at hd
   simp only [hd] at hK ⊢
   clear hd
   go_simp
   refine (curvePublic_1 A bp vA _ (hT.up hb0 hb) (hA) hvA hSA hbp).mono ?_
   rintro e wy ⟨A, c, rfl, hF, hby⟩
   exact hK _ _ _ rfl hby ⟨A, c, rfl, hF.base hb.size⟩
  exact trivial
 ·
  exact (.is (.cons (fun v V V' ⟨A, c, h1, h2⟩ hb => ⟨A, c, h1, h2.below hb⟩) .nil))
 intro u w3 hb hd
 simp only [List.drop_succ_cons, List.drop_zero]
 simp only [Facts, nthR, and_true] at hd
 obtain ⟨Ap, cp, h1, fp⟩ := hd
 simp only [h1]
 clear h1
 replace bg3 := bg3.below hb lg3
 replace bg4 := bg4.below hb lg4
 replace hb0 := hb0.trans (hb.mono hb0.size)
 replace lg3 := bg3.lt
 replace lg4 := bg4.lt
 clear hb
 refine wpList_plain rfl (fun K hK => ?_)
 go_simp
 refine hK _ _ ?_
 clear hK K
 try simp only [Act.put, List.setIfInBounds_toArray, List.set_cons_zero, List.set_cons_succ]
 refine wpList_plain rfl (fun K hK => ?_)
 go_simp
 refine hK _ _ ?_
 clear hK K
 try simp only [Act.put, List.setIfInBounds_toArray, List.set_cons_zero, List.set_cons_succ]
 refine wpList_plain rfl (fun K hK => ?_)
 go_simp
 refine hK _ _ ?_
 clear hK K
 try simp only [Act.put, List.setIfInBounds_toArray, List.set_cons_zero, List.set_cons_succ]
 go_upto_region 2 with (fail)
 apply wp_plain_once (m := 2) (J := [[], [0]]) (Je := [1]) (Rs := [Is _, fun v V => ∃ A c, v = .tuple #[.slice A bq.length c, .int .i64 0] ∧ Buf V w3.heap.size A bq.length c bq])
 ·
  kernel_rfl
 ·
  kernel_rfl
 ·
  intro u
  simp only [List.take_succ_cons, List.take_zero, List.map_cons, List.map_nil, fillU, List.setIfInBounds_toArray, List.set_cons_zero, List.set_cons_succ, Nat.reduceAdd]
  exact rfl
 ·
  simp only [List.take_succ_cons, List.take_zero]
  refine ⟨fun u W hb hd K hK => ?_, ?_⟩
  ·
   clear hd
   rw [if_pos (by rfl)]
   refine wp_load_mid 22 (.tmp 4) rfl g4 0 rfl (B.map B8) _ (rangeAt_of_blk (bg4.below hb lg4)) Tryd.underlying22 rfl (info40.trans (by rw [List.length_map, (hB).out])) ?_
   exact hK _ _ _ rfl (Below.refl _ _) IsOut
  refine ⟨fun u W hb hd K hK => ?_, ?_⟩
  ·
   simp only [Facts, nthR, Is, and_true] at hd
   simp only [hd] at hK ⊢
   clear hd
   go_simp
   refine (curvePublic_1 B bq vB _ (hT.up hb0 hb) (hB) hvB hSB hbq).mono ?_
   rintro e wy ⟨A, c, rfl, hF, hby⟩
   exact hK _ _ _ rfl hby ⟨A, c, rfl, hF.base hb.size⟩
  exact trivial
 ·
  exact (.is (.cons (fun v V V' ⟨A, c, h1, h2⟩ hb => ⟨A, c, h1, h2.below hb⟩) .nil))
 intro u w4 hb hd
 simp only [List.drop_succ_cons, List.drop_zero]
 simp only [Facts, nthR, and_true] at hd
 obtain ⟨Aq, cq, h1, fq⟩ := hd
 simp only [h1]
 clear h1
 replace bg3 := bg3.below hb lg3
 replace bg4 := bg4.below hb lg4
 replace hb0 := hb0.trans (hb.mono hb0.size)
 replace lg3 := bg3.lt
 replace lg4 := bg4.lt
 replace fp := fp.below hb
 clear hb
 refine wpList_plain rfl (fun K hK => ?_)
 go_simp
 refine hK _ _ ?_
 clear hK K
 try simp only [Act.put, List.setIfInBounds_toArray, List.set_cons_zero, List.set_cons_succ]
 refine wpList_plain rfl (fun K hK => ?_)
 go_simp
 refine hK _ _ ?_
 clear hK K
 try simp only [Act.put, List.setIfInBounds_toArray, List.set_cons_zero, List.set_cons_succ]
 refine wpList_plain rfl (fun K hK => ?_)
 go_simp
 refine hK _ _ ?_
 clear hK K
 try simp only [Act.put, List.setIfInBounds_toArray, List.set_cons_zero, List.set_cons_succ]
 go_upto_region 3 with (fail)
 apply wp_plain_once (m := 2) (J := [[], [0]]) (Je := [1]) (Rs := [Is _, Is _])
 ·
  kernel_rfl
 ·
  kernel_rfl
 ·
  intro u
  simp only [List.take_succ_cons, List.take_zero, List.map_cons, List.map_nil, fillU, List.setIfInBounds_toArray, List.set_cons_zero, List.set_cons_succ, Nat.reduceAdd]
  exact rfl
 ·
  simp only [List.take_succ_cons, List.take_zero]
  refine ⟨fun u W hb hd K hK => ?_, ?_⟩
  ·
   clear hd
   rw [if_pos (by rfl)]
   refine wp_load_mid 22 (.tmp 3) rfl g3 0 rfl (A.map B8) _ (rangeAt_of_blk (bg3.below hb lg3)) Tryd.underlying22 rfl (info40.trans (by rw [List.length_map, (hA).out])) ?_
   exact hK _ _ _ rfl (Below.refl _ _) IsOut
  refine ⟨fun u W hb hd K hK => ?_, ?_⟩
  ·
   simp only [Facts, nthR, Is, and_true] at hd
   simp only [hd] at hK ⊢
   clear hd
   go_simp
   refine (Func1E (hA) hSA _).mono ?_
   rintro e wy ⟨rfl, hby⟩
   exact hK _ _ _ rfl hby IsOut
  exact trivial
 ·
  exact (.is (.is .nil))
 intro u w5 hb hd
 simp only [List.drop_succ_cons, List.drop_zero]
 simp only [Facts, nthR, Is, and_true] at hd
 have h1 := hd
 clear hd
 simp only [h1]
 clear h1
 replace bg3 := bg3.below hb lg3
 replace bg4 := bg4.below hb lg4
 replace hb0 := hb0.trans (hb.mono hb0.size)
 replace lg3 := bg3.lt
 replace lg4 := bg4.lt
 replace fp := fp.below hb
 replace fq := fq.below hb
 clear hb
 go_upto_region 4 with (fail)
 apply wp_plain_once (m := 2) (J := [[], [0]]) (Je := [1]) (Rs := [Is _, Is _])
 ·
  kernel_rfl
 ·
  kernel_rfl
 ·
  intro u
  simp only [List.take_succ_cons, List.take_zero, List.map_cons, List.map_nil, fillU, List.setIfInBounds_toArray, List.set_cons_zero, List.set_cons_succ, Nat.reduceAdd]
  exact rfl
 ·
  simp only [List.take_succ_cons, List.take_zero]
  refine ⟨fun u W hb hd K hK => ?_, ?_⟩
  ·
   clear hd
   rw [if_pos (by rfl)]
   refine wp_load_mid 22 (.tmp 4) rfl g4 0 rfl (B.map B8) _ (rangeAt_of_blk (bg4.below hb lg4)) Tryd.underlying22 rfl (info40.trans (by rw [List.length_map, (hB).out])) ?_
   exact hK _ _ _ rfl (Below.refl _ _) IsOut
  refine ⟨fun u W hb hd K hK => ?_, ?_⟩
  ·
   simp only [Facts, nthR, Is, and_true] at hd
   simp only [hd] at hK ⊢
   clear hd
   go_simp
   refine (Func1E (hB) hSB _).mono ?_
   rintro e wy ⟨rfl, hby⟩
   exact hK _ _ _ rfl hby IsOut
  exact trivial
 ·
  exact (.is (.is .nil))
 intro u w6 hb hd
 simp only [List.drop_succ_cons, List.drop_zero]
 simp only [Facts, nthR, Is, and_true] at hd
 have h1 := hd
 clear hd
 simp only [h1]
 clear h1
 replace bg3 := bg3.below hb lg3
 replace bg4 := bg4.below hb lg4
 replace hb0 := hb0.trans (hb.mono hb0.size)
 replace lg3 := bg3.lt
 replace lg4 := bg4.lt
 replace fp := fp.below hb
 replace fq := fq.below hb
 clear hb
 go_upto_region 5 with (fail)
 obtain ⟨p38, hp38⟩ : ∃ s : Pt, Hid (s = mulG (vA * vB)) := ⟨_, Lib.hid rfl⟩
 apply wp_plain_once (m := 6) (J := [[], [], [0, 1], [2], [3], [3]]) (Je := [4, 5]) (Rs := [Is _, Is _, Is _, Is _, Is _, Is _])
 ·
  kernel_rfl
 ·
  kernel_rfl
 ·
  intro u
  simp only [List.take_succ_cons, List.take_zero, List.map_cons, List.map_nil, fillU, List.setIfInBounds_toArray, List.set_cons_zero, List.set_cons_succ, Nat.reduceAdd]
  exact rfl
 ·
  simp only [List.take_succ_cons, List.take_zero]
  refine ⟨fun u W hb hd K hK => ?_, ?_⟩
  ·
   clear hd
   rw [if_pos (by rfl)]
   refine wp_load_mid 22 (.tmp 3) rfl g3 0 rfl (A.map B8) _ (rangeAt_of_blk (bg3.below hb lg3)) Tryd.underlying22 rfl (info40.trans (by rw [List.length_map, (hA).out])) ?_
   exact hK _ _ _ rfl (Below.refl _ _) IsOut
  refine ⟨fun u W hb hd K hK => ?_, ?_⟩
  ·
   clear hd
   go_simp
   apply hK
   ·
    simp only [Act.put, List.setIfInBounds_toArray, List.set_cons_zero, List.set_cons_succ]
    exact rfl
   ·
    exact Below.refl _ _
   ·
    exact IsOut
  refine ⟨fun u W hb hd K hK => ?_, ?_⟩
  ·
   simp only [Facts, nthR, Is, and_true] at hd
   simp only [hd] at hK ⊢
   clear hd
   go_simp
   refine (curveShared_2 A Aq bq.length cq bq _ (hT.up hb0 hb) (hA) rfl ((fq.below hb).toIn (Nat.le_refl _)) _ _ (Lib.hid (xB_length Pq)) (Lib.hid (yB_length Pq)) hSA hXq hYq hEq vB vA hvA hSpq p38 hp38).mono ?_
   rintro e wy ⟨rfl, hby⟩
   exact hK _ _ _ rfl hby IsOut
  refine ⟨fun u W hb hd K hK => ?_, ?_⟩
  ·
   simp only [Facts, nthR, Is, and_true] at hd
   simp only [hd] at hK ⊢
   clear hd
   go_simp
   apply hK
   ·
    simp only [Act.put, List.setIfInBounds_toArray, List.set_cons_zero, List.set_cons_succ]
    exact rfl
   ·
    exact Below.refl _ _
   ·
    exact IsOut
  refine ⟨fun u W hb hd K hK => ?_, ?_⟩
  ·
   simp only [Facts, nthR, Is, and_true] at hd
   simp only [hd] at hK ⊢
   clear hd
   go_simp
   apply hK
   ·
    simp only [Act.put, List.setIfInBounds_toArray, List.set_cons_zero, List.set_cons_succ]
    exact rfl
   ·
    exact Below.refl _ _
   ·
    exact IsOut
  refine ⟨fun u W hb hd K hK => ?_, ?_⟩
  ·
   simp only [Facts, nthR, Is, and_true] at hd
   simp only [hd] at hK ⊢
   clear hd
   go_simp
   apply hK
   ·
    simp only [Act.put, List.setIfInBounds_toArray, List.set_cons_zero, List.set_cons_succ]
    exact rfl
   ·
    exact Below.refl _ _
   ·
    exact IsOut
  exact trivial
 ·
  exact (.is (.is (.is (.is (.is (.is .nil))))))
 intro u w7 hb hd
 simp only [List.drop_succ_cons, List.drop_zero]
 simp only [Facts, nthR, Is, and_true] at hd
 obtain ⟨h4, h5⟩ := hd
 simp only [h4, h5]
 clear h4 h5
 replace bg3 := bg3.below hb lg3
 replace bg4 := bg4.below hb lg4
 replace hb0 := hb0.trans (hb.mono hb0.size)
 replace lg3 := bg3.lt
 replace lg4 := bg4.lt
 replace fp := fp.below hb
 replace fq := fq.below hb
 clear hb
 refine wpList_new_store rfl 22 rfl rfl (zero32.map B8) zeroB32 rfl rfl rfl ((xB p38).map B8) (fun _ => rfl) (fun _ => rfl) (info40.trans (by rw [List.length_map, (Lib.hid (xB_length p38)).out])) (by first | with_reducible rfl | rw [List.length_map, ((Lib.hid (by decide) : Hid (zero32.length = 32))).out, List.length_map, (Lib.hid (xB_length p38)).out] | rw [List.length_map, ((Lib.hid (by decide) : Hid (zero32.length = 32))).out]) (one8 _) ?_
 intro g13 w8 hg bg13 hb
 have og13 := Lib.hid (show w.heap.size ≤ g13 ∧ g3 < g13 ∧ g4 < g13 from ⟨Nat.le_trans hb0.size (Nat.le_of_eq hg.symm), Nat.lt_of_lt_of_le lg3 (Nat.le_of_eq hg.symm), Nat.lt_of_lt_of_le lg4 (Nat.le_of_eq hg.symm)⟩)
 clear hg
 replace bg3 := bg3.below hb lg3
 replace bg4 := bg4.below hb lg4
 replace hb0 := hb0.trans (hb.mono hb0.size)
 replace lg3 := bg3.lt
 replace lg4 := bg4.lt
 replace fp := fp.below hb
 replace fq := fq.below hb
 clear hb
 have lg13 := bg13.lt
 try simp only [Act.put, List.setIfInBounds_toArray, List.set_cons_zero, List.set_cons_succ]
 go_upto_region 6 with (fail)
 obtain ⟨p44, hp44⟩ : ∃ s : Pt, Hid (s = mulG (vB * vA)) := ⟨_, Lib.hid rfl⟩
 apply wp_plain_once (m := 6) (J := [[], [], [0, 1], [2], [3], [3]]) (Je := [4, 5]) (Rs := [Is _, Is _, Is _, Is _, Is _, Is _])
 ·
  kernel_rfl
 ·
  kernel_rfl
 ·
  intro u
  simp only [List.take_succ_cons, List.take_zero, List.map_cons, List.map_nil, fillU, List.setIfInBounds_toArray, List.set_cons_zero, List.set_cons_succ, Nat.reduceAdd]
  exact rfl
 ·
  simp only [List.take_succ_cons, List.take_zero]
  refine ⟨fun u W hb hd K hK => ?_, ?_⟩
  ·
   clear hd
   rw [if_pos (by rfl)]
   refine wp_load_mid 22 (.tmp 4) rfl g4 0 rfl (B.map B8) _ (rangeAt_of_blk (bg4.below hb lg4)) Tryd.underlying22 rfl (info40.trans (by rw [List.length_map, (hB).out])) ?_
   exact hK _ _ _ rfl (Below.refl _ _) IsOut
  refine ⟨fun u W hb hd K hK => ?_, ?_⟩
  ·
   clear hd
   go_simp
   apply hK
   ·
    simp only [Act.put, List.setIfInBounds_toArray, List.set_cons_zero, List.set_cons_succ]
    exact rfl
   ·
    exact Below.refl _ _
   ·
    exact IsOut
  refine ⟨fun u W hb hd K hK => ?_, ?_⟩
  ·
   simp only [Facts, nthR, Is, and_true] at hd
   simp only [hd] at hK ⊢
   clear hd
   go_simp
   refine (curveShared_2 B Ap bp.length cp bp _ (hT.up hb0 hb) (hB) rfl ((fp.below hb).toIn (Nat.le_refl _)) _ _ (Lib.hid (xB_length Pp)) (Lib.hid (yB_length Pp)) hSB hXp hYp hEp vA vB hvB hSpp p44 hp44).mono ?_
   rintro e wy ⟨rfl, hby⟩
   exact hK _ _ _ rfl hby IsOut
  refine ⟨fun u W hb hd K hK => ?_, ?_⟩
  ·
   simp only [Facts, nthR, Is, and_true] at hd
   simp only [hd] at hK ⊢
   clear hd
   go_simp
   apply hK
   ·
    simp only [Act.put, List.setIfInBounds_toArray, List.set_cons_zero, List.set_cons_succ]
    exact rfl
   ·
    exact Below.refl _ _
   ·
    exact IsOut
  refine ⟨fun u W hb hd K hK => ?_, ?_⟩
  ·
   simp only [Facts, nthR, Is, and_true] at hd
   simp only [hd] at hK ⊢
   clear hd
   go_simp
   apply hK
   ·
    simp only [Act.put, List.setIfInBounds_toArray, List.set_cons_zero, List.set_cons_succ]
    exact rfl
   ·
    exact Below.refl _ _
   ·
    exact IsOut
  refine ⟨fun u W hb hd K hK => ?_, ?_⟩
  ·
   simp only [Facts, nthR, Is, and_true] at hd
   simp only [hd] at hK ⊢
   clear hd
   go_simp
   apply hK
   ·
    simp only [Act.put, List.setIfInBounds_toArray, List.set_cons_zero, List.set_cons_succ]
    exact rfl
   ·
    exact Below.refl _ _
   ·
    exact IsOut
  exact trivial
 ·
  exact (.is (.is (.is (.is (.is (.is .nil))))))
 intro u w9 hb hd
 simp only [List.drop_succ_cons, List.drop_zero]
 simp only [Facts, nthR, Is, and_true] at hd
 obtain ⟨h4, h5⟩ := hd
 simp only [h4, h5]
 clear h4 h5
 replace bg3 := bg3.below hb lg3
 replace bg4 := bg4.below hb lg4
 replace bg13 := bg13.below hb lg13
 replace hb0 := hb0.trans (hb.mono hb0.size)
 replace lg3 := bg3.lt
 replace lg4 := bg4.lt
 replace lg13 := bg13.lt
 replace fp := fp.below hb
 replace fq := fq.below hb
 clear hb
 refine wpList_new_store rfl 22 rfl rfl (zero32.map B8) zeroB32 rfl rfl rfl ((xB p44).map B8) (fun _ => rfl) (fun _ => rfl) (info40.trans (by rw [List.length_map, (Lib.hid (xB_length p44)).out])) (by first | with_reducible rfl | rw [List.length_map, ((Lib.hid (by decide) : Hid (zero32.length = 32))).out, List.length_map, (Lib.hid (xB_length p44)).out] | rw [List.length_map, ((Lib.hid (by decide) : Hid (zero32.length = 32))).out]) (one8 _) ?_
 intro g15 w10 hg bg15 hb
 have og15 := Lib.hid (show w.heap.size ≤ g15 ∧ g3 < g15 ∧ g4 < g15 ∧ g13 < g15 from ⟨Nat.le_trans hb0.size (Nat.le_of_eq hg.symm), Nat.lt_of_lt_of_le lg3 (Nat.le_of_eq hg.symm), Nat.lt_of_lt_of_le lg4 (Nat.le_of_eq hg.symm), Nat.lt_of_lt_of_le lg13 (Nat.le_of_eq hg.symm)⟩)
 clear hg
 replace bg3 := bg3.below hb lg3
 replace bg4 := bg4.below hb lg4
 replace bg13 := bg13.below hb lg13
 replace hb0 := hb0.trans (hb.mono hb0.size)
 replace lg3 := bg3.lt
 replace lg4 := bg4.lt
 replace lg13 := bg13.lt
 replace fp := fp.below hb
 replace fq := fq.below hb
 clear hb
 have lg15 := bg15.lt
 try simp only [Act.put, List.setIfInBounds_toArray, List.set_cons_zero, List.set_cons_succ]
 go_upto_region 7 with (fail)
 apply wp_plain_once (m := 22) (J := [[], [0], [1], [2], [2, 3], [2], [2, 4, 5], [2, 6], [7], [8], [8, 9], [8], [8, 10, 11], [8, 12], [13], [14], [14, 15], [14, 16], [17], [17, 18], [14, 17, 19], [14, 20]]) (Je := [21]) (Rs := [Is _, Is _, Is _, Is _, Is _, Is _, Is _, Is _, Is _, Is _, Is _, Is _, Is _, Is _, Is _, Is _, Is _, Is _, Is _, Is _, Is _, Is _])
 ·
  kernel_rfl
 ·
  kernel_rfl
 ·
  intro u
  simp only [List.take_succ_cons, List.take_zero, List.map_cons, List.map_nil, fillU, List.setIfInBounds_toArray, List.set_cons_zero, List.set_cons_succ, Nat.reduceAdd]
  exact rfl
 ·
  simp only [List.take_succ_cons, List.take_zero]
  refine ⟨fun u W hb hd K hK => ?_, ?_⟩
  ·
   clear hd
   go_simp
   refine (CurvesE (hT.up hb0 hb)).mono ?_
   rintro e wy ⟨rfl, hby⟩
   exact hK _ _ _ rfl hby IsOut
  refine ⟨fun u W hb hd K hK => ?_, ?_⟩
  ·
   simp only [Facts, nthR, Is, and_true] at hd
   simp only [hd] at hK ⊢
   clear hd
   go_simp
   apply hK
   ·
    simp only [Act.put, List.setIfInBounds_toArray, List.set_cons_zero, List.set_cons_succ]
    exact rfl
   ·
    exact Below.refl _ _
   ·
    exact IsOut
  refine ⟨fun u W hb hd K hK => ?_, ?_⟩
  ·
   simp only [Facts, nthR, Is, and_true] at hd
   simp only [hd] at hK ⊢
   clear hd
   go_simp
   apply hK
   ·
    simp only [Act.put, List.setIfInBounds_toArray, List.set_cons_zero, List.set_cons_succ]
    exact rfl
   ·
    exact Below.refl _ _
   ·
    exact IsOut
  refine ⟨fun u W hb hd K hK => ?_, ?_⟩
  ·
   simp only [Facts, nthR, Is, and_true] at hd
   simp only [hd] at hK ⊢
   clear hd
   go_simp
   apply hK
   ·
    simp only [Act.put, List.setIfInBounds_toArray, List.set_cons_zero, List.set_cons_succ]
    exact rfl
   ·
    exact Below.refl _ _
   ·
    exact IsOut
  refine ⟨fun u W hb hd K hK => ?_, ?_⟩
  ·
   simp only [Facts, nthR, Is, and_true] at hd
   simp only [hd] at hK ⊢
   clear hd
   go_simp
   apply hK
   ·
    simp only [Act.put, List.setIfInBounds_toArray, List.set_cons_zero, List.set_cons_succ]
    exact rfl
   ·
    exact Below.refl _ _
   ·
    exact IsOut
  refine ⟨fun u W hb hd K hK => ?_, ?_⟩
  ·
   simp only [Facts, nthR, Is, and_true] at hd
   simp only [hd] at hK ⊢
   clear hd
   go_simp
   apply hK
   ·
    simp only [Act.put, List.setIfInBounds_toArray, List.set_cons_zero, List.set_cons_succ]
    exact rfl
   ·
    exact Below.refl _ _
   ·
    exact IsOut
  refine ⟨fun u W hb hd K hK => ?_, ?_⟩
  ·
   simp only [Facts, nthR, Is, and_true] at hd
   simp only [hd] at hK ⊢
   clear hd
   go_simp
   apply hK
   ·
    simp only [Act.put, List.setIfInBounds_toArray, List.set_cons_zero, List.set_cons_succ]
    exact rfl
   ·
    exact Below.refl _ _
   ·
    exact IsOut
  refine ⟨fun u W hb hd K hK => ?_, ?_⟩
  ·
   simp only [Facts, nthR, Is, and_true] at hd
   simp only [hd] at hK ⊢
   clear hd
   go_simp
   apply hK
   ·
    simp only [Act.put, List.setIfInBounds_toArray, List.set_cons_zero, List.set_cons_succ]
    exact rfl
   ·
    exact Below.refl _ _
   ·
    exact IsOut
  refine ⟨fun u W hb hd K hK => ?_, ?_⟩
  ·
   simp only [Facts, nthR, Is, and_true] at hd
   simp only [hd] at hK ⊢
   clear hd
   go_simp
   apply hK
   ·
    simp only [Act.put, List.setIfInBounds_toArray, List.set_cons_zero, List.set_cons_succ]
    exact rfl
   ·
    exact Below.refl _ _
   ·
    exact IsOut
  refine ⟨fun u W hb hd K hK => ?_, ?_⟩
  ·
   simp only [Facts, nthR, Is, and_true] at hd
   simp only [hd] at hK ⊢
   clear hd
   go_simp
   apply hK
   ·
    simp only [Act.put, List.setIfInBounds_toArray, List.set_cons_zero, List.set_cons_succ]
    exact rfl
   ·
    exact Below.refl _ _
   ·
    exact IsOut
  refine ⟨fun u W hb hd K hK => ?_, ?_⟩
  ·
   simp only [Facts, nthR, Is, and_true] at hd
   simp only [hd] at hK ⊢
   clear hd
   go_simp
   apply hK
   ·
    simp only [Act.put, List.setIfInBounds_toArray, List.set_cons_zero, List.set_cons_succ]
    exact rfl
   ·
    exact Below.refl _ _
   ·
    exact IsOut
  refine ⟨fun u W hb hd K hK => ?_, ?_⟩
  ·
   simp only [Facts, nthR, Is, and_true] at hd
   simp only [hd] at hK ⊢
   clear hd
   go_simp
   apply hK
   ·
    simp only [Act.put, List.setIfInBounds_toArray, List.set_cons_zero, List.set_cons_succ]
    exact rfl
   ·
    exact Below.refl _ _
   ·
    exact IsOut
  refine ⟨fun u W hb hd K hK => ?_, ?_⟩
  ·
   simp only [Facts, nthR, Is, and_true] at hd
   simp only [hd] at hK ⊢
   clear hd
   go_simp
   apply hK
   ·
    simp only [Act.put, List.setIfInBounds_toArray, List.set_cons_zero, List.set_cons_succ]
    exact rfl
   ·
    exact Below.refl _ _
   ·
    exact IsOut
  refine ⟨fun u W hb hd K hK => ?_, ?_⟩
  ·
   simp only [Facts, nthR, Is, and_true] at hd
   simp only [hd] at hK ⊢
   clear hd
   go_simp
   apply hK
   ·
    simp only [Act.put, List.setIfInBounds_toArray, List.set_cons_zero, List.set_cons_succ]
    exact rfl
   ·
    exact Below.refl _ _
   ·
    exact IsOut
  refine ⟨fun u W hb hd K hK => ?_, ?_⟩
  ·
   simp only [Facts, nthR, Is, and_true] at hd
   simp only [hd] at hK ⊢
   clear hd
   go_simp
   apply hK
   ·
    simp only [Act.put, List.setIfInBounds_toArray, List.set_cons_zero, List.set_cons_succ]
    exact rfl
   ·
    exact Below.refl _ _
   ·
    exact IsOut
  refine ⟨fun u W hb hd K hK => ?_, ?_⟩
  ·
   simp only [Facts, nthR, Is, and_true] at hd
   simp only [hd] at hK ⊢
   clear hd
   go_simp
   apply hK
   ·
    simp only [Act.put, List.setIfInBounds_toArray, List.set_cons_zero, List.set_cons_succ]
    exact rfl
   ·
    exact Below.refl _ _
   ·
    exact IsOut
  refine ⟨fun u W hb hd K hK => ?_, ?_⟩
  ·
   simp only [Facts, nthR, Is, and_true] at hd
   simp only [hd] at hK ⊢
   clear hd
   go_simp
   apply hK
   ·
    simp only [Act.put, List.setIfInBounds_toArray, List.set_cons_zero, List.set_cons_succ]
    exact rfl
   ·
    exact Below.refl _ _
   ·
    exact IsOut
  refine ⟨fun u W hb hd K hK => ?_, ?_⟩
  ·
   simp only [Facts, nthR, Is, and_true] at hd
   simp only [hd] at hK ⊢
   clear hd
   go_simp
   apply hK
   ·
    simp only [Act.put, List.setIfInBounds_toArray, List.set_cons_zero, List.set_cons_succ]
    exact rfl
   ·
    exact Below.refl _ _
   ·
    exact IsOut
  refine ⟨fun u W hb hd K hK => ?_, ?_⟩
  ·
   simp only [Facts, nthR, Is, and_true] at hd
   simp only [hd] at hK ⊢
   clear hd
   go_simp
   apply hK
   ·
    simp only [Act.put, List.setIfInBounds_toArray, List.set_cons_zero, List.set_cons_succ]
    exact rfl
   ·
    exact Below.refl _ _
   ·
    exact IsOut
  refine ⟨fun u W hb hd K hK => ?_, ?_⟩
  ·
   simp only [Facts, nthR, Is, and_true] at hd
   simp only [hd] at hK ⊢
   clear hd
   go_simp
   apply hK
   ·
    simp only [Act.put, List.setIfInBounds_toArray, List.set_cons_zero, List.set_cons_succ]
    exact rfl
   ·
    exact Below.refl _ _
   ·
    exact IsOut
  refine ⟨fun u W hb hd K hK => ?_, ?_⟩
  ·
   simp only [Facts, nthR, Is, and_true] at hd
   simp only [hd] at hK ⊢
   clear hd
   go_simp
   apply hK
   ·
    simp only [Act.put, List.setIfInBounds_toArray, List.set_cons_zero, List.set_cons_succ]
    exact rfl
   ·
    exact Below.refl _ _
   ·
    exact IsOut
  refine ⟨fun u W hb hd K hK => ?_, ?_⟩
  ·
   simp only [Facts, nthR, Is, and_true] at hd
   simp only [hd] at hK ⊢
   clear hd
   go_simp
   apply hK
   ·
    simp only [Act.put, List.setIfInBounds_toArray, List.set_cons_zero, List.set_cons_succ]
    exact rfl
   ·
    exact Below.refl _ _
   ·
    exact IsOut
  exact trivial
 ·
  exact (.is (.is (.is (.is (.is (.is (.is (.is (.is (.is (.is (.is (.is (.is (.is (.is (.is (.is (.is (.is (.is (.is .nil))))))))))))))))))))))
 intro u w11 hb hd
 simp only [List.drop_succ_cons, List.drop_zero]
 simp only [Facts, nthR, Is, and_true] at hd
 have h21 := hd
 clear hd
 simp only [h21]
 clear h21
 replace bg3 := bg3.below hb lg3
 replace bg4 := bg4.below hb lg4
 replace bg13 := bg13.below hb lg13
 replace bg15 := bg15.below hb lg15
 replace hb0 := hb0.trans (hb.mono hb0.size)
 replace lg3 := bg3.lt
 replace lg4 := bg4.lt
 replace lg13 := bg13.lt
 replace lg15 := bg15.lt
 replace fp := fp.below hb
 replace fq := fq.below hb
 clear hb
 go_upto_region 9 with (fail)
 apply wp_plain_once (m := 2) (J := [[], [0]]) (Je := [1]) (Rs := [Is _, Is _])
 ·
  kernel_rfl
 ·
  kernel_rfl
 ·
  intro u
  simp only [List.take_succ_cons, List.take_zero, List.map_cons, List.map_nil, fillU, List.setIfInBounds_toArray, List.set_cons_zero, List.set_cons_succ, Nat.reduceAdd]
  exact rfl
 ·
  simp only [List.take_succ_cons, List.take_zero]
  refine ⟨fun u W hb hd K hK => ?_, ?_⟩
  ·
   clear hd
   go_simp
   apply hK
   ·
    simp only [Act.put, List.setIfInBounds_toArray, List.set_cons_zero, List.set_cons_succ]
    exact rfl
   ·
    exact Below.refl _ _
   ·
    exact IsOut
  refine ⟨fun u W hb hd K hK => ?_, ?_⟩
  ·
   simp only [Facts, nthR, Is, and_true] at hd
   simp only [hd] at hK ⊢
   clear hd
   go_simp
   apply hK
   ·
    simp only [Act.put, List.setIfInBounds_toArray, List.set_cons_zero, List.set_cons_succ]
    exact rfl
   ·
    exact Below.refl _ _
   ·
    exact IsOut
  exact trivial
 ·
  exact (.is (.is .nil))
 intro u w12 hb hd
 simp only [List.drop_succ_cons, List.drop_zero]
 simp only [Facts, nthR, Is, and_true] at hd
 have h1 := hd
 clear hd
 simp only [h1]
 clear h1
 replace bg3 := bg3.below hb lg3
 replace bg4 := bg4.below hb lg4
 replace bg13 := bg13.below hb lg13
 replace bg15 := bg15.below hb lg15
 replace hb0 := hb0.trans (hb.mono hb0.size)
 replace lg3 := bg3.lt
 replace lg4 := bg4.lt
 replace lg13 := bg13.lt
 replace lg15 := bg15.lt
 replace fp := fp.below hb
 replace fq := fq.below hb
 clear hb
 go_upto_region 11 with (fail)
 obtain ⟨p95, hp95⟩ : ∃ s : Pt, Hid (s = mulG (vB)) := ⟨_, Lib.hid rfl⟩
 obtain ⟨p96, hp96⟩ : ∃ s : Pt, Hid (s = mulG (vA * vB)) := ⟨_, Lib.hid rfl⟩
 have E11 := Lib.hid (show xB p38 = xB p44 by rw [hp38.out, hp44.out, Nat.mul_comm])
 have E20 := Lib.hid (show xB p38 = xB p96 by rw [hp38.out, hp96.out])
 apply wp_region_once_tail (m := 23) (Z := []) (D := [[], [0], [0, 1], [0, 1, 2], [0, 1, 2, 3], [0, 1, 2, 3, 4], [0, 1, 2, 3, 4, 5], [0, 1, 2, 3, 4, 5, 6], [0, 1, 2, 3, 4, 5, 6, 7], [0, 1, 2, 3, 4, 5, 6, 7, 8], [0, 1, 2, 3, 4, 5, 6, 7, 8], [0, 1, 2, 3, 4, 5, 6, 7, 8, 9, 10], [0, 1, 2, 3, 4, 5, 6, 7, 8, 9, 10, 11], [0, 1, 2, 3, 4, 5, 6, 7, 8, 9, 10, 11, 12], [0, 1, 2, 3, 4, 5, 6, 7, 8, 9, 10, 11, 12, 13], [0, 1, 2, 3, 4, 5, 6, 7, 8, 9, 10, 11, 12, 13], [0, 1, 2, 3, 4, 5, 6, 7, 8, 9, 10, 11, 12, 13], [0, 1, 2, 3, 4, 5, 6, 7, 8, 9, 10, 11, 12, 13, 16], [0, 1, 2, 3, 4, 5, 6, 7, 8, 9, 10, 11, 12, 13, 15, 16, 17], [0, 1, 2, 3, 4, 5, 6, 7, 8, 9, 10, 11, 12, 13, 15, 16, 17, 18], [0, 1, 2, 3, 4, 5, 6, 7, 8, 9, 10, 11, 12, 13, 14, 15, 16, 17, 18, 19], [0, 1, 2, 3, 4, 5, 6, 7, 8, 9, 10, 11, 12, 13, 14, 15, 16, 17, 18, 19, 20], [0, 1, 2, 3, 4, 5, 6, 7, 8, 9, 10, 11, 12, 13, 14, 15, 16, 17, 18, 19, 20, 21]]) (J := [[], [0], [1], [1, 2], [1, 3], [4], [4, 5], [1, 4, 6], [1, 7], [8], [8], [8, 9, 10], [1, 8, 11], [1, 12], [13], [13], [13], [13, 16], [13, 15, 17], [13, 18], [13, 14, 19], [1, 13, 20], [1, 21]]) (Je := [22]) (Rs := [Is _, Is _, Is _, Is _, Is _, Is _, Is _, Is _, Is _, Is _, Is _, Is _, Is _, Is _, Is _, Is _, Is _, Is _, Is _, Is _, Is _, Is _, Is _])
 ·
  kernel_rfl
 ·
  kernel_rfl
 ·
  kernel_rfl
 ·
  kernel_rfl
 ·
  kernel_rfl
 ·
  kernel_rfl
 ·
  kernel_rfl
 ·
  exact fun h => absurd rfl h
 ·
  intro u
  simp only [List.take_succ_cons, List.take_zero, List.map_cons, List.map_nil, fillU, List.setIfInBounds_toArray, List.set_cons_zero, List.set_cons_succ, Nat.reduceAdd]
  exact rfl
 ·
  simp only [List.take_succ_cons, List.take_zero]
  refine ⟨fun u W hb hd K hK => ?_, ?_⟩
  ·
   clear hd
   go_simp
   apply hK
   ·
    simp only [Act.put, List.setIfInBounds_toArray, List.set_cons_zero, List.set_cons_succ]
    exact rfl
   ·
    exact Below.refl _ _
   ·
    exact IsOut
  refine ⟨fun u W hb hd K hK => ?_, ?_⟩
  ·
   simp only [Facts, nthR, Is, and_true] at hd
   simp only [hd] at hK ⊢
   clear hd
   go_simp
   apply hK
   ·
    simp only [Act.put, List.setIfInBounds_toArray, List.set_cons_zero, List.set_cons_succ]
    exact rfl
   ·
    exact Below.refl _ _
   ·
    exact IsOut
  refine ⟨fun u W hb hd K hK => ?_, ?_⟩
  ·
   simp only [Facts, nthR, Is, and_true] at hd
   simp only [hd] at hK ⊢
   clear hd
   go_simp
   apply hK
   ·
    simp only [Act.put, List.setIfInBounds_toArray, List.set_cons_zero, List.set_cons_succ]
    exact rfl
   ·
    exact Below.refl _ _
   ·
    exact IsOut
  refine ⟨fun u W hb hd K hK => ?_, ?_⟩
  ·
   simp only [Facts, nthR, Is, and_true] at hd
   simp only [hd] at hK ⊢
   clear hd
   go_simp
   apply hK
   ·
    simp only [Act.put, List.setIfInBounds_toArray, List.set_cons_zero, List.set_cons_succ]
    exact rfl
   ·
    exact Below.refl _ _
   ·
    exact IsOut
  refine ⟨fun u W hb hd K hK => ?_, ?_⟩
  ·
   simp only [Facts, nthR, Is, and_true] at hd
   simp only [hd] at hK ⊢
   clear hd
   go_simp
   apply hK
   ·
    simp only [Act.put, List.setIfInBounds_toArray, List.set_cons_zero, List.set_cons_succ]
    exact rfl
   ·
    exact Below.refl _ _
   ·
    exact IsOut
  refine ⟨fun u W hb hd K hK => ?_, ?_⟩
  ·
   simp only [Facts, nthR, Is, and_true] at hd
   simp only [hd] at hK ⊢
   clear hd
   go_simp
   apply hK
   ·
    simp only [Act.put, List.setIfInBounds_toArray, List.set_cons_zero, List.set_cons_succ]
    exact rfl
   ·
    exact Below.refl _ _
   ·
    exact IsOut
  refine ⟨fun u W hb hd K hK => ?_, ?_⟩
  ·
   simp only [Facts, nthR, Is, and_true] at hd
   simp only [hd] at hK ⊢
   clear hd
   go_simp
   apply hK
   ·
    simp only [Act.put, List.setIfInBounds_toArray, List.set_cons_zero, List.set_cons_succ]
    exact rfl
   ·
    exact Below.refl _ _
   ·
    exact IsOut
  refine ⟨fun u W hb hd K hK => ?_, ?_⟩
  ·
   simp only [Facts, nthR, Is, and_true] at hd
   simp only [hd] at hK ⊢
   clear hd
   go_simp
   apply hK
   ·
    simp only [Act.put, List.setIfInBounds_toArray, List.set_cons_zero, List.set_cons_succ]
    exact rfl
   ·
    exact Below.refl _ _
   ·
    exact IsOut
  refine ⟨fun u W hb hd K hK => ?_, ?_⟩
  ·
   simp only [Facts, nthR, Is, and_true] at hd
   simp only [hd] at hK ⊢
   clear hd
   go_simp
   apply hK
   ·
    simp only [Act.put, List.setIfInBounds_toArray, List.set_cons_zero, List.set_cons_succ]
    exact rfl
   ·
    exact Below.refl _ _
   ·
    exact IsOut
  refine ⟨fun u W hb hd K hK => ?_, ?_⟩
  ·
   simp only [Facts, nthR, Is, and_true] at hd
   simp only [hd] at hK ⊢
   clear hd
   rw [if_pos (by rfl)]
   refine wp_load_mid 22 (.tmp 13) rfl g13 0 rfl ((xB p38).map B8) _ (rangeAt_of_blk (bg13.below hb lg13)) Tryd.underlying22 rfl (info40.trans (by rw [List.length_map, (Lib.hid (xB_length p38)).out])) ?_
   exact hK _ _ _ rfl (Below.refl _ _) IsOut
  refine ⟨fun u W hb hd K hK => ?_, ?_⟩
  ·
   simp only [Facts, nthR, Is, and_true] at hd
   simp only [hd] at hK ⊢
   clear hd
   rw [if_pos (by rfl)]
   refine wp_load_mid 22 (.tmp 15) rfl g15 0 rfl ((xB p44).map B8) _ (rangeAt_of_blk (bg15.below hb lg15)) Tryd.underlying22 rfl (info40.trans (by rw [List.length_map, (Lib.hid (xB_length p44)).out])) ?_
   exact hK _ _ _ rfl (Below.refl _ _) IsOut
  refine ⟨fun u W hb hd K hK => ?_, ?_⟩
  ·
   simp only [Facts, nthR, Is, and_true] at hd
   simp only [hd] at hK ⊢
   clear hd
   rw [if_pos (by rfl)]
   refine wp_neqR rfl rfl rfl guardB32 (show (Op.equalIn 10000 22 (.agg ((xB p38).map B8).toArray) (.agg ((xB p44).map B8).toArray)).run Tryd.prog W = .ok (!false) W from EqB (Lib.hid (xB_length p38)) (Lib.hid (xB_length p44)) (Lib.hid (beq_iff_eq.2 E11.out)) W) ?_
   exact hK _ _ (.bool false) rfl (Below.refl _ _) IsOut
  refine ⟨fun u W hb hd K hK => ?_, ?_⟩
  ·
   simp only [Facts, nthR, Is, and_true] at hd
   simp only [hd] at hK ⊢
   clear hd
   go_simp
   apply hK
   ·
    simp only [Act.put, List.setIfInBounds_toArray, List.set_cons_zero, List.set_cons_succ]
    exact rfl
   ·
    exact Below.refl _ _
   ·
    exact IsOut
  refine ⟨fun u W hb hd K hK => ?_, ?_⟩
  ·
   simp only [Facts, nthR, Is, and_true] at hd
   simp only [hd] at hK ⊢
   clear hd
   go_simp
   apply hK
   ·
    simp only [Act.put, List.setIfInBounds_toArray, List.set_cons_zero, List.set_cons_succ]
    exact rfl
   ·
    exact Below.refl _ _
   ·
    exact IsOut
  refine ⟨fun u W hb hd K hK => ?_, ?_⟩
  ·
   simp only [Facts, nthR, Is, and_true] at hd
   simp only [hd] at hK ⊢
   clear hd
   rw [if_pos (by rfl)]
   refine wp_load_mid 22 (.tmp 13) rfl g13 0 rfl ((xB p38).map B8) _ (rangeAt_of_blk (bg13.below hb lg13)) Tryd.underlying22 rfl (info40.trans (by rw [List.length_map, (Lib.hid (xB_length p38)).out])) ?_
   exact hK _ _ _ rfl (Below.refl _ _) IsOut
  refine ⟨fun u W hb hd K hK => ?_, ?_⟩
  ·
   simp only [Facts, nthR, Is, and_true] at hd
   simp only [hd] at hK ⊢
   clear hd
   rw [if_pos (by rfl)]
   refine wp_load_mid 22 (.tmp 3) rfl g3 0 rfl (A.map B8) _ (rangeAt_of_blk (bg3.below hb lg3)) Tryd.underlying22 rfl (info40.trans (by rw [List.length_map, (hA).out])) ?_
   exact hK _ _ _ rfl (Below.refl _ _) IsOut
  refine ⟨fun u W hb hd K hK => ?_, ?_⟩
  ·
   simp only [Facts, nthR, Is, and_true] at hd
   simp only [hd] at hK ⊢
   clear hd
   rw [if_pos (by rfl)]
   refine wp_load_mid 22 (.tmp 4) rfl g4 0 rfl (B.map B8) _ (rangeAt_of_blk (bg4.below hb lg4)) Tryd.underlying22 rfl (info40.trans (by rw [List.length_map, (hB).out])) ?_
   exact hK _ _ _ rfl (Below.refl _ _) IsOut
  refine ⟨fun u W hb hd K hK => ?_, ?_⟩
  ·
   simp only [Facts, nthR, Is, and_true] at hd
   simp only [hd] at hK ⊢
   clear hd
   go_simp
   refine (OfE (hT.up hb0 hb) (hB) (hvB) hp95).mono ?_
   rintro e wy ⟨rfl, hby⟩
   exact hK _ _ _ rfl hby IsOut
  refine ⟨fun u W hb hd K hK => ?_, ?_⟩
  ·
   simp only [Facts, nthR, Is, and_true] at hd
   simp only [hd] at hK ⊢
   clear hd
   go_simp
   refine (TimesP (hT.up hb0 hb) (hA) (hvA) (hp95) hp96).mono ?_
   rintro e wy ⟨rfl, hby⟩
   exact hK _ _ _ rfl hby IsOut
  refine ⟨fun u W hb hd K hK => ?_, ?_⟩
  ·
   simp only [Facts, nthR, Is, and_true] at hd
   simp only [hd] at hK ⊢
   clear hd
   rw [if_pos (by rfl)]
   refine wp_fieldX rfl rfl ?_
   exact hK _ _ _ rfl (Below.refl _ _) IsOut
  refine ⟨fun u W hb hd K hK => ?_, ?_⟩
  ·
   simp only [Facts, nthR, Is, and_true] at hd
   simp only [hd] at hK ⊢
   clear hd
   rw [if_pos (by rfl)]
   refine wp_neqR rfl rfl rfl guardB32 (show (Op.equalIn 10000 22 (.agg ((xB p38).map B8).toArray) (.agg ((xB p96).map B8).toArray)).run Tryd.prog W = .ok (!false) W from EqB (Lib.hid (xB_length p38)) (Lib.hid (xB_length p96)) (Lib.hid (beq_iff_eq.2 E20.out)) W) ?_
   exact hK _ _ (.bool false) rfl (Below.refl _ _) IsOut
  refine ⟨fun u W hb hd K hK => ?_, ?_⟩
  ·
   simp only [Facts, nthR, Is, and_true] at hd
   simp only [hd] at hK ⊢
   clear hd
   go_simp
   apply hK
   ·
    simp only [Act.put, List.setIfInBounds_toArray, List.set_cons_zero, List.set_cons_succ]
    exact rfl
   ·
    exact Below.refl _ _
   ·
    exact IsOut
  refine ⟨fun u W hb hd K hK => ?_, ?_⟩
  ·
   simp only [Facts, nthR, Is, and_true] at hd
   simp only [hd] at hK ⊢
   clear hd
   go_simp
   apply hK
   ·
    simp only [Act.put, List.setIfInBounds_toArray, List.set_cons_zero, List.set_cons_succ]
    exact rfl
   ·
    exact Below.refl _ _
   ·
    exact IsOut
  exact trivial
 ·
  skip
  exact trivial
 ·
  exact (.is (.is (.is (.is (.is (.is (.is (.is (.is (.is (.is (.is (.is (.is (.is (.is (.is (.is (.is (.is (.is (.is (.is .nil)))))))))))))))))))))))
 intro u w13 hb hd
 simp only [List.drop_succ_cons, List.drop_zero]
 simp only [Facts, nthR, Is, and_true] at hd
 have h22 := hd
 clear hd
 simp only [h22]
 clear h22
 replace bg3 := bg3.below hb lg3
 replace bg4 := bg4.below hb lg4
 replace bg13 := bg13.below hb lg13
 replace bg15 := bg15.below hb lg15
 replace hb0 := hb0.trans (hb.mono hb0.size)
 replace lg3 := bg3.lt
 replace lg4 := bg4.lt
 replace lg13 := bg13.lt
 replace lg15 := bg15.lt
 replace fp := fp.below hb
 replace fq := fq.below hb
 clear hb
 go_upto_region 13 with (fail)
 apply wp_plain_once (m := 5) (J := [[], [0], [1], [2], [2]]) (Je := [3, 4]) (Rs := [Is _, Is _, Is _, Is _, Is _])
 ·
  kernel_rfl
 ·
  kernel_rfl
 ·
  intro u
  simp only [List.take_succ_cons, List.take_zero, List.map_cons, List.map_nil, fillU, List.setIfInBounds_toArray, List.set_cons_zero, List.set_cons_succ, Nat.reduceAdd]
  exact rfl
 ·
  simp only [List.take_succ_cons, List.take_zero]
  refine ⟨fun u W hb hd K hK => ?_, ?_⟩
  ·
   clear hd
   go_simp
   apply hK
   ·
    simp only [Act.put, List.setIfInBounds_toArray, List.set_cons_zero, List.set_cons_succ]
    exact rfl
   ·
    exact Below.refl _ _
   ·
    exact IsOut
  refine ⟨fun u W hb hd K hK => ?_, ?_⟩
  ·
   simp only [Facts, nthR, Is, and_true] at hd
   simp only [hd] at hK ⊢
   clear hd
   go_simp
   refine (ReadH hXj hYj hEj hN (hI.up (hb0.trans (hb.mono hb0.size))) (hT.up hb0 hb)).mono ?_
   rintro e wy ⟨rfl, hby⟩
   exact hK _ _ _ rfl hby IsOut
  refine ⟨fun u W hb hd K hK => ?_, ?_⟩
  ·
   simp only [Facts, nthR, Is, and_true] at hd
   simp only [hd] at hK ⊢
   clear hd
   go_simp
   apply hK
   ·
    simp only [Act.put, List.setIfInBounds_toArray, List.set_cons_zero, List.set_cons_succ]
    exact rfl
   ·
    exact Below.refl _ _
   ·
    exact IsOut
  refine ⟨fun u W hb hd K hK => ?_, ?_⟩
  ·
   simp only [Facts, nthR, Is, and_true] at hd
   simp only [hd] at hK ⊢
   clear hd
   go_simp
   apply hK
   ·
    simp only [Act.put, List.setIfInBounds_toArray, List.set_cons_zero, List.set_cons_succ]
    exact rfl
   ·
    exact Below.refl _ _
   ·
    exact IsOut
  refine ⟨fun u W hb hd K hK => ?_, ?_⟩
  ·
   simp only [Facts, nthR, Is, and_true] at hd
   simp only [hd] at hK ⊢
   clear hd
   go_simp
   apply hK
   ·
    simp only [Act.put, List.setIfInBounds_toArray, List.set_cons_zero, List.set_cons_succ]
    exact rfl
   ·
    exact Below.refl _ _
   ·
    exact IsOut
  exact trivial
 ·
  exact (.is (.is (.is (.is (.is .nil)))))
 intro u w14 hb hd
 simp only [List.drop_succ_cons, List.drop_zero]
 simp only [Facts, nthR, Is, and_true] at hd
 obtain ⟨h3, h4⟩ := hd
 simp only [h3, h4]
 clear h3 h4
 replace bg3 := bg3.below hb lg3
 replace bg4 := bg4.below hb lg4
 replace bg13 := bg13.below hb lg13
 replace bg15 := bg15.below hb lg15
 replace hb0 := hb0.trans (hb.mono hb0.size)
 replace lg3 := bg3.lt
 replace lg4 := bg4.lt
 replace lg13 := bg13.lt
 replace lg15 := bg15.lt
 replace fp := fp.below hb
 replace fq := fq.below hb
 clear hb
 refine wpList_new_store rfl 24 rfl rfl (ptV none) zeroPt rfl rfl rfl (ptC X Y) (fun _ => rfl) (fun _ => rfl) (infoPt.trans (by rw [ptC_length (hXl).out (hYl).out])) (by first | with_reducible rfl | rw [ptV_length, ptC_length (hXl).out (hYl).out] | rw [ptV_length]) (onePt _ _) ?_
 intro g17 w15 hg bg17 hb
 have og17 := Lib.hid (show w.heap.size ≤ g17 ∧ g3 < g17 ∧ g4 < g17 ∧ g13 < g17 ∧ g15 < g17 from ⟨Nat.le_trans hb0.size (Nat.le_of_eq hg.symm), Nat.lt_of_lt_of_le lg3 (Nat.le_of_eq hg.symm), Nat.lt_of_lt_of_le lg4 (Nat.le_of_eq hg.symm), Nat.lt_of_lt_of_le lg13 (Nat.le_of_eq hg.symm), Nat.lt_of_lt_of_le lg15 (Nat.le_of_eq hg.symm)⟩)
 clear hg
 replace bg3 := bg3.below hb lg3
 replace bg4 := bg4.below hb lg4
 replace bg13 := bg13.below hb lg13
 replace bg15 := bg15.below hb lg15
 replace hb0 := hb0.trans (hb.mono hb0.size)
 replace lg3 := bg3.lt
 replace lg4 := bg4.lt
 replace lg13 := bg13.lt
 replace lg15 := bg15.lt
 replace fp := fp.below hb
 replace fq := fq.below hb
 clear hb
 have lg17 := bg17.lt
 try simp only [Act.put, List.setIfInBounds_toArray, List.set_cons_zero, List.set_cons_succ]
 go_upto_region 14 with (fail)
 apply wp_plain_once (m := 2) (J := [[], [0]]) (Je := [1]) (Rs := [Is _, Is _])
 ·
  kernel_rfl
 ·
  kernel_rfl
 ·
  intro u
  simp only [List.take_succ_cons, List.take_zero, List.map_cons, List.map_nil, fillU, List.setIfInBounds_toArray, List.set_cons_zero, List.set_cons_succ, Nat.reduceAdd]
  exact rfl
 ·
  simp only [List.take_succ_cons, List.take_zero]
  refine ⟨fun u W hb hd K hK => ?_, ?_⟩
  ·
   clear hd
   go_simp
   apply hK
   ·
    simp only [Act.put, List.setIfInBounds_toArray, List.set_cons_zero, List.set_cons_succ]
    exact rfl
   ·
    exact Below.refl _ _
   ·
    exact IsOut
  refine ⟨fun u W hb hd K hK => ?_, ?_⟩
  ·
   simp only [Facts, nthR, Is, and_true] at hd
   simp only [hd] at hK ⊢
   clear hd
   go_simp
   apply hK
   ·
    simp only [Act.put, List.setIfInBounds_toArray, List.set_cons_zero, List.set_cons_succ]
    exact rfl
   ·
    exact Below.refl _ _
   ·
    exact IsOut
  exact trivial
 ·
  exact (.is (.is .nil))
 intro u w16 hb hd
 simp only [List.drop_succ_cons, List.drop_zero]
 simp only [Facts, nthR, Is, and_true] at hd
 have h1 := hd
 clear hd
 simp only [h1]
 clear h1
 replace bg3 := bg3.below hb lg3
 replace bg4 := bg4.below hb lg4
 replace bg13 := bg13.below hb lg13
 replace bg15 := bg15.below hb lg15
 replace bg17 := bg17.below hb lg17
 replace hb0 := hb0.trans (hb.mono hb0.size)
 replace lg3 := bg3.lt
 replace lg4 := bg4.lt
 replace lg13 := bg13.lt
 replace lg15 := bg15.lt
 replace lg17 := bg17.lt
 replace fp := fp.below hb
 replace fq := fq.below hb
 clear hb
 go_upto_region 17 with (fail)
 refine wp_region_lit ?_
 go_wp2_with (fail)
 refine bodyPost_ret (results_tmp Tryd.results8 _ _ _) rfl ?_
 exact ⟨rfl, hb0⟩
theorem curveShares_any (A B : List UInt8) (A3 : Option Addr) (n3 c3 : Nat) (xs : List UInt8) (w : World) (hT : TabsC w) (hA : Hid (A.length = 32)) (hB : Hid (B.length = 32)) (hN : xs.length = n3) (hI : In w w.heap.size A3 c3 xs) : Calls Tryd.prog 8 #[.agg (A.map B8).toArray, .agg (B.map B8).toArray, .slice A3 n3 c3] w fun e w' => e = .returned (.bool true) ∧ Below w.heap.size w w' := by
 cases hSA : secretB A with
 | false =>
  cases hSB : secretB B with
  | false => exact curveShares_000 A B A3 n3 c3 xs w hT hA hB hN hI (Lib.hid hSA) (Lib.hid hSB)
  | true => exact curveShares_010 A B A3 n3 c3 xs w hT hA hB hN hI (Lib.hid hSA) (Lib.hid hSB)
 | true =>
  cases hSB : secretB B with
  | false =>
   cases hok : okR xs with
   | false => exact curveShares_100 A B A3 n3 c3 xs w hT hA hB hN hI (Lib.hid hSA) (Lib.hid hSB) (Lib.hid hok)
   | true => exact curveShares_101 A B A3 n3 c3 xs w hT hA hB hN hI (Lib.hid hSA) (Lib.hid hSB) (Lib.hid hok)
  | true =>
   cases hok : okR xs with
   | false => exact curveShares_110 A B A3 n3 c3 xs w hT hA hB hN hI (Lib.hid hSA) (Lib.hid hSB) (Lib.hid hok)
   | true => exact curveShares_111 A B A3 n3 c3 xs w hT hA hB hN hI (Lib.hid hSA) (Lib.hid hSB) (Lib.hid hok)
end Go.Proofs.YtnkikhnllnbhfaaDoor
