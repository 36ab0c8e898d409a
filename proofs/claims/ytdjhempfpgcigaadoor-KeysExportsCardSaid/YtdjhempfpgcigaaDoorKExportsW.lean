/-
  The walk of the statement KeysExports.
-/
import Derived.Test.YtdjhempfpgcigaaDoorKx
namespace Go.Proofs.YtdjhempfpgcigaaDoor
open Go.RowKit

set_option maxRecDepth 100000 in
set_option maxHeartbeats 1000000 in
theorem keysExports_far (A : Option Addr) (ca : Nat) (key lab ctx : List UInt8) (w : World) (ht : Tabs w) (hfar : 500 < lab.length ∨ 500 < ctx.length) :
    Calls Tryd.prog 5 #[.agg (key.map B8).toArray, .string ⟨lab.toArray⟩, .slice A ctx.length ca] w fun e w' => e = .returned (.bool true) ∧ Below w.heap.size w w' := by
  have hp : decide ((500 : Int) < (lab.length : Int)) = true ∨ (decide ((500 : Int) < (lab.length : Int)) = false ∧ decide ((500 : Int) < (ctx.length : Int)) = true) := by
    by_cases h : 500 < lab.length
    · left; simp; omega
    · right; constructor <;> (simp; omega)
  have hb1 : ∀ X, Below w.heap.size w (w.alloc X) := fun X => (Below.refl _ _).alloc (Nat.le_refl _) _
  clear hfar
  go_enter Tryd.func5, Tryd.ntmps5
  rcases hp with hp | ⟨hp, hp2⟩
  all_goals
    go_wp2_with fail
    refine (lawEarly_any _ (ht.below (hb1 _))).mono ?_
    rintro e w1 ⟨rfl, hb2⟩
    have hfin := (hb1 _).trans (hb2.mono (hb1 _).size)
    clear hb1 hb2
    go_wp2
    go_ret
    exact ⟨rfl, hfin⟩

set_option maxRecDepth 100000 in
set_option maxHeartbeats 1000000 in
theorem keysExports_near (A : Option Addr) (ca : Nat) (key lab ctx : List UInt8) (w : World) (hk : key.length = 32) (ia : In w w.heap.size A ca ctx) (ht : Tabs w) (hl : lab.length ≤ 500) (hc : ctx.length ≤ 500) :
    Calls Tryd.prog 5 #[.agg (key.map B8).toArray, .string ⟨lab.toArray⟩, .slice A ctx.length ca] w fun e w' => e = .returned (.bool true) ∧ Below w.heap.size w w' := by
  have hp : decide ((500 : Int) < (lab.length : Int)) = false := by simp; omega
  have hp2 : decide ((500 : Int) < (ctx.length : Int)) = false := by simp; omega
  obtain ⟨n, hn⟩ : ∃ n : Int, (ctx.length : Int) * 7 - 5 = n := ⟨_, rfl⟩
  have hn2 : n ≤ 8160 := by omega
  have h1 := fun (W : World) (i : In W W.heap.size A ca ctx) (h : Tabs W) => export_all lab key ctx A ca n W hk i (by omega) hn2 h
  have r1 := fun (W : World) => refExport_all lab key ctx n W hk (by omega) hn2
  generalize exOut lab key ctx n = OUT at *
  generalize exErr lab n = er at *
  have h2 := fun (W : World) (i : In W W.heap.size A ca ctx) (h : Tabs W) => again_all key ctx A ca W hk i h
  have r2 := fun (W : World) => refAgain_all key ctx W hk
  have l2 := agS_length key ctx
  generalize agS key ctx = G at *
  have hz : ∀ W : World, (zeroValue 22).run Tryd.prog W = .ok (.agg (zero32.map B8).toArray) W := fun W => by kernel_rfl
  obtain ⟨Z, hZ⟩ : ∃ Z, Z = zero32 := ⟨_, rfl⟩
  have HZL := Lib.hid (show Z.length = 32 by rw [hZ]; rfl)
  rw [← hZ] at hz
  have H1 := Lib.hid h1
  have H2 := Lib.hid h2
  have R1 := Lib.hid r1
  have R2 := Lib.hid r2
  have L2 := Lib.hid l2
  have HK := Lib.hid hk
  clear h1 h2 r1 r2 l2 hk hZ hn2
  have hA : Blk (w.alloc (.cells (key.map B8).toArray 22)) w.heap.size 22 _ := Blk.new_of w 22 _ _ rfl
  have hbw : Below w.heap.size w (w.alloc (.cells (key.map B8).toArray 22)) := (Below.refl w.heap.size w).alloc (Nat.le_refl _) _
  have hl2 : (lab.length : Int) ≤ 500 := by omega
  go_enter Tryd.func5, Tryd.ntmps5
  go_wp2_with (first
    | ((with_reducible refine (?_ : wpList _ _ _ (Oper.mk (some 27) _ _ _ _ _ :: _) _ _)); go_loud (refine wpList_load_blk rfl 22 (.tmp 3) rfl (w.heap.size) rfl 22 _ _ hA Tryd.underlying22 rfl (info32.trans (by rw [List.length_map, HK.out])) ?_))
    | (go_at_call 21; refine (H1.out _ (in_up ia hbw) (ht.below hbw)).mono ?_; rintro e w2 ⟨A1, n1, c1, rfl, hn1, hI1, hb2⟩; replace hA := hA.below hb2 hA.lt; replace hbw := hbw.trans (hb2.mono hbw.size); clear hb2))
  have hcA := fun (W : World) (h : Below w2.heap.size w2 W) => conv_in HK.out (in_of_blk hA HK.out h)
  have hcC := fun (W : World) (h : Below w2.heap.size w2 W) => conv_in rfl ((in_up ia hbw).up h)
  have HN1 := Lib.hid hn1
  clear hn1
  apply wp_region_once (D := [[], [0], [], [], [3], [], [0, 1, 2, 3, 4, 5], [0, 1, 2, 3, 4, 5, 6], [0, 1, 2, 3, 4, 5, 6, 7], [0, 1, 2, 3, 4, 5, 6, 7], [0, 1, 2, 3, 4, 5, 6, 7, 8], [0, 1, 2, 3, 4, 5, 6, 7, 8, 9, 10]]) (J := [[], [0], [], [], [3], [], [1, 2, 4, 5], [6], [7], [7], [8], [9]]) (Je := [10, 11]) (Rs := [Is _, Is _, Is _, Is _, Is _, Is _, Is _, Is _, Is _, Is _, Is _, Is _])
  · kernel_rfl
  · kernel_rfl
  · kernel_rfl
  · kernel_rfl
  · kernel_rfl
  · kernel_rfl
  · intro u
    simp only [List.map_cons, List.map_nil, fillU, List.setIfInBounds_toArray, List.set_cons_zero, List.set_cons_succ, Nat.zero_add, Nat.reduceAdd]
    exact rfl
  · skip
    refine ⟨fun u W hb hd K hK => ?_, ?_⟩
    · clear hd
      go_simp
      apply hK
      · simp only [Act.put, List.setIfInBounds_toArray, List.set_cons_zero, List.set_cons_succ]
        exact rfl
      · exact Below.refl _ _
      · exact IsOut
    refine ⟨fun u W hb hd K hK => ?_, ?_⟩
    · simp only [Facts, nthR, Is, and_true] at hd
      simp only [hd] at hK ⊢
      clear hd
      go_simp
      apply hK
      · simp only [Act.put, List.setIfInBounds_toArray, List.set_cons_zero, List.set_cons_succ]
        exact rfl
      · exact Below.refl _ _
      · exact IsOut
    refine ⟨fun u W hb hd K hK => ?_, ?_⟩
    · clear hd
      go_simp
      apply hK
      · simp only [Act.put, List.setIfInBounds_toArray, List.set_cons_zero, List.set_cons_succ]
        exact rfl
      · exact Below.refl _ _
      · exact IsOut
    refine ⟨fun u W hb hd K hK => ?_, ?_⟩
    · clear hd
      go_simp
      apply hK
      · simp only [Act.put, List.setIfInBounds_toArray, List.set_cons_zero, List.set_cons_succ]
        exact rfl
      · exact Below.refl _ _
      · exact IsOut
    refine ⟨fun u W hb hd K hK => ?_, ?_⟩
    · simp only [Facts, nthR, Is, and_true] at hd
      simp only [hd] at hK ⊢
      clear hd
      go_simp
      apply hK
      · simp only [Act.put, List.setIfInBounds_toArray, List.set_cons_zero, List.set_cons_succ]
        exact rfl
      · exact Below.refl _ _
      · exact IsOut
    refine ⟨fun u W hb hd K hK => ?_, ?_⟩
    · clear hd
      go_simp
      apply hK
      · simp only [Act.put, List.setIfInBounds_toArray, List.set_cons_zero, List.set_cons_succ]
        exact rfl
      · exact Below.refl _ _
      · exact IsOut
    refine ⟨fun u W hb hd K hK => ?_, ?_⟩
    · simp only [Facts, nthR, Is, and_true] at hd
      simp only [hd] at hK ⊢
      clear hd
      go_simp
      refine (R1.out _).mono ?_
      rintro e wy ⟨rfl, hby⟩
      exact hK _ _ _ rfl hby IsOut
    refine ⟨fun u W hb hd K hK => ?_, ?_⟩
    · simp only [Facts, nthR, Is, and_true] at hd
      simp only [hd] at hK ⊢
      clear hd
      go_simp
      apply hK
      · simp only [Act.put, List.setIfInBounds_toArray, List.set_cons_zero, List.set_cons_succ]
        exact rfl
      · exact Below.refl _ _
      · exact IsOut
    refine ⟨fun u W hb hd K hK => ?_, ?_⟩
    · simp only [Facts, nthR, Is, and_true] at hd
      simp only [hd] at hK ⊢
      clear hd
      go_simp
      apply hK
      · simp only [Act.put, List.setIfInBounds_toArray, List.set_cons_zero, List.set_cons_succ]
        exact rfl
      · exact Below.refl _ _
      · exact IsOut
    refine ⟨fun u W hb hd K hK => ?_, ?_⟩
    · simp only [Facts, nthR, Is, and_true] at hd
      simp only [hd] at hK ⊢
      clear hd
      go_simp
      apply hK
      · simp only [Act.put, List.setIfInBounds_toArray, List.set_cons_zero, List.set_cons_succ]
        exact rfl
      · exact Below.refl _ _
      · exact IsOut
    refine ⟨fun u W hb hd K hK => ?_, ?_⟩
    · simp only [Facts, nthR, Is, and_true] at hd
      simp only [hd] at hK ⊢
      clear hd
      go_simp
      apply hK
      · simp only [Act.put, List.setIfInBounds_toArray, List.set_cons_zero, List.set_cons_succ]
        exact rfl
      · exact Below.refl _ _
      · exact IsOut
    refine ⟨fun u W hb hd K hK => ?_, ?_⟩
    · simp only [Facts, nthR, Is, and_true] at hd
      simp only [hd] at hK ⊢
      clear hd
      go_simp
      apply hK
      · simp only [Act.put, List.setIfInBounds_toArray, List.set_cons_zero, List.set_cons_succ]
        exact rfl
      · exact Below.refl _ _
      · exact IsOut
    exact trivial
  · exact (.is (.is (.is (.is (.is (.is (.is (.is (.is (.is (.is (.is .nil))))))))))))
  · intro u W hb hd
    simp only [Facts, nthR, Is, and_true] at hd
    simp only [hd]
    replace hA := hA.below hb hA.lt
    replace hI1 := in_up hI1 hb
    replace hbw := hbw.trans (hb.mono hbw.size)
    clear hb hcA hcC
    go_wp2_with (first
      | ((with_reducible refine (?_ : wpList _ _ _ (Oper.mk (some 44) _ _ _ _ _ :: _) _ _)); go_loud (refine wpList_load_blk rfl 22 (.tmp 3) rfl (w.heap.size) rfl 22 _ _ hA Tryd.underlying22 rfl (info32.trans (by rw [List.length_map, HK.out])) ?_))
      | (go_at_call 23; refine (H2.out _ (in_up ia hbw) (ht.below hbw)).mono ?_; rintro e w3 ⟨rfl, hb3⟩; replace hI1 := in_up hI1 hb3; replace hA := hA.below hb3 hA.lt; replace hbw := hbw.trans (hb3.mono hbw.size); clear hb3)
      | (refine wpList_store_blk rfl 22 (.tmp 12) (.tmp 46) rfl rfl (w3.heap.size) _ rfl rfl 22 _ (Blk.new_of w3 22 _ _ rfl) (info32.trans (by rw [List.length_map, L2.out])) (by rw [List.length_map, List.length_map, L2.out, HZL.out]) (one8 _) ?_; intro w4 hG hg4; have hb' := below_new ((Below.refl w3.heap.size w3).alloc (Nat.le_refl _) _) hg4 (Nat.le_refl _) (by simp); replace hI1 := in_up hI1 hb'; replace hA := hA.below hb' hA.lt; replace hbw := hbw.trans (hb'.mono hbw.size); clear hb'; clear hg4))
    have hcA := fun (V : World) (h : Below w4.heap.size w4 V) => conv_in HK.out (in_of_blk hA HK.out h)
    have hcC := fun (V : World) (h : Below w4.heap.size w4 V) => conv_in rfl ((in_up ia hbw).up h)
    have hcG := fun (V : World) (h : Below w4.heap.size w4 V) => conv_in L2.out (in_of_blk hG L2.out h)
    have hcO := fun (V : World) (h : Below w4.heap.size w4 V) => conv_in HN1.out (hI1.up h)
    clear hA hG hI1
    apply wp_region_once (D := [[], [0], [0, 1], [0, 1, 2], [0, 1], [0, 1, 2, 3, 4], [0, 1, 2, 3, 4, 5], [0, 1, 2, 3, 4, 5, 6], [0, 1, 2, 3, 4, 5, 6, 7], [0, 1, 2, 3, 4, 5, 6, 7], [0, 1, 2, 3, 4, 5, 6, 7, 8, 9], [0, 1, 2, 3, 4, 5, 6, 7, 8, 9, 10], [0, 1, 2, 3, 4, 5, 6, 7, 8, 9, 10, 11], [0, 1, 2, 3, 4, 5, 6, 7, 8, 9, 10, 11, 12], [0, 1, 2, 3, 4, 5, 6, 7, 8, 9, 10, 11, 12, 13], [0, 1, 2, 3, 4, 5, 6, 7, 8, 9, 10, 11, 12], [0, 1, 2, 3, 4, 5, 6, 7, 8, 9, 10, 11, 12, 15], [0, 1, 2, 3, 4, 5, 6, 7, 8, 9, 10, 11, 12], [0, 1, 2, 3, 4, 5, 6, 7, 8, 9, 10, 11, 12, 17], [0, 1, 2, 3, 4, 5, 6, 7, 8, 9, 10, 11, 12, 15, 16, 17, 18], [0, 1, 2, 3, 4, 5, 6, 7, 8, 9, 10, 11, 12, 13, 14, 15, 16, 17, 18, 19], [0, 1, 2, 3, 4, 5, 6, 7, 8, 9, 10, 11, 12, 13, 14, 15, 16, 17, 18, 19, 20], [0, 1, 2, 3, 4, 5, 6, 7, 8, 9, 10, 11, 12, 13, 14, 15, 16, 17, 18, 19, 20, 21]]) (J := [[], [0], [1], [1, 2], [1], [1, 3, 4], [1, 5], [6], [7], [7], [7, 8, 9], [7, 10], [11], [12], [12, 13], [12], [12, 15], [12], [12, 17], [12, 16, 18], [12, 14, 19], [12, 20], [21]]) (Je := [22]) (Rs := [Is _, Is _, Is _, Is _, Is _, Is _, Is _, Is _, Is _, Is _, Is _, Is _, Is _, Is _, Is _, Is _, Is _, Is _, Is _, Is _, Is _, Is _, Is _])
    · kernel_rfl
    · kernel_rfl
    · kernel_rfl
    · kernel_rfl
    · kernel_rfl
    · kernel_rfl
    · intro u
      simp only [List.map_cons, List.map_nil, fillU, List.setIfInBounds_toArray, List.set_cons_zero, List.set_cons_succ, Nat.zero_add, Nat.reduceAdd]
      exact rfl
    · skip
      refine ⟨fun u V hb hd K hK => ?_, ?_⟩
      · clear hd
        go_simp
        refine (lawEarly_any _ ((ht.below hbw).below hb)).mono ?_
        rintro e wy ⟨rfl, hby⟩
        exact hK _ _ _ rfl hby IsOut
      refine ⟨fun u V hb hd K hK => ?_, ?_⟩
      · simp only [Facts, nthR, Is, and_true] at hd
        simp only [hd] at hK ⊢
        clear hd
        go_simp
        apply hK
        · simp only [Act.put, List.setIfInBounds_toArray, List.set_cons_zero, List.set_cons_succ]
          exact rfl
        · exact Below.refl _ _
        · exact IsOut
      refine ⟨fun u V hb hd K hK => ?_, ?_⟩
      · simp only [Facts, nthR, Is, and_true] at hd
        simp only [hd] at hK ⊢
        clear hd
        go_simp
        apply hK
        · simp only [Act.put, List.setIfInBounds_toArray, List.set_cons_zero, List.set_cons_succ]
          exact rfl
        · exact Below.refl _ _
        · exact IsOut
      refine ⟨fun u V hb hd K hK => ?_, ?_⟩
      · simp only [Facts, nthR, Is, and_true] at hd
        simp only [hd] at hK ⊢
        clear hd
        go_simp
        apply hK
        · simp only [Act.put, List.setIfInBounds_toArray, List.set_cons_zero, List.set_cons_succ]
          exact rfl
        · exact Below.refl _ _
        · exact IsOut
      refine ⟨fun u V hb hd K hK => ?_, ?_⟩
      · simp only [Facts, nthR, Is, and_true] at hd
        simp only [hd] at hK ⊢
        clear hd
        go_simp
        apply hK
        · simp only [Act.put, List.setIfInBounds_toArray, List.set_cons_zero, List.set_cons_succ]
          exact rfl
        · exact Below.refl _ _
        · exact IsOut
      refine ⟨fun u V hb hd K hK => ?_, ?_⟩
      · simp only [Facts, nthR, Is, and_true] at hd
        simp only [hd] at hK ⊢
        clear hd
        go_simp
        apply hK
        · simp only [Act.put, List.setIfInBounds_toArray, List.set_cons_zero, List.set_cons_succ]
          exact rfl
        · exact Below.refl _ _
        · exact IsOut
      refine ⟨fun u V hb hd K hK => ?_, ?_⟩
      · simp only [Facts, nthR, Is, and_true] at hd
        simp only [hd] at hK ⊢
        clear hd
        go_simp
        apply hK
        · simp only [Act.put, List.setIfInBounds_toArray, List.set_cons_zero, List.set_cons_succ]
          exact rfl
        · exact Below.refl _ _
        · exact IsOut
      refine ⟨fun u V hb hd K hK => ?_, ?_⟩
      · simp only [Facts, nthR, Is, and_true] at hd
        simp only [hd] at hK ⊢
        clear hd
        go_simp
        apply hK
        · simp only [Act.put, List.setIfInBounds_toArray, List.set_cons_zero, List.set_cons_succ]
          exact rfl
        · exact Below.refl _ _
        · exact IsOut
      refine ⟨fun u V hb hd K hK => ?_, ?_⟩
      · simp only [Facts, nthR, Is, and_true] at hd
        simp only [hd] at hK ⊢
        clear hd
        go_simp
        apply hK
        · simp only [Act.put, List.setIfInBounds_toArray, List.set_cons_zero, List.set_cons_succ]
          exact rfl
        · exact Below.refl _ _
        · exact IsOut
      refine ⟨fun u V hb hd K hK => ?_, ?_⟩
      · simp only [Facts, nthR, Is, and_true] at hd
        simp only [hd] at hK ⊢
        clear hd
        go_simp
        apply hK
        · simp only [Act.put, List.setIfInBounds_toArray, List.set_cons_zero, List.set_cons_succ]
          exact rfl
        · exact Below.refl _ _
        · exact IsOut
      refine ⟨fun u V hb hd K hK => ?_, ?_⟩
      · simp only [Facts, nthR, Is, and_true] at hd
        simp only [hd] at hK ⊢
        clear hd
        go_simp
        apply hK
        · simp only [Act.put, List.setIfInBounds_toArray, List.set_cons_zero, List.set_cons_succ]
          exact rfl
        · exact Below.refl _ _
        · exact IsOut
      refine ⟨fun u V hb hd K hK => ?_, ?_⟩
      · simp only [Facts, nthR, Is, and_true] at hd
        simp only [hd] at hK ⊢
        clear hd
        go_simp
        apply hK
        · simp only [Act.put, List.setIfInBounds_toArray, List.set_cons_zero, List.set_cons_succ]
          exact rfl
        · exact Below.refl _ _
        · exact IsOut
      refine ⟨fun u V hb hd K hK => ?_, ?_⟩
      · simp only [Facts, nthR, Is, and_true] at hd
        simp only [hd] at hK ⊢
        clear hd
        go_simp
        apply hK
        · simp only [Act.put, List.setIfInBounds_toArray, List.set_cons_zero, List.set_cons_succ]
          exact rfl
        · exact Below.refl _ _
        · exact IsOut
      refine ⟨fun u V hb hd K hK => ?_, ?_⟩
      · simp only [Facts, nthR, Is, and_true] at hd
        simp only [hd] at hK ⊢
        clear hd
        go_simp
        apply hK
        · simp only [Act.put, List.setIfInBounds_toArray, List.set_cons_zero, List.set_cons_succ]
          exact rfl
        · exact Below.refl _ _
        · exact IsOut
      refine ⟨fun u V hb hd K hK => ?_, ?_⟩
      · simp only [Facts, nthR, Is, and_true] at hd
        simp only [hd] at hK ⊢
        clear hd
        go_simp
        apply hK
        · simp only [Act.put, List.setIfInBounds_toArray, List.set_cons_zero, List.set_cons_succ]
          exact rfl
        · exact Below.refl _ _
        · exact IsOut
      refine ⟨fun u V hb hd K hK => ?_, ?_⟩
      · simp only [Facts, nthR, Is, and_true] at hd
        simp only [hd] at hK ⊢
        clear hd
        go_simp
        apply hK
        · simp only [Act.put, List.setIfInBounds_toArray, List.set_cons_zero, List.set_cons_succ]
          exact rfl
        · exact Below.refl _ _
        · exact IsOut
      refine ⟨fun u V hb hd K hK => ?_, ?_⟩
      · simp only [Facts, nthR, Is, and_true] at hd
        simp only [hd] at hK ⊢
        clear hd
        go_simp
        apply hK
        · simp only [Act.put, List.setIfInBounds_toArray, List.set_cons_zero, List.set_cons_succ]
          exact rfl
        · exact Below.refl _ _
        · exact IsOut
      refine ⟨fun u V hb hd K hK => ?_, ?_⟩
      · simp only [Facts, nthR, Is, and_true] at hd
        simp only [hd] at hK ⊢
        clear hd
        go_simp
        apply hK
        · simp only [Act.put, List.setIfInBounds_toArray, List.set_cons_zero, List.set_cons_succ]
          exact rfl
        · exact Below.refl _ _
        · exact IsOut
      refine ⟨fun u V hb hd K hK => ?_, ?_⟩
      · simp only [Facts, nthR, Is, and_true] at hd
        simp only [hd] at hK ⊢
        clear hd
        go_simp
        apply hK
        · simp only [Act.put, List.setIfInBounds_toArray, List.set_cons_zero, List.set_cons_succ]
          exact rfl
        · exact Below.refl _ _
        · exact IsOut
      refine ⟨fun u V hb hd K hK => ?_, ?_⟩
      · simp only [Facts, nthR, Is, and_true] at hd
        simp only [hd] at hK ⊢
        clear hd
        go_simp
        refine (R2.out _).mono ?_
        rintro e wy ⟨rfl, hby⟩
        exact hK _ _ _ rfl hby IsOut
      refine ⟨fun u V hb hd K hK => ?_, ?_⟩
      · simp only [Facts, nthR, Is, and_true] at hd
        simp only [hd] at hK ⊢
        clear hd
        go_simp
        apply hK
        · simp only [Act.put, List.setIfInBounds_toArray, List.set_cons_zero, List.set_cons_succ]
          exact rfl
        · exact Below.refl _ _
        · exact IsOut
      refine ⟨fun u V hb hd K hK => ?_, ?_⟩
      · simp only [Facts, nthR, Is, and_true] at hd
        simp only [hd] at hK ⊢
        clear hd
        go_simp
        apply hK
        · simp only [Act.put, List.setIfInBounds_toArray, List.set_cons_zero, List.set_cons_succ]
          exact rfl
        · exact Below.refl _ _
        · exact IsOut
      refine ⟨fun u V hb hd K hK => ?_, ?_⟩
      · simp only [Facts, nthR, Is, and_true] at hd
        simp only [hd] at hK ⊢
        clear hd
        go_simp
        apply hK
        · simp only [Act.put, List.setIfInBounds_toArray, List.set_cons_zero, List.set_cons_succ]
          exact rfl
        · exact Below.refl _ _
        · exact IsOut
      exact trivial
    · exact (.is (.is (.is (.is (.is (.is (.is (.is (.is (.is (.is (.is (.is (.is (.is (.is (.is (.is (.is (.is (.is (.is (.is .nil)))))))))))))))))))))))
    · intro u V hb hd
      simp only [Facts, nthR, Is, and_true] at hd
      simp only [hd]
      have hfin := hbw.trans (hb.mono hbw.size)
      go_wp2
      go_ret
      exact ⟨rfl, hfin⟩

theorem keysExports_walk (A : Option Addr) (ca : Nat) (key lab ctx : List UInt8) (w : World) (hk : key.length = 32) (ia : In w w.heap.size A ca ctx) (ht : Tabs w) :
    Calls Tryd.prog 5 #[.agg (key.map B8).toArray, .string ⟨lab.toArray⟩, .slice A ctx.length ca] w fun e w' => e = .returned (.bool true) ∧ Below w.heap.size w w' := by
  by_cases h : 500 < lab.length ∨ 500 < ctx.length
  · exact keysExports_far A ca key lab ctx w ht h
  · exact keysExports_near A ca key lab ctx w hk ia ht (by omega) (by omega)
end Go.Proofs.YtdjhempfpgcigaaDoor
