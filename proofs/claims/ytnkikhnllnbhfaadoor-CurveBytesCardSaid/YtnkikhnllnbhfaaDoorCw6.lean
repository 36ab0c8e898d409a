/-
  The contract of the group's spot.
-/
import Derived.Test.YtnkikhnllnbhfaaDoorCw5
namespace Go.Proofs.YtnkikhnllnbhfaaDoor
open Go.RowKit
open CurveMath

/-- What a point's bytes stand for, over a third number. -/
def spotP (X Y : List UInt8) : P3 := if holdsB X Y = true then ⟨kOf X, kOf Y, 1⟩ else ⟨0, 1, 0⟩
theorem HolE {g : Nat} {X Y : List UInt8} {w : World} {b : Bool} (hb : Hid (holdsB X Y = b)) (h : GrpAt w g) (hT : TabsC w) (hX : Hid (X.length = 32)) (hY : Hid (Y.length = 32)) : Calls Tryd.prog 36 #[.agg #[.pointer (some ⟨g, 0, none⟩)], .agg (ptC X Y).toArray] w fun e w' => e = .returned (.bool b) ∧ Below w.heap.size w w' := by
  rw [← hb.out]
  exact holds_k g X Y w h hT hX hY
theorem OfK {bs : List UInt8} {x : K} (hn : Hid (ofTo bs 32 = pK x)) (hl : Hid (bs.length = 32)) (w : World) : Calls Tryd.prog 42 #[.agg (bs.map B8).toArray] w fun e w' => e = .returned (.agg (kC x).toArray) ∧ Below w.heap.size w w' := OfN hn hl w
set_option maxRecDepth 100000 in
set_option maxHeartbeats 2000000 in
theorem spot_k (g : Nat) (X Y : List UInt8) (w : World) (h : GrpAt w g) (hT : TabsC w) (hX : Hid (X.length = 32)) (hY : Hid (Y.length = 32)) : Calls Tryd.prog 43 #[.agg #[.pointer (some ⟨g, 0, none⟩)], .agg (ptC X Y).toArray] w fun e w' => e = .returned (.agg (spC (spotP X Y)).toArray) ∧ Below w.heap.size w w' := by
  obtain ⟨sp, HZ⟩ : ∃ s, Hid (spotP X Y = s) := ⟨_, Lib.hid rfl⟩
  rw [HZ.out]
  go_enter Tryd.func43, Tryd.ntmps43
  go_upto_region 1 with (fail)
  obtain ⟨g2, hg2⟩ : ∃ g2, g2 = w.heap.size + 1 + 1 := ⟨_, rfl⟩
  obtain ⟨g1, hg1⟩ : ∃ g1, g1 = w.heap.size + 1 := ⟨_, rfl⟩
  obtain ⟨g0, hg0⟩ : ∃ g0, g0 = w.heap.size := ⟨_, rfl⟩
  have bg0 : Blk (((w.alloc (.cells #[.pointer (some ⟨g, 0, none⟩)] 62)).alloc (.cells (ptC X Y).toArray 24)).alloc (.cells #[.int .u64 0, .int .u64 0, .int .u64 0, .int .u64 0, .int .u64 0, .int .u64 0, .int .u64 0, .int .u64 0, .int .u64 0, .int .u64 0, .int .u64 0, .int .u64 0] 67)) g0 62 ([.pointer (some ⟨g, 0, none⟩)]) := by rw [hg0]; exact blk_allocs [.cells #[.pointer (some ⟨g, 0, none⟩)] 62, .cells (ptC X Y).toArray 24, .cells #[.int .u64 0, .int .u64 0, .int .u64 0, .int .u64 0, .int .u64 0, .int .u64 0, .int .u64 0, .int .u64 0, .int .u64 0, .int .u64 0, .int .u64 0, .int .u64 0] 67] w 0 62 ([.pointer (some ⟨g, 0, none⟩)]) rfl
  have bg1 : Blk (((w.alloc (.cells #[.pointer (some ⟨g, 0, none⟩)] 62)).alloc (.cells (ptC X Y).toArray 24)).alloc (.cells #[.int .u64 0, .int .u64 0, .int .u64 0, .int .u64 0, .int .u64 0, .int .u64 0, .int .u64 0, .int .u64 0, .int .u64 0, .int .u64 0, .int .u64 0, .int .u64 0] 67)) g1 24 (ptC X Y) := by rw [hg1]; exact blk_allocs [.cells #[.pointer (some ⟨g, 0, none⟩)] 62, .cells (ptC X Y).toArray 24, .cells #[.int .u64 0, .int .u64 0, .int .u64 0, .int .u64 0, .int .u64 0, .int .u64 0, .int .u64 0, .int .u64 0, .int .u64 0, .int .u64 0, .int .u64 0, .int .u64 0] 67] w 1 24 (ptC X Y) rfl
  have bg2 : Blk (((w.alloc (.cells #[.pointer (some ⟨g, 0, none⟩)] 62)).alloc (.cells (ptC X Y).toArray 24)).alloc (.cells #[.int .u64 0, .int .u64 0, .int .u64 0, .int .u64 0, .int .u64 0, .int .u64 0, .int .u64 0, .int .u64 0, .int .u64 0, .int .u64 0, .int .u64 0, .int .u64 0] 67)) g2 67 (spZ) := by rw [hg2]; exact blk_allocs [.cells #[.pointer (some ⟨g, 0, none⟩)] 62, .cells (ptC X Y).toArray 24, .cells #[.int .u64 0, .int .u64 0, .int .u64 0, .int .u64 0, .int .u64 0, .int .u64 0, .int .u64 0, .int .u64 0, .int .u64 0, .int .u64 0, .int .u64 0, .int .u64 0] 67] w 2 67 (spZ) rfl
  have hb0 : Below w.heap.size w ((((w.alloc (.cells #[.pointer (some ⟨g, 0, none⟩)] 62)).alloc (.cells (ptC X Y).toArray 24)).alloc (.cells #[.int .u64 0, .int .u64 0, .int .u64 0, .int .u64 0, .int .u64 0, .int .u64 0, .int .u64 0, .int .u64 0, .int .u64 0, .int .u64 0, .int .u64 0, .int .u64 0] 67))) := below_allocs [.cells #[.pointer (some ⟨g, 0, none⟩)] 62, .cells (ptC X Y).toArray 24, .cells #[.int .u64 0, .int .u64 0, .int .u64 0, .int .u64 0, .int .u64 0, .int .u64 0, .int .u64 0, .int .u64 0, .int .u64 0, .int .u64 0, .int .u64 0, .int .u64 0] 67] w
  have HG := Lib.hid (show w.heap.size ≤ g0 ∧ g0 < g1 ∧ g1 < g2 by omega)
  simp only [← hg2]
  simp only [← hg1]
  simp only [← hg0]
  clear hg2
  clear hg1
  clear hg0
  generalize ((w.alloc (.cells #[.pointer (some ⟨g, 0, none⟩)] 62)).alloc (.cells (ptC X Y).toArray 24)).alloc (.cells #[.int .u64 0, .int .u64 0, .int .u64 0, .int .u64 0, .int .u64 0, .int .u64 0, .int .u64 0, .int .u64 0, .int .u64 0, .int .u64 0, .int .u64 0, .int .u64 0] 67) = w1 at *
  have lg0 := bg0.lt
  have lg1 := bg1.lt
  have lg2 := bg2.lt
  have hM := h.up hb0
  have lT := hT.below hb0
  obtain ⟨b, hB⟩ : ∃ b, Hid (holdsB X Y = b) := ⟨_, Lib.hid rfl⟩
  cases b with
  | false =>
    have HR := Lib.hid (show spotP X Y = ⟨0, 1, 0⟩ by unfold spotP; rw [hB.out]; rfl)
    go_upto_region 2 with (first
      | ((with_reducible refine (?_ : wpList _ _ _ (Oper.mk (some 5) _ _ _ _ _ :: _) _ _)); go_loud (refine wpList_load_mid rfl 62 (.tmp 2) rfl g0 0 rfl [.pointer (some ⟨g, 0, none⟩)] _ (rangeAt_of_blk bg0) Tryd.underlying62 rfl infoG ?_))
      | ((with_reducible refine (?_ : wpList _ _ _ (Oper.mk (some 6) _ _ _ _ _ :: _) _ _)); go_loud (refine wpList_load_mid rfl 24 (.tmp 3) rfl g1 0 rfl (ptC X Y) _ (rangeAt_of_blk bg1) Tryd.underlying24 rfl (infoPt.trans (by rw [ptC_length hX.out hY.out])) ?_))
      | (go_at_call 36; refine (HolE hB hM lT hX hY).mono ?_; rintro e w2 ⟨rfl, hbx⟩))
    replace bg2 := bg2.below hbx lg2
    have hT2 := lT.below hbx
    replace hb0 := hb0.trans (hbx.mono hb0.size)
    clear hbx lT
    have lG := h.lt
    have hGo := HG.out
    have hsz := hb0.size
    go_wp2_with (first
      | ((with_reducible refine (?_ : wpList _ _ _ (Oper.mk (some 9) _ _ _ _ _ :: _) _ _)); go_loud (refine wpList_load_mid rfl 67 (.global 5) rfl 5 0 rfl (spC ⟨0, 1, 0⟩) _ hT2.infinity Tryd.underlying67 rfl (infoS.trans (by rw [spC_length])) ?_))
      | ((with_reducible refine (?_ : wpList _ _ _ (Oper.mk none _ _ _ _ _ :: _) _ _)); go_loud (refine wpList_store_blk rfl 67 (.tmp 4) (.tmp 9) rfl rfl g2 (spC ⟨0, 1, 0⟩) rfl rfl _ _ bg2 (infoS.trans (by rw [spC_length])) (by rw [spC_length, spZ_length]) (oneS _) ?_); intro wz bn hgs))
    refine bodyPost_ret (v := .agg _) (results_cell_row rfl _ _ g2 67 _ (0, 0) _ rfl bn.raw Tryd.underlying67 rfl (infoS.trans (by rw [List.size_toArray, spC_length]))) rfl ?_
    exact ⟨by rw [← HZ.out, HR.out], below_new hb0 hgs (by omega) hsz⟩
  | true =>
    go_upto_region 3 with (first
      | ((with_reducible refine (?_ : wpList _ _ _ (Oper.mk (some 5) _ _ _ _ _ :: _) _ _)); go_loud (refine wpList_load_mid rfl 62 (.tmp 2) rfl g0 0 rfl [.pointer (some ⟨g, 0, none⟩)] _ (rangeAt_of_blk bg0) Tryd.underlying62 rfl infoG ?_))
      | ((with_reducible refine (?_ : wpList _ _ _ (Oper.mk (some 6) _ _ _ _ _ :: _) _ _)); go_loud (refine wpList_load_mid rfl 24 (.tmp 3) rfl g1 0 rfl (ptC X Y) _ (rangeAt_of_blk bg1) Tryd.underlying24 rfl (infoPt.trans (by rw [ptC_length hX.out hY.out])) ?_))
      | (go_at_call 36; refine (HolE hB hM lT hX hY).mono ?_; rintro e w2 ⟨rfl, hbx⟩))
    have hin : inF X = true ∧ inF Y = true := by have := hB.out; unfold holdsB at this; rw [Bool.and_eq_true, Bool.and_eq_true] at this; exact this.1
    obtain ⟨x, hx⟩ : ∃ x, x = kOf X := ⟨_, rfl⟩
    obtain ⟨y, hy⟩ : ∃ y, y = kOf Y := ⟨_, rfl⟩
    have hnX := Lib.hid (show ofTo X 32 = pK x by rw [hx]; exact pK_of hin.1)
    have hnY := Lib.hid (show ofTo Y 32 = pK y by rw [hy]; exact pK_of hin.2)
    have HR := Lib.hid (show spotP X Y = ⟨x, y, 1⟩ by unfold spotP; rw [hB.out, hx, hy]; rfl)
    clear hin hx hy
    replace bg0 := bg0.below hbx lg0
    replace bg1 := bg1.below hbx lg1
    replace bg2 := bg2.below hbx lg2
    replace hM := hM.up hbx
    replace hb0 := hb0.trans (hbx.mono hb0.size)
    clear hbx lT lg0 lg1 lg2
    have lg0 := bg0.lt
    have lg1 := bg1.lt
    have lg2 := bg2.lt
    apply wp_region_once_tail (m := 8) (Z := []) (D := [[], [0], [0, 1], [], [3], [0, 1, 2, 3, 4], [], [0, 1, 2, 3, 4, 5, 6], [0, 1, 2, 3, 4, 5, 6, 7]]) (J := [[], [0], [1], [], [3], [4], [], [2, 5, 6]]) (Je := [7]) (Rs := [Is _, Is _, Is _, Is _, Is _, Is _, Is _, Is _])
    · kernel_rfl
    · kernel_rfl
    · kernel_rfl
    · kernel_rfl
    · kernel_rfl
    · kernel_rfl
    · kernel_rfl
    · exact fun h => absurd rfl h
    · intro u
      simp only [List.take_succ_cons, List.take_zero, List.map_cons, List.map_nil, fillU, List.setIfInBounds_toArray, List.set_cons_zero, List.set_cons_succ, Nat.zero_add, Nat.reduceAdd]
      exact rfl
    · simp only [List.take_succ_cons, List.take_zero]
      refine ⟨fun u W hb hd K hK => ?_, ?_⟩
      · clear hd
        go_simp
        apply hK
        · simp only [Act.put, List.setIfInBounds_toArray, List.set_cons_zero, List.set_cons_succ]
          exact rfl
        · exact Below.refl _ _
        · exact IsOut
      refine ⟨fun u W hb hd K hK => ?_, ?_⟩
      · simp only [Facts, nthR, Is, and_true] at hd
        simp only [hd] at hK ⊢
        clear hd
        rw [if_pos (by rfl)]
        refine wp_load_mid 22 (.tmp 10) rfl g1 0 rfl (X.map B8) _ (pt_range0 hX.out (bg1.below hb lg1)) Tryd.underlying22 rfl (info40.trans (by rw [List.length_map, hX.out])) ?_
        exact hK _ _ _ rfl (Below.refl _ _) IsOut
      refine ⟨fun u W hb hd K hK => ?_, ?_⟩
      · simp only [Facts, nthR, Is, and_true] at hd
        simp only [hd] at hK ⊢
        clear hd
        go_simp
        refine (OfK hnX hX _).mono ?_
        rintro e wy ⟨rfl, hby⟩
        exact hK _ _ _ rfl hby IsOut
      refine ⟨fun u W hb hd K hK => ?_, ?_⟩
      · clear hd
        go_simp
        apply hK
        · simp only [Act.put, List.setIfInBounds_toArray, List.set_cons_zero, List.set_cons_succ]
          exact rfl
        · exact Below.refl _ _
        · exact IsOut
      refine ⟨fun u W hb hd K hK => ?_, ?_⟩
      · simp only [Facts, nthR, Is, and_true] at hd
        simp only [hd] at hK ⊢
        clear hd
        rw [if_pos (by rfl)]
        refine wp_load_mid 22 (.tmp 13) rfl g1 32 rfl (Y.map B8) _ (pt_range1 hX.out (bg1.below hb lg1)) Tryd.underlying22 rfl (info40.trans (by rw [List.length_map, hY.out])) ?_
        exact hK _ _ _ rfl (Below.refl _ _) IsOut
      refine ⟨fun u W hb hd K hK => ?_, ?_⟩
      · simp only [Facts, nthR, Is, and_true] at hd
        simp only [hd] at hK ⊢
        clear hd
        go_simp
        refine (OfK hnY hY _).mono ?_
        rintro e wy ⟨rfl, hby⟩
        exact hK _ _ _ rfl hby IsOut
      refine ⟨fun u W hb hd K hK => ?_, ?_⟩
      · clear hd
        rw [if_pos (by rfl)]
        refine wp_built1 59 (.const (.int .u64 1)) rfl (.int .u64 1) rfl (kC 1).toArray built1 ?_
        exact hK _ _ _ rfl (Below.refl _ _) IsOut
      refine ⟨fun u W hb hd K hK => ?_, ?_⟩
      · simp only [Facts, nthR, Is, and_true] at hd
        simp only [hd] at hK ⊢
        clear hd
        rw [if_pos (by rfl)]
        refine wp_built3 67 (.tmp 12) (.tmp 15) (.tmp 16) rfl (.agg (kC x).toArray) (.agg (kC y).toArray) (.agg (kC 1).toArray) rfl rfl rfl (spC ⟨x, y, 1⟩).toArray (builtS x y 1) ?_
        exact hK _ _ _ rfl (Below.refl _ _) IsOut
      exact trivial
    · skip
      exact trivial
    · exact (.is (.is (.is (.is (.is (.is (.is (.is .nil))))))))
    · intro u W hb hd
      simp only [List.drop_succ_cons, List.drop_zero]
      simp only [Facts, nthR, Is, and_true] at hd
      have h7 := hd
      clear hd
      simp only [h7]
      clear h7
      clear bg0 lg0 bg1 lg1
      have lM := hM.lt
      have lG := h.lt
      have hsz := hb0.size
      have hGo := HG.out
      replace bg2 := bg2.below hb lg2
      replace hM := hM.up hb
      replace hb0 := hb0.trans (hb.mono hb0.size)
      clear hb
      go_wp2_with (first
        | ((with_reducible refine (?_ : wpList _ _ _ (Oper.mk none _ _ _ _ _ :: _) _ _)); go_loud (refine wpList_store_blk rfl 67 (.tmp 4) (.tmp 17) rfl rfl g2 (spC ⟨x, y, 1⟩) rfl rfl _ _ (bg2) (infoS.trans (by rw [spC_length])) (by first | rfl | rw [spC_length, spZ_length]) (oneS _) ?_); intro wz bn hgs; replace hM := hM.grown hgs (fun e => by omega); replace hb0 := below_new hb0 hgs (by omega) hb0.size; clear hgs bg2; have bg2 := bn; clear bn))
      clear lM lG hsz hGo lg2
      have lg2 := bg2.lt
      refine bodyPost_ret (v := .agg _) (results_cell_row rfl _ _ g2 67 _ (0, 0) _ rfl bg2.raw Tryd.underlying67 rfl (infoS.trans (by rw [List.size_toArray, spC_length]))) rfl ?_
      exact ⟨by rw [← HZ.out, HR.out], hb0⟩
end Go.Proofs.YtnkikhnllnbhfaaDoor
