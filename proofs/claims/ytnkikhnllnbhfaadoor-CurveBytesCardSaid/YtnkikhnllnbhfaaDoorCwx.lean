/-
  Joined: Cwa, Cwb, Cwc.
-/
import Derived.Test.YtnkikhnllnbhfaaDoorCw9
namespace Go.Proofs.YtnkikhnllnbhfaaDoor
open Go.RowKit
open CurveMath

set_option maxRecDepth 100000 in
set_option maxHeartbeats 1000000 in
theorem base_k (w : World) (hT : TabsC w) : Calls Tryd.prog 10 #[] w fun e w' => e = .returned (.agg (ptV (some (gx, gy))).toArray) ∧ Below w.heap.size w w' := by
  go_enter Tryd.func10, Tryd.ntmps10
  go_upto_region 1 with (fail)
  obtain ⟨g4, hg4⟩ : ∃ g4, g4 = w.heap.size := ⟨_, rfl⟩
  have bg4 : Blk (w.alloc (.cells (Value.int .u8 0 :: Value.int .u8 0 :: Value.int .u8 0 :: Value.int .u8 0 :: Value.int .u8 0 :: Value.int .u8 0 :: Value.int .u8 0 :: Value.int .u8 0 :: Value.int .u8 0 :: Value.int .u8 0 :: Value.int .u8 0 :: Value.int .u8 0 :: Value.int .u8 0 :: Value.int .u8 0 :: Value.int .u8 0 :: Value.int .u8 0 :: Value.int .u8 0 :: Value.int .u8 0 :: Value.int .u8 0 :: Value.int .u8 0 :: Value.int .u8 0 :: Value.int .u8 0 :: Value.int .u8 0 :: Value.int .u8 0 :: Value.int .u8 0 :: Value.int .u8 0 :: Value.int .u8 0 :: Value.int .u8 0 :: Value.int .u8 0 :: Value.int .u8 0 :: Value.int .u8 0 :: Value.int .u8 0 :: Value.int .u8 0 :: Value.int .u8 0 :: Value.int .u8 0 :: Value.int .u8 0 :: Value.int .u8 0 :: Value.int .u8 0 :: Value.int .u8 0 :: Value.int .u8 0 :: Value.int .u8 0 :: Value.int .u8 0 :: Value.int .u8 0 :: Value.int .u8 0 :: Value.int .u8 0 :: Value.int .u8 0 :: Value.int .u8 0 :: Value.int .u8 0 :: Value.int .u8 0 :: Value.int .u8 0 :: Value.int .u8 0 :: Value.int .u8 0 :: Value.int .u8 0 :: Value.int .u8 0 :: Value.int .u8 0 :: Value.int .u8 0 :: Value.int .u8 0 :: Value.int .u8 0 :: Value.int .u8 0 :: Value.int .u8 0 :: Value.int .u8 0 :: Value.int .u8 0 :: Value.int .u8 0 :: Value.int .u8 0 :: []).toArray 24)) g4 24 (ptZ) := by rw [hg4]; exact blk_allocs [.cells (Value.int .u8 0 :: Value.int .u8 0 :: Value.int .u8 0 :: Value.int .u8 0 :: Value.int .u8 0 :: Value.int .u8 0 :: Value.int .u8 0 :: Value.int .u8 0 :: Value.int .u8 0 :: Value.int .u8 0 :: Value.int .u8 0 :: Value.int .u8 0 :: Value.int .u8 0 :: Value.int .u8 0 :: Value.int .u8 0 :: Value.int .u8 0 :: Value.int .u8 0 :: Value.int .u8 0 :: Value.int .u8 0 :: Value.int .u8 0 :: Value.int .u8 0 :: Value.int .u8 0 :: Value.int .u8 0 :: Value.int .u8 0 :: Value.int .u8 0 :: Value.int .u8 0 :: Value.int .u8 0 :: Value.int .u8 0 :: Value.int .u8 0 :: Value.int .u8 0 :: Value.int .u8 0 :: Value.int .u8 0 :: Value.int .u8 0 :: Value.int .u8 0 :: Value.int .u8 0 :: Value.int .u8 0 :: Value.int .u8 0 :: Value.int .u8 0 :: Value.int .u8 0 :: Value.int .u8 0 :: Value.int .u8 0 :: Value.int .u8 0 :: Value.int .u8 0 :: Value.int .u8 0 :: Value.int .u8 0 :: Value.int .u8 0 :: Value.int .u8 0 :: Value.int .u8 0 :: Value.int .u8 0 :: Value.int .u8 0 :: Value.int .u8 0 :: Value.int .u8 0 :: Value.int .u8 0 :: Value.int .u8 0 :: Value.int .u8 0 :: Value.int .u8 0 :: Value.int .u8 0 :: Value.int .u8 0 :: Value.int .u8 0 :: Value.int .u8 0 :: Value.int .u8 0 :: Value.int .u8 0 :: Value.int .u8 0 :: Value.int .u8 0 :: []).toArray 24] w 0 24 (ptZ) rfl
  have hb0 : Below w.heap.size w ((w.alloc (.cells (Value.int .u8 0 :: Value.int .u8 0 :: Value.int .u8 0 :: Value.int .u8 0 :: Value.int .u8 0 :: Value.int .u8 0 :: Value.int .u8 0 :: Value.int .u8 0 :: Value.int .u8 0 :: Value.int .u8 0 :: Value.int .u8 0 :: Value.int .u8 0 :: Value.int .u8 0 :: Value.int .u8 0 :: Value.int .u8 0 :: Value.int .u8 0 :: Value.int .u8 0 :: Value.int .u8 0 :: Value.int .u8 0 :: Value.int .u8 0 :: Value.int .u8 0 :: Value.int .u8 0 :: Value.int .u8 0 :: Value.int .u8 0 :: Value.int .u8 0 :: Value.int .u8 0 :: Value.int .u8 0 :: Value.int .u8 0 :: Value.int .u8 0 :: Value.int .u8 0 :: Value.int .u8 0 :: Value.int .u8 0 :: Value.int .u8 0 :: Value.int .u8 0 :: Value.int .u8 0 :: Value.int .u8 0 :: Value.int .u8 0 :: Value.int .u8 0 :: Value.int .u8 0 :: Value.int .u8 0 :: Value.int .u8 0 :: Value.int .u8 0 :: Value.int .u8 0 :: Value.int .u8 0 :: Value.int .u8 0 :: Value.int .u8 0 :: Value.int .u8 0 :: Value.int .u8 0 :: Value.int .u8 0 :: Value.int .u8 0 :: Value.int .u8 0 :: Value.int .u8 0 :: Value.int .u8 0 :: Value.int .u8 0 :: Value.int .u8 0 :: Value.int .u8 0 :: Value.int .u8 0 :: Value.int .u8 0 :: Value.int .u8 0 :: Value.int .u8 0 :: Value.int .u8 0 :: Value.int .u8 0 :: Value.int .u8 0 :: Value.int .u8 0 :: []).toArray 24))) := below_allocs [.cells (Value.int .u8 0 :: Value.int .u8 0 :: Value.int .u8 0 :: Value.int .u8 0 :: Value.int .u8 0 :: Value.int .u8 0 :: Value.int .u8 0 :: Value.int .u8 0 :: Value.int .u8 0 :: Value.int .u8 0 :: Value.int .u8 0 :: Value.int .u8 0 :: Value.int .u8 0 :: Value.int .u8 0 :: Value.int .u8 0 :: Value.int .u8 0 :: Value.int .u8 0 :: Value.int .u8 0 :: Value.int .u8 0 :: Value.int .u8 0 :: Value.int .u8 0 :: Value.int .u8 0 :: Value.int .u8 0 :: Value.int .u8 0 :: Value.int .u8 0 :: Value.int .u8 0 :: Value.int .u8 0 :: Value.int .u8 0 :: Value.int .u8 0 :: Value.int .u8 0 :: Value.int .u8 0 :: Value.int .u8 0 :: Value.int .u8 0 :: Value.int .u8 0 :: Value.int .u8 0 :: Value.int .u8 0 :: Value.int .u8 0 :: Value.int .u8 0 :: Value.int .u8 0 :: Value.int .u8 0 :: Value.int .u8 0 :: Value.int .u8 0 :: Value.int .u8 0 :: Value.int .u8 0 :: Value.int .u8 0 :: Value.int .u8 0 :: Value.int .u8 0 :: Value.int .u8 0 :: Value.int .u8 0 :: Value.int .u8 0 :: Value.int .u8 0 :: Value.int .u8 0 :: Value.int .u8 0 :: Value.int .u8 0 :: Value.int .u8 0 :: Value.int .u8 0 :: Value.int .u8 0 :: Value.int .u8 0 :: Value.int .u8 0 :: Value.int .u8 0 :: Value.int .u8 0 :: Value.int .u8 0 :: Value.int .u8 0 :: Value.int .u8 0 :: []).toArray 24] w
  have HG := Lib.hid (show w.heap.size ≤ g4 by omega)
  simp only [← hg4]
  clear hg4
  generalize w.alloc (.cells (Value.int .u8 0 :: Value.int .u8 0 :: Value.int .u8 0 :: Value.int .u8 0 :: Value.int .u8 0 :: Value.int .u8 0 :: Value.int .u8 0 :: Value.int .u8 0 :: Value.int .u8 0 :: Value.int .u8 0 :: Value.int .u8 0 :: Value.int .u8 0 :: Value.int .u8 0 :: Value.int .u8 0 :: Value.int .u8 0 :: Value.int .u8 0 :: Value.int .u8 0 :: Value.int .u8 0 :: Value.int .u8 0 :: Value.int .u8 0 :: Value.int .u8 0 :: Value.int .u8 0 :: Value.int .u8 0 :: Value.int .u8 0 :: Value.int .u8 0 :: Value.int .u8 0 :: Value.int .u8 0 :: Value.int .u8 0 :: Value.int .u8 0 :: Value.int .u8 0 :: Value.int .u8 0 :: Value.int .u8 0 :: Value.int .u8 0 :: Value.int .u8 0 :: Value.int .u8 0 :: Value.int .u8 0 :: Value.int .u8 0 :: Value.int .u8 0 :: Value.int .u8 0 :: Value.int .u8 0 :: Value.int .u8 0 :: Value.int .u8 0 :: Value.int .u8 0 :: Value.int .u8 0 :: Value.int .u8 0 :: Value.int .u8 0 :: Value.int .u8 0 :: Value.int .u8 0 :: Value.int .u8 0 :: Value.int .u8 0 :: Value.int .u8 0 :: Value.int .u8 0 :: Value.int .u8 0 :: Value.int .u8 0 :: Value.int .u8 0 :: Value.int .u8 0 :: Value.int .u8 0 :: Value.int .u8 0 :: Value.int .u8 0 :: Value.int .u8 0 :: Value.int .u8 0 :: Value.int .u8 0 :: Value.int .u8 0 :: Value.int .u8 0 :: []).toArray 24) = w1 at *
  have lg4 := bg4.lt
  apply wp_region_once_tail (m := 5) (Z := []) (D := [[], [0], [], [0, 1, 2], [0, 1, 2, 3], [0, 1, 2, 3, 4]]) (J := [[], [0], [], [2], [1, 3]]) (Je := [4]) (Rs := [Is _, Is _, Is _, Is _, Is _])
  · kernel_rfl
  · kernel_rfl
  · kernel_rfl
  · kernel_rfl
  · kernel_rfl
  · kernel_rfl
  · kernel_rfl
  · exact fun h => absurd rfl h
  · intro u
    simp only [List.take_succ_cons, List.take_zero, List.map_cons, List.map_nil, fillU, List.setIfInBounds_toArray, List.set_cons_zero, List.set_cons_succ, Nat.zero_add, Nat.reduceAdd]
    exact rfl
  · simp only [List.take_succ_cons, List.take_zero]
    refine ⟨fun u W hb hd K hK => ?_, ?_⟩
    · clear hd
      rw [if_pos (by rfl)]
      refine wp_load_mid 59 (.global 0) rfl 0 0 rfl (kC (gx)) _ ((hT.up hb0 hb).baseX) Tryd.underlying59 rfl (infoN.trans (by rw [kC_length])) ?_
      exact hK _ _ _ rfl (Below.refl _ _) IsOut
    refine ⟨fun u W hb hd K hK => ?_, ?_⟩
    · simp only [Facts, nthR, Is, and_true] at hd
      simp only [hd] at hK ⊢
      clear hd
      go_simp
      refine (BytK gx _).mono ?_
      rintro e wy ⟨rfl, hby⟩
      exact hK _ _ _ rfl hby IsOut
    refine ⟨fun u W hb hd K hK => ?_, ?_⟩
    · clear hd
      rw [if_pos (by rfl)]
      refine wp_load_mid 59 (.global 1) rfl 1 0 rfl (kC (gy)) _ ((hT.up hb0 hb).baseY) Tryd.underlying59 rfl (infoN.trans (by rw [kC_length])) ?_
      exact hK _ _ _ rfl (Below.refl _ _) IsOut
    refine ⟨fun u W hb hd K hK => ?_, ?_⟩
    · simp only [Facts, nthR, Is, and_true] at hd
      simp only [hd] at hK ⊢
      clear hd
      go_simp
      refine (BytK gy _).mono ?_
      rintro e wy ⟨rfl, hby⟩
      exact hK _ _ _ rfl hby IsOut
    refine ⟨fun u W hb hd K hK => ?_, ?_⟩
    · simp only [Facts, nthR, Is, and_true] at hd
      simp only [hd] at hK ⊢
      clear hd
      rw [if_pos (by rfl)]
      refine wp_built2 24 (.tmp 2) (.tmp 4) rfl (.agg ((kB gx).map B8).toArray) (.agg ((kB gy).map B8).toArray) rfl rfl (ptK gx gy).toArray (builtK gx gy) ?_
      exact hK _ _ _ rfl (Below.refl _ _) IsOut
    exact trivial
  · skip
    exact trivial
  · exact (.is (.is (.is (.is (.is .nil)))))
  · intro u W hb hd
    simp only [List.drop_succ_cons, List.drop_zero]
    simp only [Facts, nthR, Is, and_true] at hd
    have h4 := hd
    clear hd
    simp only [h4]
    clear h4
    have hsz := hb0.size
    have hGo := HG.out
    replace bg4 := bg4.below hb lg4
    replace hb0 := hb0.trans (hb.mono hb0.size)
    clear hb
    go_wp2_with (first
      | ((with_reducible refine (?_ : wpList _ _ _ (Oper.mk none _ _ _ _ _ :: _) _ _)); go_loud (refine wpList_store_blk rfl 24 (.tmp 0) (.tmp 5) rfl rfl g4 (ptK (gx) (gy)) rfl rfl _ _ (bg4) (infoPt.trans (by rw [ptK_length])) (by first | with_reducible rfl | rw [ptK_length, ptZ_length]) (onePt _ _) ?_); intro wz bn hgs; replace hb0 := below_new hb0 hgs (by omega) hb0.size; clear hgs bg4; have bg4 := bn; clear bn))
    clear hsz hGo lg4
    have lg4 := bg4.lt
    refine bodyPost_ret (v := .agg _) (results_cell_row rfl _ _ g4 24 _ (0, 0) _ rfl bg4.raw Tryd.underlying24 rfl (infoPt.trans (by rw [List.size_toArray, ptK_length]))) rfl ?_
    exact ⟨rfl, hb0⟩
theorem builtN0 : Tryd.prog.built 59 [] = some (nC zeroP).toArray := by kernel_rfl
def secretB (B : List UInt8) : Bool := !eqP (ofTo B 32) zeroP && lessP (ofTo B 32) orderP
set_option maxRecDepth 100000 in
set_option maxHeartbeats 1000000 in
theorem isSecret_k (B : List UInt8) (w : World) (hT : TabsC w) (hB : Hid (B.length = 32)) : Calls Tryd.prog 49 #[.agg (B.map B8).toArray] w fun e w' => e = .returned (.bool (secretB B)) ∧ Below w.heap.size w w' := by
  obtain ⟨bz, HZ⟩ : ∃ b, Hid (secretB B = b) := ⟨_, Lib.hid rfl⟩
  rw [HZ.out]
  obtain ⟨n, hnB⟩ : ∃ n, Hid (ofTo B 32 = n) := ⟨_, Lib.hid rfl⟩
  obtain ⟨b0, h0⟩ : ∃ b, Hid (eqP n zeroP = b) := ⟨_, Lib.hid rfl⟩
  obtain ⟨b1, hl⟩ : ∃ b, Hid (lessP n orderP = b) := ⟨_, Lib.hid rfl⟩
  have HB := Lib.hid (show (!b0 && b1) = bz by rw [← HZ.out, ← h0.out, ← hl.out, ← hnB.out]; rfl)
  go_enter Tryd.func49, Tryd.ntmps49
  go_upto_region 1 with (fail)
  obtain ⟨g1, hg1⟩ : ∃ g1, g1 = w.heap.size := ⟨_, rfl⟩
  have bg1 : Blk (w.alloc (.cells (B.map B8).toArray 22)) g1 22 (B.map B8) := by rw [hg1]; exact blk_allocs [.cells (B.map B8).toArray 22] w 0 22 (B.map B8) rfl
  have hb0 : Below w.heap.size w ((w.alloc (.cells (B.map B8).toArray 22))) := below_allocs [.cells (B.map B8).toArray 22] w
  have HG := Lib.hid (show w.heap.size ≤ g1 by omega)
  simp only [← hg1]
  clear hg1
  generalize w.alloc (.cells (B.map B8).toArray 22) = w1 at *
  have lg1 := bg1.lt
  go_upto_region 2 with (first
    | ((with_reducible refine (?_ : wpList _ _ _ (Oper.mk (some 4) _ _ _ _ _ :: _) _ _)); go_loud (refine wpList_load_mid rfl 22 (.tmp 1) rfl g1 0 rfl (B.map B8) _ (rangeAt_of_blk bg1) Tryd.underlying22 rfl (info40.trans (by rw [List.length_map, hB.out])) ?_))
    | (go_at_call 42; refine (OfN hnB hB w1).mono ?_; rintro e wx ⟨rfl, hbx⟩)
    | ((with_reducible refine (?_ : wpList _ _ _ (Oper.mk none _ _ _ _ _ :: _) _ _)); go_loud (refine wpList_store_blk rfl 59 (.tmp 3) (.tmp 5) rfl rfl wx.heap.size (nC n) rfl rfl _ _ (Blk.new_of wx 59 #[.int .u64 0, .int .u64 0, .int .u64 0, .int .u64 0] (nC zeroP) rfl) (infoN.trans (by rw [nC_length])) (by rw [nC_length, nC_length]) (one4 _) ?_); intro w2 bn hgs))
  have hxa : Below wx.heap.size wx (wx.alloc (.cells #[.int .u64 0, .int .u64 0, .int .u64 0, .int .u64 0] 59)) := (Below.refl _ _).alloc (Nat.le_refl _) _
  have hxb := hbx.trans ((below_new hxa hgs (Nat.le_refl _) hxa.size).mono hbx.size)
  clear hxa hgs hbx
  obtain ⟨gi, hgi⟩ : ∃ gi, gi = wx.heap.size := ⟨_, rfl⟩
  rw [← hgi] at bn
  simp only [← hgi]
  clear hgi
  replace hb0 := hb0.trans (hxb.mono hb0.size)
  clear hxb lg1 bg1
  have bgi := bn
  clear bn
  have hT2 := hT.below hb0
  have he : ∀ W, (Op.equalIn 10000 59 (.agg (nC n).toArray) (.agg (nC zeroP).toArray)).run Tryd.prog W = .ok b0 W := fun W => by rw [← h0.out]; exact eqN_run n zeroP W
  cases b0 with
  | true =>
    go_wp2_with (first
      | ((with_reducible refine (?_ : wpList _ _ _ (Oper.mk (some 6) _ _ _ _ _ :: _) _ _)); go_loud (refine wpList_load_mid rfl 59 (.tmp 3) rfl gi 0 rfl (nC n) _ (rangeAt_of_blk bgi) Tryd.underlying59 rfl (infoN.trans (by rw [nC_length])) ?_))
      | ((with_reducible refine (?_ : wpList _ _ _ (Oper.mk (some 7) _ _ _ _ _ :: _) _ _)); go_loud (refine wpList_built0 rfl 59 rfl (nC zeroP).toArray builtN0 ?_)))
    refine bodyPost_ret (results_tmp Tryd.results49 _ _ _) rfl ?_
    exact ⟨by rw [← HB.out]; rfl, hb0⟩
  | false =>
    go_wp2_with (first
      | ((with_reducible refine (?_ : wpList _ _ _ (Oper.mk (some 6) _ _ _ _ _ :: _) _ _)); go_loud (refine wpList_load_mid rfl 59 (.tmp 3) rfl gi 0 rfl (nC n) _ (rangeAt_of_blk bgi) Tryd.underlying59 rfl (infoN.trans (by rw [nC_length])) ?_))
      | ((with_reducible refine (?_ : wpList _ _ _ (Oper.mk (some 7) _ _ _ _ _ :: _) _ _)); go_loud (refine wpList_built0 rfl 59 rfl (nC zeroP).toArray builtN0 ?_))
      | ((with_reducible refine (?_ : wpList _ _ _ (Oper.mk (some 10) _ _ _ _ _ :: _) _ _)); go_loud (refine BigFrame.wpList_want (by rfl) (fun K hK => wp_load_mid 59 (.tmp 3) rfl gi 0 rfl (nC n) _ (rangeAt_of_blk bgi) Tryd.underlying59 rfl (infoN.trans (by rw [nC_length])) (hK _ _ ?_))))
      | ((with_reducible refine (?_ : wpList _ _ _ (Oper.mk (some 11) _ _ _ _ _ :: _) _ _)); go_loud (refine BigFrame.wpList_want (by rfl) (fun K hK => wp_load_mid 59 (.global 2) rfl 2 0 rfl (nC orderP) _ hT2.order Tryd.underlying59 rfl (infoN.trans (by rw [nC_length])) (hK _ _ ?_))))
      | (go_at_call 51; refine (LesN hl.out w2).mono ?_; rintro e wy ⟨rfl, hby⟩))
    refine bodyPost_ret (results_tmp Tryd.results49 _ _ _) rfl ?_
    exact ⟨by rw [← HB.out]; cases b1 <;> rfl, hb0.trans (hby.mono hb0.size)⟩
def orderB : List UInt8 := bsTo orderP 32
theorem orderB_length : orderB.length = 32 := bsTo_length _ _
set_option maxRecDepth 100000 in
set_option maxHeartbeats 1000000 in
theorem order_k (w : World) (hT : TabsC w) : Calls Tryd.prog 15 #[] w fun e w' => e = .returned (.agg (orderB.map B8).toArray) ∧ Below w.heap.size w w' := by
  obtain ⟨z, hz⟩ : ∃ z, Hid (z = orderB.map B8) := ⟨_, Lib.hid rfl⟩
  rw [← hz.out]
  go_enter Tryd.func15, Tryd.ntmps15
  go_upto_region 1 with (fail)
  obtain ⟨g1, hg1⟩ : ∃ g1, g1 = w.heap.size := ⟨_, rfl⟩
  have bg1 : Blk (w.alloc (.cells #[.int .u8 0, .int .u8 0, .int .u8 0, .int .u8 0, .int .u8 0, .int .u8 0, .int .u8 0, .int .u8 0, .int .u8 0, .int .u8 0, .int .u8 0, .int .u8 0, .int .u8 0, .int .u8 0, .int .u8 0, .int .u8 0, .int .u8 0, .int .u8 0, .int .u8 0, .int .u8 0, .int .u8 0, .int .u8 0, .int .u8 0, .int .u8 0, .int .u8 0, .int .u8 0, .int .u8 0, .int .u8 0, .int .u8 0, .int .u8 0, .int .u8 0, .int .u8 0] 22)) g1 22 (zero32.map B8) := by rw [hg1]; exact blk_allocs [.cells #[.int .u8 0, .int .u8 0, .int .u8 0, .int .u8 0, .int .u8 0, .int .u8 0, .int .u8 0, .int .u8 0, .int .u8 0, .int .u8 0, .int .u8 0, .int .u8 0, .int .u8 0, .int .u8 0, .int .u8 0, .int .u8 0, .int .u8 0, .int .u8 0, .int .u8 0, .int .u8 0, .int .u8 0, .int .u8 0, .int .u8 0, .int .u8 0, .int .u8 0, .int .u8 0, .int .u8 0, .int .u8 0, .int .u8 0, .int .u8 0, .int .u8 0, .int .u8 0] 22] w 0 22 (zero32.map B8) rfl
  have hb0 : Below w.heap.size w ((w.alloc (.cells #[.int .u8 0, .int .u8 0, .int .u8 0, .int .u8 0, .int .u8 0, .int .u8 0, .int .u8 0, .int .u8 0, .int .u8 0, .int .u8 0, .int .u8 0, .int .u8 0, .int .u8 0, .int .u8 0, .int .u8 0, .int .u8 0, .int .u8 0, .int .u8 0, .int .u8 0, .int .u8 0, .int .u8 0, .int .u8 0, .int .u8 0, .int .u8 0, .int .u8 0, .int .u8 0, .int .u8 0, .int .u8 0, .int .u8 0, .int .u8 0, .int .u8 0, .int .u8 0] 22))) := below_allocs [.cells #[.int .u8 0, .int .u8 0, .int .u8 0, .int .u8 0, .int .u8 0, .int .u8 0, .int .u8 0, .int .u8 0, .int .u8 0, .int .u8 0, .int .u8 0, .int .u8 0, .int .u8 0, .int .u8 0, .int .u8 0, .int .u8 0, .int .u8 0, .int .u8 0, .int .u8 0, .int .u8 0, .int .u8 0, .int .u8 0, .int .u8 0, .int .u8 0, .int .u8 0, .int .u8 0, .int .u8 0, .int .u8 0, .int .u8 0, .int .u8 0, .int .u8 0, .int .u8 0] 22] w
  have HG := Lib.hid (show w.heap.size ≤ g1 by omega)
  simp only [← hg1]
  clear hg1
  generalize w.alloc (.cells #[.int .u8 0, .int .u8 0, .int .u8 0, .int .u8 0, .int .u8 0, .int .u8 0, .int .u8 0, .int .u8 0, .int .u8 0, .int .u8 0, .int .u8 0, .int .u8 0, .int .u8 0, .int .u8 0, .int .u8 0, .int .u8 0, .int .u8 0, .int .u8 0, .int .u8 0, .int .u8 0, .int .u8 0, .int .u8 0, .int .u8 0, .int .u8 0, .int .u8 0, .int .u8 0, .int .u8 0, .int .u8 0, .int .u8 0, .int .u8 0, .int .u8 0, .int .u8 0] 22) = w1 at *
  have lg1 := bg1.lt
  have hT1 := hT.below hb0
  have hzl : z.length = 32 := by rw [hz.out, List.length_map, orderB_length]
  have hz1 : z.toArray.all (·.oneCell') = true := by rw [hz.out]; exact one8 _
  have hC : Calls Tryd.prog 34 #[.agg (nC orderP).toArray] w1 fun e w' => e = .returned (.agg z.toArray) ∧ Below w1.heap.size w1 w' := by rw [hz.out]; exact Bytes_any orderP w1
  have hGo := HG.out
  go_wp2_with (first
    | ((with_reducible refine (?_ : wpList _ _ _ (Oper.mk (some 1) _ _ _ _ _ :: _) _ _)); go_loud (refine wpList_load_mid rfl 59 (.global 2) rfl 2 0 rfl (nC orderP) _ hT1.order Tryd.underlying59 rfl (infoN.trans (by rw [nC_length])) ?_))
    | (go_at_call 34; refine hC.mono ?_; rintro e wx ⟨rfl, hbx⟩; have bx := bg1.below hbx lg1)
    | ((with_reducible refine (?_ : wpList _ _ _ (Oper.mk none _ _ _ _ _ :: _) _ _)); go_loud (refine wpList_store_blk rfl 22 (.tmp 0) (.tmp 2) rfl rfl g1 z rfl rfl _ _ bx (info40.trans (by rw [hzl])) (by rw [hzl]; rfl) hz1 ?_); intro w2 bn hgs))
  refine bodyPost_ret (v := .agg _) (results_cell_row rfl _ _ g1 22 _ (0, 0) _ rfl bn.raw Tryd.underlying22 rfl (info40.trans (by rw [List.size_toArray, hzl]))) rfl ?_
  have hsz := hb0.size
  exact ⟨rfl, below_new (hb0.trans (hbx.mono hsz)) hgs (by omega) (Nat.le_trans hsz hbx.size)⟩
end Go.Proofs.YtnkikhnllnbhfaaDoor
