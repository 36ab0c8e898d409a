/-
  The contract of the group's times.
-/
import Derived.Test.YtnkikhnllnbhfaaDoorCw7
import Derived.Test.YtnkikhnllnbhfaaDoorCw3
namespace Go.Proofs.YtnkikhnllnbhfaaDoor
open Go.RowKit
open CurveMath

theorem SumE {g : Nat} {p q r : P3} {w : World} (e : Hid (r = sum3 p q)) (h : GrpAt w g) (hT : TabsC w) : Calls Tryd.prog 46 #[.agg #[.pointer (some ⟨g, 0, none⟩)], .agg (spC p).toArray, .agg (spC q).toArray] w fun e w' => e = .returned (.agg (spC r).toArray) ∧ Below w.heap.size w w' := by rw [e.out]; exact sum_k g p q w h hT
theorem ChoE {b : Nat} {p q r : P3} {w : World} (hb : b ≤ 1) (e : Hid (r = if b = 1 then p else q)) : Calls Tryd.prog 56 #[.int .i64 (b : Int), .agg (spC p).toArray, .agg (spC q).toArray] w fun e w' => e = .returned (.agg (spC r).toArray) ∧ Below w.heap.size w w' := by rw [e.out]; exact choose_k b hb p q w
theorem BitE {n : P4} {j b : Nat} {w : World} (e : Hid (b = bitP n j)) (hn : n.ok) (hj : j < 256) : Calls Tryd.prog 57 #[.agg (nC n).toArray, .int .i64 (j : Int)] w fun e w' => e = .returned (.int .i64 (b : Int)) ∧ Below w.heap.size w w' := by rw [e.out]; exact Bit_in n j w hn hj
set_option maxRecDepth 100000 in
set_option maxHeartbeats 2000000 in
theorem times_k (g : Nat) (n : P4) (p : P3) (w : World) (h : GrpAt w g) (hT : TabsC w) (hn : n.ok) : Calls Tryd.prog 41 #[.agg #[.pointer (some ⟨g, 0, none⟩)], .agg (nC n).toArray, .agg (spC p).toArray] w fun e w' => e = .returned (.agg (spC (times3 n.val p 256)).toArray) ∧ Below w.heap.size w w' := by
  go_enter Tryd.func41, Tryd.ntmps41
  go_upto_region 1 with (fail)
  obtain ⟨g6, hg6⟩ : ∃ g6, g6 = w.heap.size + 1 + 1 + 1 := ⟨_, rfl⟩
  obtain ⟨g5, hg5⟩ : ∃ g5, g5 = w.heap.size + 1 + 1 := ⟨_, rfl⟩
  obtain ⟨g4, hg4⟩ : ∃ g4, g4 = w.heap.size + 1 := ⟨_, rfl⟩
  obtain ⟨g3, hg3⟩ : ∃ g3, g3 = w.heap.size := ⟨_, rfl⟩
  have bg3 : Blk ((((w.alloc (.cells #[.pointer (some ⟨g, 0, none⟩)] 62)).alloc (.cells (nC n).toArray 59)).alloc (.cells (spC p).toArray 67)).alloc (.cells #[.int .u64 0, .int .u64 0, .int .u64 0, .int .u64 0, .int .u64 0, .int .u64 0, .int .u64 0, .int .u64 0, .int .u64 0, .int .u64 0, .int .u64 0, .int .u64 0] 67)) g3 62 ([.pointer (some ⟨g, 0, none⟩)]) := by rw [hg3]; exact blk_allocs [.cells #[.pointer (some ⟨g, 0, none⟩)] 62, .cells (nC n).toArray 59, .cells (spC p).toArray 67, .cells #[.int .u64 0, .int .u64 0, .int .u64 0, .int .u64 0, .int .u64 0, .int .u64 0, .int .u64 0, .int .u64 0, .int .u64 0, .int .u64 0, .int .u64 0, .int .u64 0] 67] w 0 62 ([.pointer (some ⟨g, 0, none⟩)]) rfl
  have bg4 : Blk ((((w.alloc (.cells #[.pointer (some ⟨g, 0, none⟩)] 62)).alloc (.cells (nC n).toArray 59)).alloc (.cells (spC p).toArray 67)).alloc (.cells #[.int .u64 0, .int .u64 0, .int .u64 0, .int .u64 0, .int .u64 0, .int .u64 0, .int .u64 0, .int .u64 0, .int .u64 0, .int .u64 0, .int .u64 0, .int .u64 0] 67)) g4 59 (nC n) := by rw [hg4]; exact blk_allocs [.cells #[.pointer (some ⟨g, 0, none⟩)] 62, .cells (nC n).toArray 59, .cells (spC p).toArray 67, .cells #[.int .u64 0, .int .u64 0, .int .u64 0, .int .u64 0, .int .u64 0, .int .u64 0, .int .u64 0, .int .u64 0, .int .u64 0, .int .u64 0, .int .u64 0, .int .u64 0] 67] w 1 59 (nC n) rfl
  have bg5 : Blk ((((w.alloc (.cells #[.pointer (some ⟨g, 0, none⟩)] 62)).alloc (.cells (nC n).toArray 59)).alloc (.cells (spC p).toArray 67)).alloc (.cells #[.int .u64 0, .int .u64 0, .int .u64 0, .int .u64 0, .int .u64 0, .int .u64 0, .int .u64 0, .int .u64 0, .int .u64 0, .int .u64 0, .int .u64 0, .int .u64 0] 67)) g5 67 (spC p) := by rw [hg5]; exact blk_allocs [.cells #[.pointer (some ⟨g, 0, none⟩)] 62, .cells (nC n).toArray 59, .cells (spC p).toArray 67, .cells #[.int .u64 0, .int .u64 0, .int .u64 0, .int .u64 0, .int .u64 0, .int .u64 0, .int .u64 0, .int .u64 0, .int .u64 0, .int .u64 0, .int .u64 0, .int .u64 0] 67] w 2 67 (spC p) rfl
  have bg6 : Blk ((((w.alloc (.cells #[.pointer (some ⟨g, 0, none⟩)] 62)).alloc (.cells (nC n).toArray 59)).alloc (.cells (spC p).toArray 67)).alloc (.cells #[.int .u64 0, .int .u64 0, .int .u64 0, .int .u64 0, .int .u64 0, .int .u64 0, .int .u64 0, .int .u64 0, .int .u64 0, .int .u64 0, .int .u64 0, .int .u64 0] 67)) g6 67 (spZ) := by rw [hg6]; exact blk_allocs [.cells #[.pointer (some ⟨g, 0, none⟩)] 62, .cells (nC n).toArray 59, .cells (spC p).toArray 67, .cells #[.int .u64 0, .int .u64 0, .int .u64 0, .int .u64 0, .int .u64 0, .int .u64 0, .int .u64 0, .int .u64 0, .int .u64 0, .int .u64 0, .int .u64 0, .int .u64 0] 67] w 3 67 (spZ) rfl
  have hb0 : Below w.heap.size w (((((w.alloc (.cells #[.pointer (some ⟨g, 0, none⟩)] 62)).alloc (.cells (nC n).toArray 59)).alloc (.cells (spC p).toArray 67)).alloc (.cells #[.int .u64 0, .int .u64 0, .int .u64 0, .int .u64 0, .int .u64 0, .int .u64 0, .int .u64 0, .int .u64 0, .int .u64 0, .int .u64 0, .int .u64 0, .int .u64 0] 67))) := below_allocs [.cells #[.pointer (some ⟨g, 0, none⟩)] 62, .cells (nC n).toArray 59, .cells (spC p).toArray 67, .cells #[.int .u64 0, .int .u64 0, .int .u64 0, .int .u64 0, .int .u64 0, .int .u64 0, .int .u64 0, .int .u64 0, .int .u64 0, .int .u64 0, .int .u64 0, .int .u64 0] 67] w
  have HG := Lib.hid (show w.heap.size ≤ g3 ∧ g3 < g4 ∧ g4 < g5 ∧ g5 < g6 by omega)
  simp only [← hg6]
  simp only [← hg5]
  simp only [← hg4]
  simp only [← hg3]
  clear hg6
  clear hg5
  clear hg4
  clear hg3
  generalize (((w.alloc (.cells #[.pointer (some ⟨g, 0, none⟩)] 62)).alloc (.cells (nC n).toArray 59)).alloc (.cells (spC p).toArray 67)).alloc (.cells #[.int .u64 0, .int .u64 0, .int .u64 0, .int .u64 0, .int .u64 0, .int .u64 0, .int .u64 0, .int .u64 0, .int .u64 0, .int .u64 0, .int .u64 0, .int .u64 0] 67) = w1 at *
  have lg3 := bg3.lt
  have lg4 := bg4.lt
  have lg5 := bg5.lt
  have lg6 := bg6.lt
  have hM := h.up hb0
  have hT1 := hT.below hb0
  go_upto_region 2 with (first
    | ((with_reducible refine (?_ : wpList _ _ _ (Oper.mk (some 9) _ _ _ _ _ :: _) _ _)); go_loud (refine wpList_load_mid rfl 67 (.global 5) rfl 5 0 rfl (spC ⟨0, 1, 0⟩) _ hT1.infinity Tryd.underlying67 rfl (infoS.trans (by rw [spC_length])) ?_))
    | ((with_reducible refine (?_ : wpList _ _ _ (Oper.mk none _ _ _ _ _ :: _) _ _)); go_loud (refine wpList_store_blk rfl 67 (.tmp 7) (.tmp 9) rfl rfl w1.heap.size (spC ⟨0, 1, 0⟩) rfl rfl _ _ (Blk.new_of w1 67 #[.int .u64 0, .int .u64 0, .int .u64 0, .int .u64 0, .int .u64 0, .int .u64 0, .int .u64 0, .int .u64 0, .int .u64 0, .int .u64 0, .int .u64 0, .int .u64 0] spZ rfl) (infoS.trans (by rw [spC_length])) (by rw [spC_length, spZ_length]) (oneS _) ?_); intro w2 bg7 hgs))
  have hxa : Below w1.heap.size w1 (w1.alloc (.cells #[.int .u64 0, .int .u64 0, .int .u64 0, .int .u64 0, .int .u64 0, .int .u64 0, .int .u64 0, .int .u64 0, .int .u64 0, .int .u64 0, .int .u64 0, .int .u64 0] 67)) := (Below.refl _ _).alloc (Nat.le_refl _) _
  have hxb := below_new hxa hgs (Nat.le_refl _) hxa.size
  clear hxa hgs hT1
  have hsz := hb0.size
  have hG7 := Lib.hid (show g6 < w1.heap.size ∧ w.heap.size ≤ w1.heap.size from ⟨lg6, hsz⟩)
  obtain ⟨g7, hg7⟩ : ∃ g7, g7 = w1.heap.size := ⟨_, rfl⟩
  rw [← hg7] at bg7 hG7
  simp only [← hg7]
  clear hg7 hsz
  replace HG := Lib.hid (And.intro HG.out hG7.out)
  clear hG7
  replace bg3 := bg3.below hxb lg3
  replace bg4 := bg4.below hxb lg4
  replace bg5 := bg5.below hxb lg5
  replace bg6 := bg6.below hxb lg6
  replace hM := hM.up hxb
  replace hb0 := hb0.trans (hxb.mono hb0.size)
  clear hxb lg3 lg4 lg5 lg6
  go_wp2
  go_loopw [8] (fun i wr => ∃ k : Nat, k ≤ 256 ∧ i = .int .i64 (255 - (k : Int)) ∧ Blk wr g7 67 (spC (times3 n.val p k)) ∧ Blk wr g3 62 [.pointer (some ⟨g, 0, none⟩)] ∧ Blk wr g4 59 (nC n) ∧ Blk wr g5 67 (spC p) ∧ Blk wr g6 67 spZ ∧ GrpAt wr g ∧ Below w.heap.size w wr) (fun i _ => (intOf i + 1).toNat)
  case atStart => exact ⟨0, by omega, rfl, bg7, bg3, bg4, bg5, bg6, hM, hb0⟩
  case round =>
    clear bg3 bg4 bg5 bg6 bg7 hM hb0
    obtain ⟨k, hk, rfl, bg7, bg3, bg4, bg5, bg6, hM, hb0⟩ := hrel
    have lg3 := bg3.lt
    have lg4 := bg4.lt
    have lg5 := bg5.lt
    have lg6 := bg6.lt
    have lg7 := bg7.lt
    by_cases hlt : k < 256
    · obtain ⟨j, hje⟩ : ∃ j : Nat, (255 - (k : Int)) = (j : Int) := ⟨255 - k, by omega⟩
      have hj : j < 256 := by omega
      have hkj := Lib.hid (show j = 255 - k by omega)
      have hKL := Lib.hid hlt
      rw [hje]
      have hHJ := Lib.hid hje
      clear hje hlt hk
      have hd2 : decide ((0 : Int) ≤ (j : Int)) = true := by simp
      obtain ⟨q, hq⟩ : ∃ q, Hid (q = times3 n.val p k) := ⟨_, Lib.hid rfl⟩
      rw [← hq.out] at bg7
      obtain ⟨d, hd⟩ : ∃ d, Hid (d = sum3 q q) := ⟨_, Lib.hid rfl⟩
      obtain ⟨s, hs⟩ : ∃ s, Hid (s = sum3 d p) := ⟨_, Lib.hid rfl⟩
      obtain ⟨b, hbit⟩ : ∃ b, Hid (b = bitP n j) := ⟨_, Lib.hid rfl⟩
      have hb1 : b ≤ 1 := by rw [hbit.out]; exact bitP_le _ _
      obtain ⟨r, hr⟩ : ∃ r, Hid (r = if b = 1 then s else d) := ⟨_, Lib.hid rfl⟩
      go_upto_region 6 with (first
        | ((with_reducible refine (?_ : wpList _ _ _ (Oper.mk (some 14) _ _ _ _ _ :: _) _ _)); go_loud (refine wpList_load_mid rfl 62 (.tmp 3) rfl g3 0 rfl [.pointer (some ⟨g, 0, none⟩)] _ (rangeAt_of_blk bg3) Tryd.underlying62 rfl infoG ?_))
        | ((with_reducible refine (?_ : wpList _ _ _ (Oper.mk (some 15) _ _ _ _ _ :: _) _ _)); go_loud (refine wpList_load_mid rfl 67 (.tmp 7) rfl g7 0 rfl (spC q) _ (rangeAt_of_blk bg7) Tryd.underlying67 rfl (infoS.trans (by rw [spC_length])) ?_))
        | ((with_reducible refine (?_ : wpList _ _ _ (Oper.mk (some 16) _ _ _ _ _ :: _) _ _)); go_loud (refine wpList_load_mid rfl 67 (.tmp 7) rfl g7 0 rfl (spC q) _ (rangeAt_of_blk bg7) Tryd.underlying67 rfl (infoS.trans (by rw [spC_length])) ?_))
        | (go_at_call 46; refine (SumE hd hM (hT.below hb0)).mono ?_; rintro e wx ⟨rfl, hbx⟩; replace bg7 := bg7.below hbx lg7)
        | ((with_reducible refine (?_ : wpList _ _ _ (Oper.mk none _ _ _ _ _ :: _) _ _)); go_loud (refine wpList_store_blk rfl 67 (.tmp 7) (.tmp 17) rfl rfl g7 (spC d) rfl rfl _ _ bg7 (infoS.trans (by rw [spC_length])) (by rw [spC_length, spC_length]) (oneS _) ?_); intro w3 bn hgs))
      have hGo := HG.out
      have lG := h.lt
      clear bg7
      have bg7 := bn
      clear bn
      replace bg3 := (bg3.below hbx lg3).grown hgs (fun e => by injection e with e; omega)
      replace bg4 := (bg4.below hbx lg4).grown hgs (fun e => by injection e with e; omega)
      replace bg5 := (bg5.below hbx lg5).grown hgs (fun e => by injection e with e; omega)
      replace bg6 := (bg6.below hbx lg6).grown hgs (fun e => by injection e with e; omega)
      replace hM := (hM.up hbx).grown hgs (fun e => by omega)
      replace hb0 := below_new (hb0.trans (hbx.mono hb0.size)) hgs (by omega) (Nat.le_trans hb0.size hbx.size)
      clear hbx hgs hGo lG lg3 lg4 lg5 lg6 lg7
      have lg3 := bg3.lt
      have lg4 := bg4.lt
      have lg5 := bg5.lt
      have lg6 := bg6.lt
      have lg7 := bg7.lt
      apply wp_region_once_tail (m := 9) (Z := []) (D := [[], [], [0, 1], [], [], [], [0, 1, 2, 3, 4, 5], [], [0, 1, 2, 3, 4, 5, 6, 7], [0, 1, 2, 3, 4, 5, 6, 7, 8]]) (J := [[], [], [0, 1], [], [], [], [3, 4, 5], [], [2, 6, 7]]) (Je := [8]) (Rs := [Is _, Is _, Is _, Is _, Is _, Is _, Is _, Is _, Is _])
      · kernel_rfl
      · kernel_rfl
      · kernel_rfl
      · kernel_rfl
      · kernel_rfl
      · kernel_rfl
      · kernel_rfl
      · exact fun h => absurd rfl h
      · intro u
        simp only [List.take_succ_cons, List.take_zero, List.map_cons, List.map_nil, fillU, List.setIfInBounds_toArray, List.set_cons_zero, List.set_cons_succ, Nat.zero_add, Nat.reduceAdd]
        exact rfl
      · simp only [List.take_succ_cons, List.take_zero]
        refine ⟨fun u W hb hd K hK => ?_, ?_⟩
        · clear hd
          rw [if_pos (by rfl)]
          refine wp_load_mid 59 (.tmp 4) rfl g4 0 rfl (nC (n)) _ (rangeAt_of_blk (bg4.below hb lg4)) Tryd.underlying59 rfl (infoN.trans (by rw [nC_length])) ?_
          exact hK _ _ _ rfl (Below.refl _ _) IsOut
        refine ⟨fun u W hb hd K hK => ?_, ?_⟩
        · clear hd
          go_simp
          apply hK
          · simp only [Act.put, List.setIfInBounds_toArray, List.set_cons_zero, List.set_cons_succ]
            exact rfl
          · exact Below.refl _ _
          · exact IsOut
        refine ⟨fun u W hb hd K hK => ?_, ?_⟩
        · simp only [Facts, nthR, Is, and_true] at hd
          simp only [hd] at hK ⊢
          clear hd
          go_simp
          refine (BitE hbit hn hj).mono ?_
          rintro e wy ⟨rfl, hby⟩
          exact hK _ _ _ rfl hby IsOut
        refine ⟨fun u W hb hd K hK => ?_, ?_⟩
        · clear hd
          rw [if_pos (by rfl)]
          refine wp_load_mid 62 (.tmp 3) rfl g3 0 rfl ([.pointer (some ⟨g, 0, none⟩)]) _ (rangeAt_of_blk (bg3.below hb lg3)) Tryd.underlying62 rfl (infoG.trans rfl) ?_
          exact hK _ _ _ rfl (Below.refl _ _) IsOut
        refine ⟨fun u W hb hd K hK => ?_, ?_⟩
        · clear hd
          rw [if_pos (by rfl)]
          refine wp_load_mid 67 (.tmp 7) rfl g7 0 rfl (spC d) _ (rangeAt_of_blk (bg7.below hb lg7)) Tryd.underlying67 rfl (infoS.trans (by rw [spC_length])) ?_
          exact hK _ _ _ rfl (Below.refl _ _) IsOut
        refine ⟨fun u W hb hd K hK => ?_, ?_⟩
        · clear hd
          rw [if_pos (by rfl)]
          refine wp_load_mid 67 (.tmp 5) rfl g5 0 rfl (spC p) _ (rangeAt_of_blk (bg5.below hb lg5)) Tryd.underlying67 rfl (infoS.trans (by rw [spC_length])) ?_
          exact hK _ _ _ rfl (Below.refl _ _) IsOut
        refine ⟨fun u W hb hd K hK => ?_, ?_⟩
        · simp only [Facts, nthR, Is, and_true] at hd
          simp only [hd] at hK ⊢
          clear hd
          go_simp
          refine (SumE hs (hM.up hb) (hT.up hb0 hb)).mono ?_
          rintro e wy ⟨rfl, hby⟩
          exact hK _ _ _ rfl hby IsOut
        refine ⟨fun u W hb hd K hK => ?_, ?_⟩
        · clear hd
          rw [if_pos (by rfl)]
          refine wp_load_mid 67 (.tmp 7) rfl g7 0 rfl (spC d) _ (rangeAt_of_blk (bg7.below hb lg7)) Tryd.underlying67 rfl (infoS.trans (by rw [spC_length])) ?_
          exact hK _ _ _ rfl (Below.refl _ _) IsOut
        refine ⟨fun u W hb hd K hK => ?_, ?_⟩
        · simp only [Facts, nthR, Is, and_true] at hd
          simp only [hd] at hK ⊢
          clear hd
          go_simp
          refine (ChoE hb1 hr).mono ?_
          rintro e wy ⟨rfl, hby⟩
          exact hK _ _ _ rfl hby IsOut
        exact trivial
      · skip
        exact trivial
      · exact (.is (.is (.is (.is (.is (.is (.is (.is (.is .nil)))))))))
      · intro u W hb hd
        simp only [List.drop_succ_cons, List.drop_zero]
        simp only [Facts, nthR, Is, and_true] at hd
        have h8 := hd
        clear hd
        simp only [h8]
        clear h8
        have lM := hM.lt
        have lG := h.lt
        have hsz := hb0.size
        have hGo := HG.out
        replace bg3 := bg3.below hb lg3
        replace bg4 := bg4.below hb lg4
        replace bg5 := bg5.below hb lg5
        replace bg6 := bg6.below hb lg6
        replace bg7 := bg7.below hb lg7
        replace hM := hM.up hb
        replace hb0 := hb0.trans (hb.mono hb0.size)
        clear hb
        go_wp2_with (first
          | ((with_reducible refine (?_ : wpList _ _ _ (Oper.mk none _ _ _ _ _ :: _) _ _)); go_loud (refine wpList_store_blk rfl 67 (.tmp 7) (.tmp 26) rfl rfl g7 (spC r) rfl rfl _ _ (bg7) (infoS.trans (by rw [spC_length])) (by first | with_reducible rfl | rw [spC_length, spC_length]) (oneS _) ?_); intro w4 bn hgs; replace bg3 := bg3.grown hgs (fun e => by injection e with e; omega); replace bg4 := bg4.grown hgs (fun e => by injection e with e; omega); replace bg5 := bg5.grown hgs (fun e => by injection e with e; omega); replace bg6 := bg6.grown hgs (fun e => by injection e with e; omega); replace hM := hM.grown hgs (fun e => by omega); replace hb0 := below_new hb0 hgs (by omega) hb0.size; clear hgs bg7; have bg7 := bn; clear bn))
        clear lM lG hsz hGo lg3 lg4 lg5 lg6 lg7
        have lg3 := bg3.lt
        have lg4 := bg4.lt
        have lg5 := bg5.lt
        have lg6 := bg6.lt
        have lg7 := bg7.lt
        go_roundw
        case rel =>
          have ht : times3 n.val p (k + 1) = r := by
            have e : bitP n j = n.val / 2 ^ (255 - k) % 2 := by rw [bitP_eq hn j hj, hkj.out]
            rw [hr.out, hs.out, hd.out, hq.out, hbit.out, e]
            rfl
          refine ⟨k + 1, by have := hKL.out; omega, by have := hHJ.out; first | go_num | (congr 1; omega), ?_, bg3, bg4, bg5, bg6, hM, hb0⟩
          rw [ht]
          exact bg7
        case measure => simp [intOf]
    · obtain rfl : k = 256 := by omega
      have hd2 : decide ((0 : Int) ≤ 255 - ((256 : Nat) : Int)) = false := by decide
      have hGo := HG.out
      go_wp2_with (first
        | ((with_reducible refine (?_ : wpList _ _ _ (Oper.mk (some 27) _ _ _ _ _ :: _) _ _)); go_loud (refine wpList_load_mid rfl 67 (.tmp 7) rfl g7 0 rfl (spC (times3 n.val p 256)) _ (rangeAt_of_blk bg7) Tryd.underlying67 rfl (infoS.trans (by rw [spC_length])) ?_))
        | ((with_reducible refine (?_ : wpList _ _ _ (Oper.mk none _ _ _ _ _ :: _) _ _)); go_loud (refine wpList_store_blk rfl 67 (.tmp 6) (.tmp 27) rfl rfl g6 (spC (times3 n.val p 256)) rfl rfl _ _ bg6 (infoS.trans (by rw [spC_length])) (by rw [spC_length, spZ_length]) (oneS _) ?_); intro wz bn hgs))
      refine bodyPost_ret (v := .agg _) (results_cell_row rfl _ _ g6 67 _ (0, 0) _ rfl bn.raw Tryd.underlying67 rfl (infoS.trans (by rw [List.size_toArray, spC_length]))) rfl ?_
      exact ⟨rfl, below_new hb0 hgs (by omega) hb0.size⟩
end Go.Proofs.YtnkikhnllnbhfaaDoor
